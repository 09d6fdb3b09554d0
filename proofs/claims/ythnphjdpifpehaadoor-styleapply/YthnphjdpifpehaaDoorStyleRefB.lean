/- The reference's ApplyTo. -/
import Derived.Test.YthnphjdpifpehaaDoorStyleRefA
namespace Go.Proofs.YthnphjdpifpehaaDoor
open Go.ChangeShapes Go.WideShapes Go.ChangeAt Go.RowKit Go.Maps
namespace Sty
set_option maxHeartbeats 40000000 in
set_option maxRecDepth 100000 in
theorem applyTo_some (s : Int × Int × Int) (b o c : Nat) (xs : List Int) (w : World) (hR : Row w b o xs) (h0 : xs ≠ []) (hlen : xs.length ≤ 140737488355328) (hc : xs.length ≤ c)
    (hw : ∀ x ∈ xs, -9223372036854775808 ≤ x ∧ x ≤ 9223372036854775807) :
    Calls Tryd.prog 10 #[stv s, .slice (some ⟨b, o, none⟩) xs.length c] w fun e w' => e = .returned (stv (applyL s xs)) ∧ Below w.heap.size w w' := by
  obtain ⟨f, bk, x⟩ := s
  have hpos : 0 < xs.length := by cases xs; exact absurd rfl h0; simp
  have HR : Hid (Row w b o xs) := hR
  have HW : Hid (∀ x ∈ xs, -9223372036854775808 ≤ x ∧ x ≤ 9223372036854775807) := hw
  clear hR hw h0
  have hz : ((xs.length : Int) == 0) = false := by simp only [beq_eq_false_iff_ne, ne_eq]; omega
  have hmm := @run_makeMap Tryd.prog
  obtain ⟨M, hM⟩ : ∃ M, M = ((w.alloc (.cells #[.int .i64 f, .int .i64 bk, .int .i64 x] 23)).alloc (.cells #[.int .i64 0, .int .i64 0, .int .i64 0] 23)).alloc (.cells #[.int .i64 0, .int .i64 0, .int .i64 0] 23) := ⟨_, rfl⟩
  have hMs : M.heap.size = w.heap.size + 1 + 1 + 1 := by rw [hM]; simp
  have hs0 : (M.alloc (.map #[] 0)).ownsMap Tryd.prog 3 (plainElem (H := Unit) Tryd.prog 3) M.heap.size 0 (lits []) := World.ownsMap_made _ _ _ _
  obtain ⟨W1, rs1, hs1, gs1⟩ := put_run hs0 (by decide) 1 1 (by decide) (by decide)
  clear hs0
  obtain ⟨W2, rs2, hs2, gs2⟩ := put_run hs1 (by decide) 2 2 (by decide) (by decide)
  replace gs2 := gs1.trans gs2; clear hs1 gs1
  obtain ⟨W3, rs3, hs3, gs3⟩ := put_run hs2 (by decide) 3 4 (by decide) (by decide)
  replace gs3 := gs2.trans gs3; clear hs2 gs2
  obtain ⟨W4, rs4, hs4, gs4⟩ := put_run hs3 (by decide) 4 8 (by decide) (by decide)
  replace gs4 := gs3.trans gs4; clear hs3 gs3
  obtain ⟨W5, rs5, hs5, gs5⟩ := put_run hs4 (by decide) 5 16 (by decide) (by decide)
  replace gs5 := gs4.trans gs5; clear hs4 gs4
  obtain ⟨W6, rs6, hs6, gs6⟩ := put_run hs5 (by decide) 7 32 (by decide) (by decide)
  replace gs6 := gs5.trans gs6; clear hs5 gs5
  obtain ⟨W7, rs7, hs7, gs7⟩ := put_run hs6 (by decide) 9 64 (by decide) (by decide)
  replace gs7 := gs6.trans gs7; clear hs6 gs6
  have ho0 : (W7.alloc (.map #[] 0)).ownsMap Tryd.prog 3 (plainElem (H := Unit) Tryd.prog 3) W7.heap.size 0 (lits []) := World.ownsMap_made _ _ _ _
  obtain ⟨V1, ro1, ho1, go1⟩ := put_run ho0 (by decide) 22 3 (by decide) (by decide)
  clear ho0
  obtain ⟨V2, ro2, ho2, go2⟩ := put_run ho1 (by decide) 23 4 (by decide) (by decide)
  replace go2 := go1.trans go2; clear ho1 go1
  obtain ⟨V3, ro3, ho3, go3⟩ := put_run ho2 (by decide) 24 8 (by decide) (by decide)
  replace go3 := go2.trans go3; clear ho2 go2
  obtain ⟨V4, ro4, ho4, go4⟩ := put_run ho3 (by decide) 25 16 (by decide) (by decide)
  replace go4 := go3.trans go4; clear ho3 go3
  obtain ⟨V5, ro5, ho5, go5⟩ := put_run ho4 (by decide) 27 32 (by decide) (by decide)
  replace go5 := go4.trans go5; clear ho4 go4
  obtain ⟨V6, ro6, ho6, go6⟩ := put_run ho5 (by decide) 29 64 (by decide) (by decide)
  replace go6 := go5.trans go6; clear ho5 go5
  have HS : Hid (MapAt W7 M.heap.size setM) := ⟨7, hs7⟩
  have HO : Hid (MapAt V6 W7.heap.size offM) := ⟨6, ho6⟩
  have GS : Hid ((M.alloc (.map #[] 0)).grownBy W7 (some M.heap.size)) := gs7
  have GO : Hid ((W7.alloc (.map #[] 0)).grownBy V6 (some W7.heap.size)) := go6
  clear hs7 ho6 gs7 go6
  rw [hMs] at rs1 rs2 rs3 rs4 rs5 rs6 rs7
  rw [hM] at rs1
  unfold stv
  go_enter Tryd.func10, Tryd.ntmps10
  go_wp2_with fail
  have hW7 : w.heap.size + 1 + 1 + 1 < W7.heap.size := by
    have := GS.out.size
    simp at this
    omega
  have bM : Below w.heap.size w M := by rw [hM]; exact (((Below.refl _ _).alloc (Nat.le_refl _) _).alloc (by simp) _).alloc (by simp; omega) _
  have bMm : Below w.heap.size w (M.alloc (.map #[] 0)) := bM.alloc bM.size _
  have bW : Below w.heap.size w W7 := bMm.grown GS.out bMm.size (fun j hj => by cases hj; omega)
  have bWm : Below w.heap.size w (W7.alloc (.map #[] 0)) := bW.alloc bW.size _
  have bV : Below w.heap.size w V6 := bWm.grown GO.out bWm.size (fun j hj => by cases hj; omega)
  have blk : ∀ j, j < w.heap.size + 1 + 1 + 1 → V6.heap[j]? = M.heap[j]? := fun j hj => by
    rw [GO.out.block j (by simp; omega) (by simp; omega), Below.heap_alloc _ _ _ (by omega), GS.out.block j (by simp; omega) (by simp; omega), Below.heap_alloc _ _ _ (by omega)]
  have m0 : M.heap[w.heap.size]? = some (.cells #[.int .i64 f, .int .i64 bk, .int .i64 x] 23 (0, 0)) := by
    rw [hM, Below.heap_alloc _ _ _ (by simp; omega), Below.heap_alloc _ _ _ (by simp)]; exact heap_alloc_new _ _
  have m1 : M.heap[w.heap.size + 1]? = some (.cells #[.int .i64 0, .int .i64 0, .int .i64 0] 23 (0, 0)) := by
    rw [hM, Below.heap_alloc _ _ _ (by simp)]; exact new2 w _ _ _
  have m2 : M.heap[w.heap.size + 1 + 1]? = some (.cells #[.int .i64 0, .int .i64 0, .int .i64 0] 23 (0, 0)) := by
    rw [hM]
    have := heap_alloc_new ((w.alloc (.cells #[.int .i64 f, .int .i64 bk, .int .i64 x] 23)).alloc (.cells #[.int .i64 0, .int .i64 0, .int .i64 0] 23)) (.cells #[.int .i64 0, .int .i64 0, .int .i64 0] 23)
    simpa using this
  have hS0 : MapAt V6 (w.heap.size + 1 + 1 + 1) setM := by
    have h := HS.out
    rw [hMs] at h
    refine h.block ?_
    rw [GO.out.block _ (by simp; omega) (by simp; omega), Below.heap_alloc _ _ _ hW7]
  go_loopg [1] xs.length (fun g l wr => ∃ (k m cp : Nat) (ad : Addr) (s : Int × Int × Int), k ≤ xs.length ∧ xs.length - k ≤ g ∧ l = .slice (some ad) m cp ∧ k + m = xs.length ∧ m ≤ cp ∧ (0 < m → ad = ⟨b, o + k, none⟩) ∧ Below w.heap.size w wr ∧ wr.heap[w.heap.size]? = some (.cells #[.int .i64 s.1, .int .i64 s.2.1, .int .i64 s.2.2] 23 (0, 0)) ∧ wr.heap[w.heap.size + 1]? = some (.cells #[.int .i64 0, .int .i64 0, .int .i64 0] 23 (0, 0)) ∧ wr.heap[w.heap.size + 1 + 1]? = some (.cells #[.int .i64 0, .int .i64 0, .int .i64 0] 23 (0, 0)) ∧ MapAt wr (w.heap.size + 1 + 1 + 1) setM ∧ MapAt wr W7.heap.size offM ∧ applyL s (xs.drop k) = applyL (f, bk, x) xs)
  case atStart => exact ⟨0, xs.length, c, ⟨b, o, none⟩, (f, bk, x), by omega, by omega, rfl, by omega, hc, fun _ => rfl, bV, (blk _ (by omega)).trans m0, (blk _ (by omega)).trans m1, (blk _ (by omega)).trans m2, hS0, HO.out, rfl⟩
  case round =>
    clear rs1 rs2 rs3 rs4 rs5 rs6 rs7 ro1 ro2 ro3 ro4 ro5 ro6 blk m0 m1 m2 hS0 bM bMm bW bWm bV HS HO GS GO hz hmm
    clear hMs hM
    obtain ⟨k, m, cp, ad, s, hk, hg, rfl, hm, hcp, had, hb, hv, hr, hn, hS, hO, hl⟩ := hrel
    have HL : Hid (applyL s (xs.drop k) = applyL (f, bk, x) xs) := hl
    have HS : Hid (MapAt wr (w.heap.size + 1 + 1 + 1) setM) := hS
    have HO : Hid (MapAt wr W7.heap.size offM) := hO
    clear hl hS hO
    have HRk : Hid (Row wr b (o + k) (xs.drop k)) := fun j hj => by
      have h := HR.out.drop k j hj
      exact (hb.cell (cell_lt h)).trans h
    have hlen : (xs.drop k).length = xs.length - k := by simp
    by_cases hlt : k < xs.length
    · obtain rfl := had (by omega)
      clear had
      obtain ⟨f', b', x'⟩ := s
      have ⟨c0, c1, c2, cf⟩ := cells_of hv
      have ⟨n0, n1, n2, nf⟩ := cells_of hn
      have cf0 := cf 0
      have cf1 := cf 1
      have cf2 := cf 2
      have q0 : wr.cell? ⟨b, o + k, none⟩ = some (.int .i64 (xs.getD k 0)) := by
        have := HRk.out 0 (by omega)
        rw [drop_cons xs k hlt] at this
        simpa using this
      have ⟨hy0, hy1⟩ : -9223372036854775808 ≤ xs.getD k 0 ∧ xs.getD k 0 ≤ 9223372036854775807 := HW.out _ (by simp [List.getD, hlt])
      have pos : (m : Int) > 0 := by omega
      by_cases hlg : isLg (xs.drop k) = true
      · have h3 : k + 2 < xs.length := by
          match hxs : xs.drop k, hlg with
          | _ :: _ :: _ :: l, _ =>
            rw [hxs] at hlen
            simp at hlen
            omega
        have HE3 : Hid (applyL (f', b', x') (xs.drop k) = applyL (lng (f', b', x') (xs.getD k 0) (xs.getD (k + 2) 0)) (xs.drop (k + 3))) := by
          have := applyL_long (f', b', x') (xs.drop k) hlg
          rw [List.drop_drop, drop_cons xs k hlt, drop_cons xs (k + 1) (by omega), drop_cons xs (k + 1 + 1) (by omega)] at this
          unfold Hid
          rw [drop_cons xs k hlt, drop_cons xs (k + 1) (by omega), drop_cons xs (k + 1 + 1) (by omega)]
          exact this
        have q1 : wr.cell? ⟨b, o + k + 1, none⟩ = some (.int .i64 (xs.getD (k + 1) 0)) := by
          have := HRk.out 1 (by omega)
          rw [drop_cons xs k hlt, drop_cons xs (k + 1) (by omega)] at this
          exact this
        have q2 : wr.cell? ⟨b, o + k + 2, none⟩ = some (.int .i64 (xs.getD (k + 2) 0)) := by
          have := HRk.out 2 (by omega)
          rw [drop_cons xs k hlt, drop_cons xs (k + 1) (by omega), drop_cons xs (k + 1 + 1) (by omega)] at this
          exact this
        have hyy2 : xs.getD (k + 2) 0 ≤ 9223372036854775807 := (HW.out _ (by simp [List.getD, h3])).2
        rw [drop_cons xs k hlt, drop_cons xs (k + 1) (by omega), drop_cons xs (k + 1 + 1) (by omega)] at hlg
        simp only [isLg, decide_eq_true_eq] at hlg
        obtain ⟨hlg, h5⟩ := hlg
        have h2m : 3 ≤ m := by omega
        generalize xs.getD k 0 = y0 at *
        generalize xs.getD (k + 1) 0 = y1 at *
        generalize xs.getD (k + 2) 0 = y2 at *
        by_cases h38 : y0 = 38
        · clear hlg
          have n38 : (y0 == 38) = true := by rw [h38]; rfl
          have e5 : (y1 == 5) = true := by rw [h5]; rfl
          by_cases hc0 : y2 < 0
          · have z : y2 < 0 := hc0
            have HE : Hid (applyL (f', b', x') (xs.drop k) = applyL (f', b', x') (xs.drop (k + 3))) := by unfold Hid; rw [HE3.out, h38]; unfold lng; rw [if_pos (Or.inl hc0)]
            clear hlen HRk
            as_aux_lemma =>
              go_wp2_with fail
              all_goals (
                go_roundg (xs.length - (k + 3))
                case measure => omega
                case rel => exact ⟨k + 3, m - 3, _, _, (f', b', x'), by omega, by omega, rfl, by omega, by omega, (by intro hp; first | rfl | omega), hb, hv, hr, hn, HS.out, HO.out, by rw [← HL.out, HE.out]⟩)
          · by_cases hc1 : 256 ≤ y2
            · have z1 : 256 ≤ y2 := hc1
              have z2 : 0 ≤ y2 := by omega
              have HE : Hid (applyL (f', b', x') (xs.drop k) = applyL (f', b', x') (xs.drop (k + 3))) := by unfold Hid; rw [HE3.out, h38]; unfold lng; rw [if_pos (Or.inr hc1)]
              clear hlen HRk
              as_aux_lemma =>
                go_wp2_with fail
                all_goals (
                  go_roundg (xs.length - (k + 3))
                  case measure => omega
                  case rel => exact ⟨k + 3, m - 3, _, _, (f', b', x'), by omega, by omega, rfl, by omega, by omega, (by intro hp; first | rfl | omega), hb, hv, hr, hn, HS.out, HO.out, by rw [← HL.out, HE.out]⟩)
            · have z1 : y2 < 256 := by omega
              have z2 : 0 ≤ y2 := by omega
              have HE : Hid (applyL (f', b', x') (xs.drop k) = applyL (y2 + 1, b', x') (xs.drop (k + 3))) := by unfold Hid; rw [HE3.out, h38]; unfold lng; rw [if_neg (by omega)]; rfl
              clear hlen HRk
              as_aux_lemma =>
                go_wp2_with fail
                all_goals (
                  go_roundg (xs.length - (k + 3))
                  case measure => omega
                  case rel => exact ⟨k + 3, m - 3, _, _, (y2 + 1, b', x'), by omega, by omega, rfl, by omega, by omega, (by intro hp; first | rfl | omega), hb.setCell (Nat.le_refl _) _, heap_setCell_same _ _ _ _ _ _ hv, (heap_setCell_other _ _ _ _ (by dsimp only; omega)).trans hr, (heap_setCell_other _ _ _ _ (by dsimp only; omega)).trans hn, HS.out.block (heap_setCell_other _ _ _ _ (by dsimp only; omega)), HO.out.block (heap_setCell_other _ _ _ _ (by dsimp only; omega)), by rw [← HL.out, HE.out]⟩)
        · have h48 : y0 = 48 := by omega
          clear hlg
          have n38 : (y0 == 38) = false := by rw [h48]; rfl
          have n48 : (y0 == 48) = true := by rw [h48]; rfl
          have e5 : (y1 == 5) = true := by rw [h5]; rfl
          by_cases hc0 : y2 < 0
          · have z : y2 < 0 := hc0
            have HE : Hid (applyL (f', b', x') (xs.drop k) = applyL (f', b', x') (xs.drop (k + 3))) := by unfold Hid; rw [HE3.out, h48]; unfold lng; rw [if_pos (Or.inl hc0)]
            clear hlen HRk
            as_aux_lemma =>
              go_wp2_with fail
              all_goals (
                go_roundg (xs.length - (k + 3))
                case measure => omega
                case rel => exact ⟨k + 3, m - 3, _, _, (f', b', x'), by omega, by omega, rfl, by omega, by omega, (by intro hp; first | rfl | omega), hb, hv, hr, hn, HS.out, HO.out, by rw [← HL.out, HE.out]⟩)
          · by_cases hc1 : 256 ≤ y2
            · have z1 : 256 ≤ y2 := hc1
              have z2 : 0 ≤ y2 := by omega
              have HE : Hid (applyL (f', b', x') (xs.drop k) = applyL (f', b', x') (xs.drop (k + 3))) := by unfold Hid; rw [HE3.out, h48]; unfold lng; rw [if_pos (Or.inr hc1)]
              clear hlen HRk
              as_aux_lemma =>
                go_wp2_with fail
                all_goals (
                  go_roundg (xs.length - (k + 3))
                  case measure => omega
                  case rel => exact ⟨k + 3, m - 3, _, _, (f', b', x'), by omega, by omega, rfl, by omega, by omega, (by intro hp; first | rfl | omega), hb, hv, hr, hn, HS.out, HO.out, by rw [← HL.out, HE.out]⟩)
            · have z1 : y2 < 256 := by omega
              have z2 : 0 ≤ y2 := by omega
              have HE : Hid (applyL (f', b', x') (xs.drop k) = applyL (f', y2 + 1, x') (xs.drop (k + 3))) := by unfold Hid; rw [HE3.out, h48]; unfold lng; rw [if_neg (by omega)]; rfl
              clear hlen HRk
              as_aux_lemma =>
                go_wp2_with fail
                all_goals (
                  go_roundg (xs.length - (k + 3))
                  case measure => omega
                  case rel => exact ⟨k + 3, m - 3, _, _, (f', y2 + 1, x'), by omega, by omega, rfl, by omega, by omega, (by intro hp; first | rfl | omega), hb.setCell (Nat.le_refl _) _, heap_setCell_same _ _ _ _ _ _ hv, (heap_setCell_other _ _ _ _ (by dsimp only; omega)).trans hr, (heap_setCell_other _ _ _ _ (by dsimp only; omega)).trans hn, HS.out.block (heap_setCell_other _ _ _ _ (by dsimp only; omega)), HO.out.block (heap_setCell_other _ _ _ _ (by dsimp only; omega)), by rw [← HL.out, HE.out]⟩)
      · have hlg : isLg (xs.drop k) = false := by simpa using hlg
        have HE0 : Hid (applyL (f', b', x') (xs.drop k) = applyL (one (f', b', x') (xs.getD k 0)) (xs.drop (k + 1))) := by
          have hl' := hlg
          unfold Hid
          rw [drop_cons xs k hlt] at hl' ⊢
          exact applyL_one _ _ _ hl'
        generalize hyk : xs.getD k 0 = y0 at *
        by_cases h38 : y0 = 38
        · by_cases m3 : m < 3
          · have n38 : (y0 == 38) = true := by rw [h38]; rfl
            have z : 0 < y0 := by omega
            have K1 : Hid (look setM y0 = 0) := look_set_zero y0 (by omega)
            have K2 : Hid (look offM y0 = 0) := look_off_zero y0 (by omega)
            have l1 : (Instr.lookup 39 (.map (some (w.heap.size + 1 + 1 + 1))) (.int .i64 y0) false).run Tryd.prog wr = .ok (.int .i64 0) wr := by have := HS.out.lookup y0 hy0 hy1; rwa [K1.out] at this
            have l2 : (Instr.lookup 39 (.map (some W7.heap.size)) (.int .i64 y0) false).run Tryd.prog wr = .ok (.int .i64 0) wr := by have := HO.out.lookup y0 hy0 hy1; rwa [K2.out] at this
            have hq : wrap64 (y0.tdiv 10) = 3 := by rw [quo10 y0 (by omega) hy1]; omega
            have hr8 : 8 ≤ y0 % 10 := by omega
            have n39 : (y0 == 39) = false := beq_eq_false_iff_ne.2 (by omega)
            have n49 : (y0 == 49) = false := beq_eq_false_iff_ne.2 (by omega)
            have HE : Hid (applyL (f', b', x') (xs.drop k) = applyL (f', b', x') (xs.drop (k + 1))) := by unfold Hid; rw [HE0.out, one_else f' b' x' y0 (by omega) K1.out K2.out (by omega) (by omega) (by omega) (by omega) (by omega) (by omega)]
            clear hlen HRk h38
            as_aux_lemma =>
              go_wp2_with fail
              all_goals (
                go_roundg (xs.length - (k + 1))
                case measure => omega
                case rel => exact ⟨k + 1, m - 1, _, _, (f', b', x'), by omega, by omega, rfl, by omega, by omega, (by intro hp; first | rfl | omega), hb, hv, hr, hn, HS.out, HO.out, by rw [← HL.out, HE.out]⟩)
          · have n38 : (y0 == 38) = true := by rw [h38]; rfl
            have q1 : wr.cell? ⟨b, o + k + 1, none⟩ = some (.int .i64 (xs.getD (k + 1) 0)) := by
              have := HRk.out 1 (by omega)
              rw [drop_cons xs k hlt] at this
              rw [show (xs.getD k 0 :: List.drop (k + 1) xs).getD 1 0 = (List.drop (k + 1) xs).getD 0 0 from rfl, drop_cons xs (k + 1) (by omega)] at this
              exact this
            have n5 : (xs.getD (k + 1) 0 == 5) = false := by
              have := hlg
              rw [drop_cons xs k hlt, drop_cons xs (k + 1) (by omega), drop_cons xs (k + 1 + 1) (by omega)] at this
              simp only [isLg, decide_eq_false_iff_not] at this
              rw [beq_eq_false_iff_ne]
              intro h5
              exact this ⟨by rw [hyk]; omega, h5⟩
            generalize xs.getD (k + 1) 0 = y1 at *
            have z : 0 < y0 := by omega
            have K1 : Hid (look setM y0 = 0) := look_set_zero y0 (by omega)
            have K2 : Hid (look offM y0 = 0) := look_off_zero y0 (by omega)
            have l1 : (Instr.lookup 39 (.map (some (w.heap.size + 1 + 1 + 1))) (.int .i64 y0) false).run Tryd.prog wr = .ok (.int .i64 0) wr := by have := HS.out.lookup y0 hy0 hy1; rwa [K1.out] at this
            have l2 : (Instr.lookup 39 (.map (some W7.heap.size)) (.int .i64 y0) false).run Tryd.prog wr = .ok (.int .i64 0) wr := by have := HO.out.lookup y0 hy0 hy1; rwa [K2.out] at this
            have hq : wrap64 (y0.tdiv 10) = 3 := by rw [quo10 y0 (by omega) hy1]; omega
            have hr8 : 8 ≤ y0 % 10 := by omega
            have n39 : (y0 == 39) = false := beq_eq_false_iff_ne.2 (by omega)
            have n49 : (y0 == 49) = false := beq_eq_false_iff_ne.2 (by omega)
            have HE : Hid (applyL (f', b', x') (xs.drop k) = applyL (f', b', x') (xs.drop (k + 1))) := by unfold Hid; rw [HE0.out, one_else f' b' x' y0 (by omega) K1.out K2.out (by omega) (by omega) (by omega) (by omega) (by omega) (by omega)]
            clear hlen HRk h38
            as_aux_lemma =>
              go_wp2_with fail
              all_goals (
                go_roundg (xs.length - (k + 1))
                case measure => omega
                case rel => exact ⟨k + 1, m - 1, _, _, (f', b', x'), by omega, by omega, rfl, by omega, by omega, (by intro hp; first | rfl | omega), hb, hv, hr, hn, HS.out, HO.out, by rw [← HL.out, HE.out]⟩)
        · by_cases h48 : y0 = 48
          · by_cases m3 : m < 3
            · have n38 : (y0 == 38) = false := by rw [h48]; rfl
              have n48 : (y0 == 48) = true := by rw [h48]; rfl
              have z : 0 < y0 := by omega
              have K1 : Hid (look setM y0 = 0) := look_set_zero y0 (by omega)
              have K2 : Hid (look offM y0 = 0) := look_off_zero y0 (by omega)
              have l1 : (Instr.lookup 39 (.map (some (w.heap.size + 1 + 1 + 1))) (.int .i64 y0) false).run Tryd.prog wr = .ok (.int .i64 0) wr := by have := HS.out.lookup y0 hy0 hy1; rwa [K1.out] at this
              have l2 : (Instr.lookup 39 (.map (some W7.heap.size)) (.int .i64 y0) false).run Tryd.prog wr = .ok (.int .i64 0) wr := by have := HO.out.lookup y0 hy0 hy1; rwa [K2.out] at this
              have hq : wrap64 (y0.tdiv 10) = 4 := by rw [quo10 y0 (by omega) hy1]; omega
              have hr8 : 8 ≤ y0 % 10 := by omega
              have n39 : (y0 == 39) = false := beq_eq_false_iff_ne.2 (by omega)
              have n49 : (y0 == 49) = false := beq_eq_false_iff_ne.2 (by omega)
              have HE : Hid (applyL (f', b', x') (xs.drop k) = applyL (f', b', x') (xs.drop (k + 1))) := by unfold Hid; rw [HE0.out, one_else f' b' x' y0 (by omega) K1.out K2.out (by omega) (by omega) (by omega) (by omega) (by omega) (by omega)]
              clear hlen HRk h48
              as_aux_lemma =>
                go_wp2_with fail
                all_goals (
                  go_roundg (xs.length - (k + 1))
                  case measure => omega
                  case rel => exact ⟨k + 1, m - 1, _, _, (f', b', x'), by omega, by omega, rfl, by omega, by omega, (by intro hp; first | rfl | omega), hb, hv, hr, hn, HS.out, HO.out, by rw [← HL.out, HE.out]⟩)
            · have n38 : (y0 == 38) = false := by rw [h48]; rfl
              have n48 : (y0 == 48) = true := by rw [h48]; rfl
              have q1 : wr.cell? ⟨b, o + k + 1, none⟩ = some (.int .i64 (xs.getD (k + 1) 0)) := by
                have := HRk.out 1 (by omega)
                rw [drop_cons xs k hlt] at this
                rw [show (xs.getD k 0 :: List.drop (k + 1) xs).getD 1 0 = (List.drop (k + 1) xs).getD 0 0 from rfl, drop_cons xs (k + 1) (by omega)] at this
                exact this
              have n5 : (xs.getD (k + 1) 0 == 5) = false := by
                have := hlg
                rw [drop_cons xs k hlt, drop_cons xs (k + 1) (by omega), drop_cons xs (k + 1 + 1) (by omega)] at this
                simp only [isLg, decide_eq_false_iff_not] at this
                rw [beq_eq_false_iff_ne]
                intro h5
                exact this ⟨by rw [hyk]; omega, h5⟩
              generalize xs.getD (k + 1) 0 = y1 at *
              have z : 0 < y0 := by omega
              have K1 : Hid (look setM y0 = 0) := look_set_zero y0 (by omega)
              have K2 : Hid (look offM y0 = 0) := look_off_zero y0 (by omega)
              have l1 : (Instr.lookup 39 (.map (some (w.heap.size + 1 + 1 + 1))) (.int .i64 y0) false).run Tryd.prog wr = .ok (.int .i64 0) wr := by have := HS.out.lookup y0 hy0 hy1; rwa [K1.out] at this
              have l2 : (Instr.lookup 39 (.map (some W7.heap.size)) (.int .i64 y0) false).run Tryd.prog wr = .ok (.int .i64 0) wr := by have := HO.out.lookup y0 hy0 hy1; rwa [K2.out] at this
              have hq : wrap64 (y0.tdiv 10) = 4 := by rw [quo10 y0 (by omega) hy1]; omega
              have hr8 : 8 ≤ y0 % 10 := by omega
              have n39 : (y0 == 39) = false := beq_eq_false_iff_ne.2 (by omega)
              have n49 : (y0 == 49) = false := beq_eq_false_iff_ne.2 (by omega)
              have HE : Hid (applyL (f', b', x') (xs.drop k) = applyL (f', b', x') (xs.drop (k + 1))) := by unfold Hid; rw [HE0.out, one_else f' b' x' y0 (by omega) K1.out K2.out (by omega) (by omega) (by omega) (by omega) (by omega) (by omega)]
              clear hlen HRk h48
              as_aux_lemma =>
                go_wp2_with fail
                all_goals (
                  go_roundg (xs.length - (k + 1))
                  case measure => omega
                  case rel => exact ⟨k + 1, m - 1, _, _, (f', b', x'), by omega, by omega, rfl, by omega, by omega, (by intro hp; first | rfl | omega), hb, hv, hr, hn, HS.out, HO.out, by rw [← HL.out, HE.out]⟩)
          · by_cases hle : y0 ≤ 0
            · have n38 : (y0 == 38) = false := beq_eq_false_iff_ne.2 (by omega)
              have n48 : (y0 == 48) = false := beq_eq_false_iff_ne.2 (by omega)
              have z : y0 ≤ 0 := hle
              have HE : Hid (applyL (f', b', x') (xs.drop k) = applyL (0, 0, 0) (xs.drop (k + 1))) := by unfold Hid; rw [HE0.out, one_le _ _ hle]
              clear hlen HRk
              as_aux_lemma =>
                go_wp2_with fail
                all_goals (
                  go_roundg (xs.length - (k + 1))
                  case measure => omega
                  case rel => exact ⟨k + 1, m - 1, _, _, (0, 0, 0), by omega, by omega, rfl, by omega, by omega, (by intro hp; first | rfl | omega), set3_below hb (Nat.le_refl _) _ _ _, set3 hv _ _ _, (set3_other (by omega) _ _ _).trans hr, (set3_other (by omega) _ _ _).trans hn, HS.out.block (set3_other (by omega) _ _ _), HO.out.block (set3_other (by omega) _ _ _), by rw [← HL.out, HE.out]⟩)
            · by_cases hset : 0 < look setM y0
              · have n38 : (y0 == 38) = false := beq_eq_false_iff_ne.2 (by omega)
                have n48 : (y0 == 48) = false := beq_eq_false_iff_ne.2 (by omega)
                have HG : Hid (one (f', b', x') y0 = (f', b', bits .or .i64 x' (look setM y0))) := one_set f' b' x' y0 hset
                have l1 := HS.out.lookup y0 hy0 hy1
                generalize look setM y0 = v1 at *
                have HE : Hid (applyL (f', b', x') (xs.drop k) = applyL (f', b', bits .or .i64 x' v1) (xs.drop (k + 1))) := by unfold Hid; rw [HE0.out, HG.out]
                clear hlen HRk
                as_aux_lemma =>
                  go_wp2_with fail
                  all_goals (
                    go_roundg (xs.length - (k + 1))
                    case measure => omega
                    case rel => exact ⟨k + 1, m - 1, _, _, (f', b', bits .or .i64 x' v1), by omega, by omega, rfl, by omega, by omega, (by intro hp; first | rfl | omega), hb.setCell (Nat.le_refl _) _, heap_setCell_same _ _ _ _ _ _ hv, (heap_setCell_other _ _ _ _ (by dsimp only; omega)).trans hr, (heap_setCell_other _ _ _ _ (by dsimp only; omega)).trans hn, HS.out.block (heap_setCell_other _ _ _ _ (by dsimp only; omega)), HO.out.block (heap_setCell_other _ _ _ _ (by dsimp only; omega)), by rw [← HL.out, HE.out]⟩)
              · by_cases hoff : 0 < look offM y0
                · have n38 : (y0 == 38) = false := beq_eq_false_iff_ne.2 (by omega)
                  have n48 : (y0 == 48) = false := beq_eq_false_iff_ne.2 (by omega)
                  have K1 : Hid (look setM y0 = 0) := by have := look_set_nonneg y0; unfold Hid; omega
                  have HG : Hid (one (f', b', x') y0 = (f', b', bits .andNot .i64 x' (look offM y0))) := one_off f' b' x' y0 hoff
                  have l1 : (Instr.lookup 39 (.map (some (w.heap.size + 1 + 1 + 1))) (.int .i64 y0) false).run Tryd.prog wr = .ok (.int .i64 0) wr := by have := HS.out.lookup y0 hy0 hy1; rwa [K1.out] at this
                  have l2 := HO.out.lookup y0 hy0 hy1
                  clear hset
                  generalize look offM y0 = v2 at *
                  have HE : Hid (applyL (f', b', x') (xs.drop k) = applyL (f', b', bits .andNot .i64 x' v2) (xs.drop (k + 1))) := by unfold Hid; rw [HE0.out, HG.out]
                  clear hlen HRk
                  as_aux_lemma =>
                    go_wp2_with fail
                    all_goals (
                      go_roundg (xs.length - (k + 1))
                      case measure => omega
                      case rel => exact ⟨k + 1, m - 1, _, _, (f', b', bits .andNot .i64 x' v2), by omega, by omega, rfl, by omega, by omega, (by intro hp; first | rfl | omega), hb.setCell (Nat.le_refl _) _, heap_setCell_same _ _ _ _ _ _ hv, (heap_setCell_other _ _ _ _ (by dsimp only; omega)).trans hr, (heap_setCell_other _ _ _ _ (by dsimp only; omega)).trans hn, HS.out.block (heap_setCell_other _ _ _ _ (by dsimp only; omega)), HO.out.block (heap_setCell_other _ _ _ _ (by dsimp only; omega)), by rw [← HL.out, HE.out]⟩)
                · by_cases h3 : 30 ≤ y0 ∧ y0 ≤ 37
                  · have n38 : (y0 == 38) = false := beq_eq_false_iff_ne.2 (by omega)
                    have n48 : (y0 == 48) = false := beq_eq_false_iff_ne.2 (by omega)
                    have K1 : Hid (look setM y0 = 0) := look_set_zero y0 (by omega)
                    have K2 : Hid (look offM y0 = 0) := look_off_zero y0 (by omega)
                    have l1 : (Instr.lookup 39 (.map (some (w.heap.size + 1 + 1 + 1))) (.int .i64 y0) false).run Tryd.prog wr = .ok (.int .i64 0) wr := by have := HS.out.lookup y0 hy0 hy1; rwa [K1.out] at this
                    have l2 : (Instr.lookup 39 (.map (some W7.heap.size)) (.int .i64 y0) false).run Tryd.prog wr = .ok (.int .i64 0) wr := by have := HO.out.lookup y0 hy0 hy1; rwa [K2.out] at this
                    have hq : wrap64 (y0.tdiv 10) = 3 := by rw [quo10 y0 (by omega) hy1]; omega
                    have hr8 : y0 % 10 < 8 := by omega
                    have HE : Hid (applyL (f', b', x') (xs.drop k) = applyL (y0 % 10 + 1, b', x') (xs.drop (k + 1))) := by unfold Hid; rw [HE0.out, one_3x f' b' x' y0 (by omega) (by omega)]
                    clear hlen HRk
                    as_aux_lemma =>
                      go_wp2_with fail
                      all_goals (
                        go_roundg (xs.length - (k + 1))
                        case measure => omega
                        case rel => exact ⟨k + 1, m - 1, _, _, (y0 % 10 + 1, b', x'), by omega, by omega, rfl, by omega, by omega, (by intro hp; first | rfl | omega), hb.setCell (Nat.le_refl _) _, heap_setCell_same _ _ _ _ _ _ hv, (heap_setCell_other _ _ _ _ (by dsimp only; omega)).trans hr, (heap_setCell_other _ _ _ _ (by dsimp only; omega)).trans hn, HS.out.block (heap_setCell_other _ _ _ _ (by dsimp only; omega)), HO.out.block (heap_setCell_other _ _ _ _ (by dsimp only; omega)), by rw [← HL.out, HE.out]⟩)
                  · by_cases h4 : 40 ≤ y0 ∧ y0 ≤ 47
                    · have n38 : (y0 == 38) = false := beq_eq_false_iff_ne.2 (by omega)
                      have n48 : (y0 == 48) = false := beq_eq_false_iff_ne.2 (by omega)
                      have K1 : Hid (look setM y0 = 0) := look_set_zero y0 (by omega)
                      have K2 : Hid (look offM y0 = 0) := look_off_zero y0 (by omega)
                      have l1 : (Instr.lookup 39 (.map (some (w.heap.size + 1 + 1 + 1))) (.int .i64 y0) false).run Tryd.prog wr = .ok (.int .i64 0) wr := by have := HS.out.lookup y0 hy0 hy1; rwa [K1.out] at this
                      have l2 : (Instr.lookup 39 (.map (some W7.heap.size)) (.int .i64 y0) false).run Tryd.prog wr = .ok (.int .i64 0) wr := by have := HO.out.lookup y0 hy0 hy1; rwa [K2.out] at this
                      have hq : wrap64 (y0.tdiv 10) = 4 := by rw [quo10 y0 (by omega) hy1]; omega
                      have hr8 : y0 % 10 < 8 := by omega
                      have HE : Hid (applyL (f', b', x') (xs.drop k) = applyL (f', y0 % 10 + 1, x') (xs.drop (k + 1))) := by unfold Hid; rw [HE0.out, one_4x f' b' x' y0 (by omega) (by omega)]
                      clear hlen HRk
                      as_aux_lemma =>
                        go_wp2_with fail
                        all_goals (
                          go_roundg (xs.length - (k + 1))
                          case measure => omega
                          case rel => exact ⟨k + 1, m - 1, _, _, (f', y0 % 10 + 1, x'), by omega, by omega, rfl, by omega, by omega, (by intro hp; first | rfl | omega), hb.setCell (Nat.le_refl _) _, heap_setCell_same _ _ _ _ _ _ hv, (heap_setCell_other _ _ _ _ (by dsimp only; omega)).trans hr, (heap_setCell_other _ _ _ _ (by dsimp only; omega)).trans hn, HS.out.block (heap_setCell_other _ _ _ _ (by dsimp only; omega)), HO.out.block (heap_setCell_other _ _ _ _ (by dsimp only; omega)), by rw [← HL.out, HE.out]⟩)
                    · by_cases h9 : 90 ≤ y0 ∧ y0 ≤ 97
                      · have n38 : (y0 == 38) = false := beq_eq_false_iff_ne.2 (by omega)
                        have n48 : (y0 == 48) = false := beq_eq_false_iff_ne.2 (by omega)
                        have K1 : Hid (look setM y0 = 0) := look_set_zero y0 (by omega)
                        have K2 : Hid (look offM y0 = 0) := look_off_zero y0 (by omega)
                        have l1 : (Instr.lookup 39 (.map (some (w.heap.size + 1 + 1 + 1))) (.int .i64 y0) false).run Tryd.prog wr = .ok (.int .i64 0) wr := by have := HS.out.lookup y0 hy0 hy1; rwa [K1.out] at this
                        have l2 : (Instr.lookup 39 (.map (some W7.heap.size)) (.int .i64 y0) false).run Tryd.prog wr = .ok (.int .i64 0) wr := by have := HO.out.lookup y0 hy0 hy1; rwa [K2.out] at this
                        have hq : wrap64 (y0.tdiv 10) = 9 := by rw [quo10 y0 (by omega) hy1]; omega
                        have hr8 : y0 % 10 < 8 := by omega
                        have HE : Hid (applyL (f', b', x') (xs.drop k) = applyL (y0 % 10 + 9, b', x') (xs.drop (k + 1))) := by unfold Hid; rw [HE0.out, one_9x f' b' x' y0 (by omega) (by omega)]
                        clear hlen HRk
                        as_aux_lemma =>
                          go_wp2_with fail
                          all_goals (
                            go_roundg (xs.length - (k + 1))
                            case measure => omega
                            case rel => exact ⟨k + 1, m - 1, _, _, (y0 % 10 + 9, b', x'), by omega, by omega, rfl, by omega, by omega, (by intro hp; first | rfl | omega), hb.setCell (Nat.le_refl _) _, heap_setCell_same _ _ _ _ _ _ hv, (heap_setCell_other _ _ _ _ (by dsimp only; omega)).trans hr, (heap_setCell_other _ _ _ _ (by dsimp only; omega)).trans hn, HS.out.block (heap_setCell_other _ _ _ _ (by dsimp only; omega)), HO.out.block (heap_setCell_other _ _ _ _ (by dsimp only; omega)), by rw [← HL.out, HE.out]⟩)
                      · by_cases h10 : 100 ≤ y0 ∧ y0 ≤ 107
                        · have n38 : (y0 == 38) = false := beq_eq_false_iff_ne.2 (by omega)
                          have n48 : (y0 == 48) = false := beq_eq_false_iff_ne.2 (by omega)
                          have K1 : Hid (look setM y0 = 0) := look_set_zero y0 (by omega)
                          have K2 : Hid (look offM y0 = 0) := look_off_zero y0 (by omega)
                          have l1 : (Instr.lookup 39 (.map (some (w.heap.size + 1 + 1 + 1))) (.int .i64 y0) false).run Tryd.prog wr = .ok (.int .i64 0) wr := by have := HS.out.lookup y0 hy0 hy1; rwa [K1.out] at this
                          have l2 : (Instr.lookup 39 (.map (some W7.heap.size)) (.int .i64 y0) false).run Tryd.prog wr = .ok (.int .i64 0) wr := by have := HO.out.lookup y0 hy0 hy1; rwa [K2.out] at this
                          have hq : wrap64 (y0.tdiv 10) = 10 := by rw [quo10 y0 (by omega) hy1]; omega
                          have hr8 : y0 % 10 < 8 := by omega
                          have HE : Hid (applyL (f', b', x') (xs.drop k) = applyL (f', y0 % 10 + 9, x') (xs.drop (k + 1))) := by unfold Hid; rw [HE0.out, one_10x f' b' x' y0 (by omega) (by omega)]
                          clear hlen HRk
                          as_aux_lemma =>
                            go_wp2_with fail
                            all_goals (
                              go_roundg (xs.length - (k + 1))
                              case measure => omega
                              case rel => exact ⟨k + 1, m - 1, _, _, (f', y0 % 10 + 9, x'), by omega, by omega, rfl, by omega, by omega, (by intro hp; first | rfl | omega), hb.setCell (Nat.le_refl _) _, heap_setCell_same _ _ _ _ _ _ hv, (heap_setCell_other _ _ _ _ (by dsimp only; omega)).trans hr, (heap_setCell_other _ _ _ _ (by dsimp only; omega)).trans hn, HS.out.block (heap_setCell_other _ _ _ _ (by dsimp only; omega)), HO.out.block (heap_setCell_other _ _ _ _ (by dsimp only; omega)), by rw [← HL.out, HE.out]⟩)
                        · by_cases h39 : y0 = 39
                          · have n38 : (y0 == 38) = false := beq_eq_false_iff_ne.2 (by omega)
                            have n48 : (y0 == 48) = false := beq_eq_false_iff_ne.2 (by omega)
                            have K1 : Hid (look setM y0 = 0) := look_set_zero y0 (by omega)
                            have K2 : Hid (look offM y0 = 0) := look_off_zero y0 (by omega)
                            have l1 : (Instr.lookup 39 (.map (some (w.heap.size + 1 + 1 + 1))) (.int .i64 y0) false).run Tryd.prog wr = .ok (.int .i64 0) wr := by have := HS.out.lookup y0 hy0 hy1; rwa [K1.out] at this
                            have l2 : (Instr.lookup 39 (.map (some W7.heap.size)) (.int .i64 y0) false).run Tryd.prog wr = .ok (.int .i64 0) wr := by have := HO.out.lookup y0 hy0 hy1; rwa [K2.out] at this
                            have hq : wrap64 (y0.tdiv 10) = 3 := by rw [quo10 y0 (by omega) hy1]; omega
                            have hr8 : 8 ≤ y0 % 10 := by omega
                            have n39 : (y0 == 39) = true := by rw [h39]; rfl
                            have HE : Hid (applyL (f', b', x') (xs.drop k) = applyL (0, b', x') (xs.drop (k + 1))) := by unfold Hid; rw [HE0.out, h39, one_39]
                            clear hlen HRk h39
                            as_aux_lemma =>
                              go_wp2_with fail
                              all_goals (
                                go_roundg (xs.length - (k + 1))
                                case measure => omega
                                case rel => exact ⟨k + 1, m - 1, _, _, (0, b', x'), by omega, by omega, rfl, by omega, by omega, (by intro hp; first | rfl | omega), hb.setCell (Nat.le_refl _) _, heap_setCell_same _ _ _ _ _ _ hv, (heap_setCell_other _ _ _ _ (by dsimp only; omega)).trans hr, (heap_setCell_other _ _ _ _ (by dsimp only; omega)).trans hn, HS.out.block (heap_setCell_other _ _ _ _ (by dsimp only; omega)), HO.out.block (heap_setCell_other _ _ _ _ (by dsimp only; omega)), by rw [← HL.out, HE.out]⟩)
                          · by_cases h49 : y0 = 49
                            · have n38 : (y0 == 38) = false := beq_eq_false_iff_ne.2 (by omega)
                              have n48 : (y0 == 48) = false := beq_eq_false_iff_ne.2 (by omega)
                              have K1 : Hid (look setM y0 = 0) := look_set_zero y0 (by omega)
                              have K2 : Hid (look offM y0 = 0) := look_off_zero y0 (by omega)
                              have l1 : (Instr.lookup 39 (.map (some (w.heap.size + 1 + 1 + 1))) (.int .i64 y0) false).run Tryd.prog wr = .ok (.int .i64 0) wr := by have := HS.out.lookup y0 hy0 hy1; rwa [K1.out] at this
                              have l2 : (Instr.lookup 39 (.map (some W7.heap.size)) (.int .i64 y0) false).run Tryd.prog wr = .ok (.int .i64 0) wr := by have := HO.out.lookup y0 hy0 hy1; rwa [K2.out] at this
                              have hq : wrap64 (y0.tdiv 10) = 4 := by rw [quo10 y0 (by omega) hy1]; omega
                              have hr8 : 8 ≤ y0 % 10 := by omega
                              have n39 : (y0 == 39) = false := by rw [h49]; rfl
                              have n49 : (y0 == 49) = true := by rw [h49]; rfl
                              have HE : Hid (applyL (f', b', x') (xs.drop k) = applyL (f', 0, x') (xs.drop (k + 1))) := by unfold Hid; rw [HE0.out, h49, one_49]
                              clear hlen HRk h49
                              as_aux_lemma =>
                                go_wp2_with fail
                                all_goals (
                                  go_roundg (xs.length - (k + 1))
                                  case measure => omega
                                  case rel => exact ⟨k + 1, m - 1, _, _, (f', 0, x'), by omega, by omega, rfl, by omega, by omega, (by intro hp; first | rfl | omega), hb.setCell (Nat.le_refl _) _, heap_setCell_same _ _ _ _ _ _ hv, (heap_setCell_other _ _ _ _ (by dsimp only; omega)).trans hr, (heap_setCell_other _ _ _ _ (by dsimp only; omega)).trans hn, HS.out.block (heap_setCell_other _ _ _ _ (by dsimp only; omega)), HO.out.block (heap_setCell_other _ _ _ _ (by dsimp only; omega)), by rw [← HL.out, HE.out]⟩)
                            · by_cases h98 : y0 = 98 ∨ y0 = 99
                              · have n38 : (y0 == 38) = false := beq_eq_false_iff_ne.2 (by omega)
                                have n48 : (y0 == 48) = false := beq_eq_false_iff_ne.2 (by omega)
                                have z : 0 < y0 := by omega
                                have K1 : Hid (look setM y0 = 0) := look_set_zero y0 (by omega)
                                have K2 : Hid (look offM y0 = 0) := look_off_zero y0 (by omega)
                                have l1 : (Instr.lookup 39 (.map (some (w.heap.size + 1 + 1 + 1))) (.int .i64 y0) false).run Tryd.prog wr = .ok (.int .i64 0) wr := by have := HS.out.lookup y0 hy0 hy1; rwa [K1.out] at this
                                have l2 : (Instr.lookup 39 (.map (some W7.heap.size)) (.int .i64 y0) false).run Tryd.prog wr = .ok (.int .i64 0) wr := by have := HO.out.lookup y0 hy0 hy1; rwa [K2.out] at this
                                have hq : wrap64 (y0.tdiv 10) = 9 := by rw [quo10 y0 (by omega) hy1]; omega
                                have hr8 : 8 ≤ y0 % 10 := by omega
                                have n39 : (y0 == 39) = false := beq_eq_false_iff_ne.2 (by omega)
                                have n49 : (y0 == 49) = false := beq_eq_false_iff_ne.2 (by omega)
                                have HE : Hid (applyL (f', b', x') (xs.drop k) = applyL (f', b', x') (xs.drop (k + 1))) := by unfold Hid; rw [HE0.out, one_else f' b' x' y0 (by omega) K1.out K2.out (by omega) (by omega) (by omega) (by omega) (by omega) (by omega)]
                                clear hlen HRk
                                as_aux_lemma =>
                                  go_wp2_with fail
                                  all_goals (
                                    go_roundg (xs.length - (k + 1))
                                    case measure => omega
                                    case rel => exact ⟨k + 1, m - 1, _, _, (f', b', x'), by omega, by omega, rfl, by omega, by omega, (by intro hp; first | rfl | omega), hb, hv, hr, hn, HS.out, HO.out, by rw [← HL.out, HE.out]⟩)
                              · by_cases h108 : y0 = 108 ∨ y0 = 109
                                · have n38 : (y0 == 38) = false := beq_eq_false_iff_ne.2 (by omega)
                                  have n48 : (y0 == 48) = false := beq_eq_false_iff_ne.2 (by omega)
                                  have z : 0 < y0 := by omega
                                  have K1 : Hid (look setM y0 = 0) := look_set_zero y0 (by omega)
                                  have K2 : Hid (look offM y0 = 0) := look_off_zero y0 (by omega)
                                  have l1 : (Instr.lookup 39 (.map (some (w.heap.size + 1 + 1 + 1))) (.int .i64 y0) false).run Tryd.prog wr = .ok (.int .i64 0) wr := by have := HS.out.lookup y0 hy0 hy1; rwa [K1.out] at this
                                  have l2 : (Instr.lookup 39 (.map (some W7.heap.size)) (.int .i64 y0) false).run Tryd.prog wr = .ok (.int .i64 0) wr := by have := HO.out.lookup y0 hy0 hy1; rwa [K2.out] at this
                                  have hq : wrap64 (y0.tdiv 10) = 10 := by rw [quo10 y0 (by omega) hy1]; omega
                                  have hr8 : 8 ≤ y0 % 10 := by omega
                                  have n39 : (y0 == 39) = false := beq_eq_false_iff_ne.2 (by omega)
                                  have n49 : (y0 == 49) = false := beq_eq_false_iff_ne.2 (by omega)
                                  have HE : Hid (applyL (f', b', x') (xs.drop k) = applyL (f', b', x') (xs.drop (k + 1))) := by unfold Hid; rw [HE0.out, one_else f' b' x' y0 (by omega) K1.out K2.out (by omega) (by omega) (by omega) (by omega) (by omega) (by omega)]
                                  clear hlen HRk
                                  as_aux_lemma =>
                                    go_wp2_with fail
                                    all_goals (
                                      go_roundg (xs.length - (k + 1))
                                      case measure => omega
                                      case rel => exact ⟨k + 1, m - 1, _, _, (f', b', x'), by omega, by omega, rfl, by omega, by omega, (by intro hp; first | rfl | omega), hb, hv, hr, hn, HS.out, HO.out, by rw [← HL.out, HE.out]⟩)
                                · have n38 : (y0 == 38) = false := beq_eq_false_iff_ne.2 (by omega)
                                  have n48 : (y0 == 48) = false := beq_eq_false_iff_ne.2 (by omega)
                                  have K1 : Hid (look setM y0 = 0) := by have := look_set_nonneg y0; unfold Hid; omega
                                  have K2 : Hid (look offM y0 = 0) := by have := look_off_nonneg y0; unfold Hid; omega
                                  have l1 : (Instr.lookup 39 (.map (some (w.heap.size + 1 + 1 + 1))) (.int .i64 y0) false).run Tryd.prog wr = .ok (.int .i64 0) wr := by have := HS.out.lookup y0 hy0 hy1; rwa [K1.out] at this
                                  have l2 : (Instr.lookup 39 (.map (some W7.heap.size)) (.int .i64 y0) false).run Tryd.prog wr = .ok (.int .i64 0) wr := by have := HO.out.lookup y0 hy0 hy1; rwa [K2.out] at this
                                  have hq3 : ¬ wrap64 (y0.tdiv 10) = 3 := by rw [quo10 y0 (by omega) hy1]; omega
                                  have hq4 : ¬ wrap64 (y0.tdiv 10) = 4 := by rw [quo10 y0 (by omega) hy1]; omega
                                  have hq9 : ¬ wrap64 (y0.tdiv 10) = 9 := by rw [quo10 y0 (by omega) hy1]; omega
                                  have hq10 : ¬ wrap64 (y0.tdiv 10) = 10 := by rw [quo10 y0 (by omega) hy1]; omega
                                  have n39 : (y0 == 39) = false := beq_eq_false_iff_ne.2 (by omega)
                                  have n49 : (y0 == 49) = false := beq_eq_false_iff_ne.2 (by omega)
                                  have HE : Hid (applyL (f', b', x') (xs.drop k) = applyL (f', b', x') (xs.drop (k + 1))) := by unfold Hid; rw [HE0.out, one_else f' b' x' y0 (by omega) K1.out K2.out (by omega) (by omega) (by omega) (by omega) (by omega) (by omega)]
                                  clear hset hoff
                                  clear hlen HRk
                                  as_aux_lemma =>
                                    go_wp2_with fail
                                    all_goals (
                                      go_roundg (xs.length - (k + 1))
                                      case measure => omega
                                      case rel => exact ⟨k + 1, m - 1, _, _, (f', b', x'), by omega, by omega, rfl, by omega, by omega, (by intro hp; first | rfl | omega), hb, hv, hr, hn, HS.out, HO.out, by rw [← HL.out, HE.out]⟩)
    · have hk2 : k = xs.length := by omega
      have hm0 : m = 0 := by omega
      subst hm0
      obtain ⟨f', b', x'⟩ := s
      have HE : Hid ((f', b', x') = applyL (f, bk, x) xs) := by
        have := HL.out
        rw [hk2, List.drop_length] at this
        exact this
      have hv0 := hv
      go_wp2_with (first | (refine wpList_load_row rfl 23 (.tmp 2) rfl w.heap.size rfl _ _ _ _ hv0 Tryd.underlying23 rfl (by kernel_rfl) ?_) | (refine wpList_store_row rfl 23 (.tmp 4) _ rfl (w.heap.size + 1) #[.int .i64 f', .int .i64 b', .int .i64 x'] rfl rfl _ _ hr (by kernel_rfl) rfl (one3 _ _ _) ?_))
      (try simp only [Exit.inBlock, Exit.then])
      refine bodyPost_ret (v := stv (f', b', x')) ?_ rfl ⟨by rw [HE.out]; rfl, below_setRow hb (by omega) _⟩
      exact results_cell_row rfl _ _ (w.heap.size + 1) _ _ _ _ rfl (setRow_heap _ _ _ _ _ _ hr) Tryd.underlying23 rfl (by kernel_rfl)
end Sty
end Go.Proofs.YthnphjdpifpehaaDoor
