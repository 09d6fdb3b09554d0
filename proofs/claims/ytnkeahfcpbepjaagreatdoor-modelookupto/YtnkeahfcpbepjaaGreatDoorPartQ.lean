/- The reference's ApplyTo. -/
import Derived.Test.YtnkeahfcpbepjaaGreatDoorPartP
import Derived.Test.YtnkeahfcpbepjaaGreatDoorPartJ
import Derived.Test.YtnkeahfcpbepjaaGreatDoorPartF
import Derived.Test.YtnkeahfcpbepjaaGreatDoorPartN
import Derived.Test.YtnkeahfcpbepjaaGreatDoorPartI
import Derived.Laws.Cover4
import Derived.Lib.RuneCount
import Derived.Laws.IdiomStrings
import Derived.Test.YtnkeahfcpbepjaaGreatDoorPartL
import Derived.Test.YtnkeahfcpbepjaaGreatDoorPartG
import Derived.Shelf.SlicesE.Delete
import Derived.Lib.OwnBridge
namespace Go.Proofs.YtnkeahfcpbepjaaGreatDoor
open Go.ChangeShapes Go.WideShapes Go.ChangeAt Go.RowKit Go.Maps
namespace Stl
set_option maxHeartbeats 40000000 in
set_option maxRecDepth 100000 in
theorem applyTo_some (s : Int × Int × Int) (b o c : Nat) (xs : List Int) (w : World) (hR : Row w b o xs) (h0 : xs ≠ []) (hlen : xs.length ≤ 140737488355328) (hc : xs.length ≤ c)
    (hw : ∀ x ∈ xs, -9223372036854775808 ≤ x ∧ x ≤ 9223372036854775807) :
    Calls Tryz.prog 28 #[stv s, .slice (some ⟨b, o, none⟩) xs.length c] w fun e w' => e = .returned (stv (applyL s xs)) ∧ Below w.heap.size w w' := by
  obtain ⟨f, bk, x⟩ := s
  have hpos : 0 < xs.length := by cases xs; exact absurd rfl h0; simp
  have HR : Hid (Row w b o xs) := hR
  have HW : Hid (∀ x ∈ xs, -9223372036854775808 ≤ x ∧ x ≤ 9223372036854775807) := hw
  clear hR hw h0
  have hz : ((xs.length : Int) == 0) = false := by simp only [beq_eq_false_iff_ne, ne_eq]; omega
  have hmm := @run_makeMap Tryz.prog
  obtain ⟨M, hM⟩ : ∃ M, M = ((w.alloc (.cells #[.int .i64 f, .int .i64 bk, .int .i64 x] 26)).alloc (.cells #[.int .i64 0, .int .i64 0, .int .i64 0] 26)).alloc (.cells #[.int .i64 0, .int .i64 0, .int .i64 0] 26) := ⟨_, rfl⟩
  have hMs : M.heap.size = w.heap.size + 1 + 1 + 1 := by rw [hM]; simp
  have hs0 : (M.alloc (.map #[] 0)).ownsMap Tryz.prog 3 (plainElem (H := Unit) Tryz.prog 3) M.heap.size 0 (lits []) := World.ownsMap_made _ _ _ _
  obtain ⟨W1, rs1, hs1, gs1⟩ := put_run hs0 (by decide) 1 1 (by decide) (by decide)
  clear hs0
  obtain ⟨W2, rs2, hs2, gs2⟩ := put_run hs1 (by decide) 2 2 (by decide) (by decide)
  replace gs2 := gs1.trans gs2; clear hs1 gs1
  obtain ⟨W3, rs3, hs3, gs3⟩ := put_run hs2 (by decide) 3 4 (by decide) (by decide)
  replace gs3 := gs2.trans gs3; clear hs2 gs2
  obtain ⟨W4, rs4, hs4, gs4⟩ := put_run hs3 (by decide) 4 8 (by decide) (by decide)
  replace gs4 := gs3.trans gs4; clear hs3 gs3
  obtain ⟨W5, rs5, hs5, gs5⟩ := put_run hs4 (by decide) 5 16 (by decide) (by decide)
  replace gs5 := gs4.trans gs5; clear hs4 gs4
  obtain ⟨W6, rs6, hs6, gs6⟩ := put_run hs5 (by decide) 7 32 (by decide) (by decide)
  replace gs6 := gs5.trans gs6; clear hs5 gs5
  obtain ⟨W7, rs7, hs7, gs7⟩ := put_run hs6 (by decide) 9 64 (by decide) (by decide)
  replace gs7 := gs6.trans gs7; clear hs6 gs6
  have ho0 : (W7.alloc (.map #[] 0)).ownsMap Tryz.prog 3 (plainElem (H := Unit) Tryz.prog 3) W7.heap.size 0 (lits []) := World.ownsMap_made _ _ _ _
  obtain ⟨V1, ro1, ho1, go1⟩ := put_run ho0 (by decide) 22 3 (by decide) (by decide)
  clear ho0
  obtain ⟨V2, ro2, ho2, go2⟩ := put_run ho1 (by decide) 23 4 (by decide) (by decide)
  replace go2 := go1.trans go2; clear ho1 go1
  obtain ⟨V3, ro3, ho3, go3⟩ := put_run ho2 (by decide) 24 8 (by decide) (by decide)
  replace go3 := go2.trans go3; clear ho2 go2
  obtain ⟨V4, ro4, ho4, go4⟩ := put_run ho3 (by decide) 25 16 (by decide) (by decide)
  replace go4 := go3.trans go4; clear ho3 go3
  obtain ⟨V5, ro5, ho5, go5⟩ := put_run ho4 (by decide) 27 32 (by decide) (by decide)
  replace go5 := go4.trans go5; clear ho4 go4
  obtain ⟨V6, ro6, ho6, go6⟩ := put_run ho5 (by decide) 29 64 (by decide) (by decide)
  replace go6 := go5.trans go6; clear ho5 go5
  have HS : Hid (MapAt W7 M.heap.size setM) := ⟨7, hs7⟩
  have HO : Hid (MapAt V6 W7.heap.size offM) := ⟨6, ho6⟩
  have GS : Hid ((M.alloc (.map #[] 0)).grownBy W7 (some M.heap.size)) := gs7
  have GO : Hid ((W7.alloc (.map #[] 0)).grownBy V6 (some W7.heap.size)) := go6
  clear hs7 ho6 gs7 go6
  rw [hMs] at rs1 rs2 rs3 rs4 rs5 rs6 rs7
  rw [hM] at rs1
  unfold stv
  go_enter Tryz.func28, Tryz.ntmps28
  go_wp2_with fail
  have hW7 : w.heap.size + 1 + 1 + 1 < W7.heap.size := by
    have := GS.out.size
    simp at this
    omega
  have bM : Below w.heap.size w M := by rw [hM]; exact (((Below.refl _ _).alloc (Nat.le_refl _) _).alloc (by simp) _).alloc (by simp; omega) _
  have bMm : Below w.heap.size w (M.alloc (.map #[] 0)) := bM.alloc bM.size _
  have bW : Below w.heap.size w W7 := bMm.grown GS.out bMm.size (fun j hj => by cases hj; omega)
  have bWm : Below w.heap.size w (W7.alloc (.map #[] 0)) := bW.alloc bW.size _
  have bV : Below w.heap.size w V6 := bWm.grown GO.out bWm.size (fun j hj => by cases hj; omega)
  have blk : ∀ j, j < w.heap.size + 1 + 1 + 1 → V6.heap[j]? = M.heap[j]? := fun j hj => by
    rw [GO.out.block j (by simp; omega) (by simp; omega), Below.heap_alloc _ _ _ (by omega), GS.out.block j (by simp; omega) (by simp; omega), Below.heap_alloc _ _ _ (by omega)]
  have m0 : M.heap[w.heap.size]? = some (.cells #[.int .i64 f, .int .i64 bk, .int .i64 x] 26 (0, 0)) := by
    rw [hM, Below.heap_alloc _ _ _ (by simp; omega), Below.heap_alloc _ _ _ (by simp)]; exact heap_alloc_new _ _
  have m1 : M.heap[w.heap.size + 1]? = some (.cells #[.int .i64 0, .int .i64 0, .int .i64 0] 26 (0, 0)) := by
    rw [hM, Below.heap_alloc _ _ _ (by simp)]; exact new2 w _ _ _
  have m2 : M.heap[w.heap.size + 1 + 1]? = some (.cells #[.int .i64 0, .int .i64 0, .int .i64 0] 26 (0, 0)) := by
    rw [hM]
    have := heap_alloc_new ((w.alloc (.cells #[.int .i64 f, .int .i64 bk, .int .i64 x] 26)).alloc (.cells #[.int .i64 0, .int .i64 0, .int .i64 0] 26)) (.cells #[.int .i64 0, .int .i64 0, .int .i64 0] 26)
    simpa using this
  have hS0 : MapAt V6 (w.heap.size + 1 + 1 + 1) setM := by
    have h := HS.out
    rw [hMs] at h
    refine h.block ?_
    rw [GO.out.block _ (by simp; omega) (by simp; omega), Below.heap_alloc _ _ _ hW7]
  go_loopg [1] xs.length (fun g l wr => ∃ (k m cp : Nat) (ad : Addr) (s : Int × Int × Int), k ≤ xs.length ∧ xs.length - k ≤ g ∧ l = .slice (some ad) m cp ∧ k + m = xs.length ∧ m ≤ cp ∧ (0 < m → ad = ⟨b, o + k, none⟩) ∧ Below w.heap.size w wr ∧ wr.heap[w.heap.size]? = some (.cells #[.int .i64 s.1, .int .i64 s.2.1, .int .i64 s.2.2] 26 (0, 0)) ∧ wr.heap[w.heap.size + 1]? = some (.cells #[.int .i64 0, .int .i64 0, .int .i64 0] 26 (0, 0)) ∧ wr.heap[w.heap.size + 1 + 1]? = some (.cells #[.int .i64 0, .int .i64 0, .int .i64 0] 26 (0, 0)) ∧ MapAt wr (w.heap.size + 1 + 1 + 1) setM ∧ MapAt wr W7.heap.size offM ∧ applyL s (xs.drop k) = applyL (f, bk, x) xs)
  case atStart => exact ⟨0, xs.length, c, ⟨b, o, none⟩, (f, bk, x), by omega, by omega, rfl, by omega, hc, fun _ => rfl, bV, (blk _ (by omega)).trans m0, (blk _ (by omega)).trans m1, (blk _ (by omega)).trans m2, hS0, HO.out, rfl⟩
  case round =>
    clear rs1 rs2 rs3 rs4 rs5 rs6 rs7 ro1 ro2 ro3 ro4 ro5 ro6 blk m0 m1 m2 hS0 bM bMm bW bWm bV HS HO GS GO hz hmm
    clear hMs hM
    obtain ⟨k, m, cp, ad, s, hk, hg, rfl, hm, hcp, had, hb, hv, hr, hn, hS, hO, hl⟩ := hrel
    have HL : Hid (applyL s (xs.drop k) = applyL (f, bk, x) xs) := hl
    have HS : Hid (MapAt wr (w.heap.size + 1 + 1 + 1) setM) := hS
    have HO : Hid (MapAt wr W7.heap.size offM) := hO
    clear hl hS hO
    have HRk : Hid (Row wr b (o + k) (xs.drop k)) := fun j hj => by
      have h := HR.out.drop k j hj
      exact (hb.cell (cell_lt h)).trans h
    have hlen : (xs.drop k).length = xs.length - k := by simp
    by_cases hlt : k < xs.length
    · obtain rfl := had (by omega)
      clear had
      obtain ⟨f', b', x'⟩ := s
      have ⟨c0, c1, c2, cf⟩ := cells_of hv
      have ⟨n0, n1, n2, nf⟩ := cells_of hn
      have cf0 := cf 0
      have cf1 := cf 1
      have cf2 := cf 2
      have q0 : wr.cell? ⟨b, o + k, none⟩ = some (.int .i64 (xs.getD k 0)) := by
        have := HRk.out 0 (by omega)
        rw [drop_cons xs k hlt] at this
        simpa using this
      have ⟨hy0, hy1⟩ : -9223372036854775808 ≤ xs.getD k 0 ∧ xs.getD k 0 ≤ 9223372036854775807 := HW.out _ (by simp [List.getD, hlt])
      have pos : (m : Int) > 0 := by omega
      by_cases hlg : isLg (xs.drop k) = true
      · have h3 : k + 2 < xs.length := by
          match hxs : xs.drop k, hlg with
          | _ :: _ :: _ :: l, _ =>
            rw [hxs] at hlen
            simp at hlen
            omega
        have HE3 : Hid (applyL (f', b', x') (xs.drop k) = applyL (lng (f', b', x') (xs.getD k 0) (xs.getD (k + 2) 0)) (xs.drop (k + 3))) := by
          have := applyL_long (f', b', x') (xs.drop k) hlg
          rw [List.drop_drop, drop_cons xs k hlt, drop_cons xs (k + 1) (by omega), drop_cons xs (k + 1 + 1) (by omega)] at this
          unfold Hid
          rw [drop_cons xs k hlt, drop_cons xs (k + 1) (by omega), drop_cons xs (k + 1 + 1) (by omega)]
          exact this
        have q1 : wr.cell? ⟨b, o + k + 1, none⟩ = some (.int .i64 (xs.getD (k + 1) 0)) := by
          have := HRk.out 1 (by omega)
          rw [drop_cons xs k hlt, drop_cons xs (k + 1) (by omega)] at this
          exact this
        have q2 : wr.cell? ⟨b, o + k + 2, none⟩ = some (.int .i64 (xs.getD (k + 2) 0)) := by
          have := HRk.out 2 (by omega)
          rw [drop_cons xs k hlt, drop_cons xs (k + 1) (by omega), drop_cons xs (k + 1 + 1) (by omega)] at this
          exact this
        have hyy2 : xs.getD (k + 2) 0 ≤ 9223372036854775807 := (HW.out _ (by simp [List.getD, h3])).2
        rw [drop_cons xs k hlt, drop_cons xs (k + 1) (by omega), drop_cons xs (k + 1 + 1) (by omega)] at hlg
        simp only [isLg, decide_eq_true_eq] at hlg
        obtain ⟨hlg, h5⟩ := hlg
        have h2m : 3 ≤ m := by omega
        generalize xs.getD k 0 = y0 at *
        generalize xs.getD (k + 1) 0 = y1 at *
        generalize xs.getD (k + 2) 0 = y2 at *
        by_cases h38 : y0 = 38
        · clear hlg
          have n38 : (y0 == 38) = true := by rw [h38]; rfl
          have e5 : (y1 == 5) = true := by rw [h5]; rfl
          by_cases hc0 : y2 < 0
          · have z : y2 < 0 := hc0
            have HE : Hid (applyL (f', b', x') (xs.drop k) = applyL (f', b', x') (xs.drop (k + 3))) := by unfold Hid; rw [HE3.out, h38]; unfold lng; rw [if_pos (Or.inl hc0)]
            clear hlen HRk
            as_aux_lemma =>
              go_wp2_with fail
              all_goals (
                go_roundg (xs.length - (k + 3))
                case measure => omega
                case rel => exact ⟨k + 3, m - 3, _, _, (f', b', x'), by omega, by omega, rfl, by omega, by omega, (by intro hp; first | rfl | omega), hb, hv, hr, hn, HS.out, HO.out, by rw [← HL.out, HE.out]⟩)
          · by_cases hc1 : 256 ≤ y2
            · have z1 : 256 ≤ y2 := hc1
              have z2 : 0 ≤ y2 := by omega
              have HE : Hid (applyL (f', b', x') (xs.drop k) = applyL (f', b', x') (xs.drop (k + 3))) := by unfold Hid; rw [HE3.out, h38]; unfold lng; rw [if_pos (Or.inr hc1)]
              clear hlen HRk
              as_aux_lemma =>
                go_wp2_with fail
                all_goals (
                  go_roundg (xs.length - (k + 3))
                  case measure => omega
                  case rel => exact ⟨k + 3, m - 3, _, _, (f', b', x'), by omega, by omega, rfl, by omega, by omega, (by intro hp; first | rfl | omega), hb, hv, hr, hn, HS.out, HO.out, by rw [← HL.out, HE.out]⟩)
            · have z1 : y2 < 256 := by omega
              have z2 : 0 ≤ y2 := by omega
              have HE : Hid (applyL (f', b', x') (xs.drop k) = applyL (y2 + 1, b', x') (xs.drop (k + 3))) := by unfold Hid; rw [HE3.out, h38]; unfold lng; rw [if_neg (by omega)]; rfl
              clear hlen HRk
              as_aux_lemma =>
                go_wp2_with fail
                all_goals (
                  go_roundg (xs.length - (k + 3))
                  case measure => omega
                  case rel => exact ⟨k + 3, m - 3, _, _, (y2 + 1, b', x'), by omega, by omega, rfl, by omega, by omega, (by intro hp; first | rfl | omega), hb.setCell (Nat.le_refl _) _, heap_setCell_same _ _ _ _ _ _ hv, (heap_setCell_other _ _ _ _ (by dsimp only; omega)).trans hr, (heap_setCell_other _ _ _ _ (by dsimp only; omega)).trans hn, HS.out.block (heap_setCell_other _ _ _ _ (by dsimp only; omega)), HO.out.block (heap_setCell_other _ _ _ _ (by dsimp only; omega)), by rw [← HL.out, HE.out]⟩)
        · have h48 : y0 = 48 := by omega
          clear hlg
          have n38 : (y0 == 38) = false := by rw [h48]; rfl
          have n48 : (y0 == 48) = true := by rw [h48]; rfl
          have e5 : (y1 == 5) = true := by rw [h5]; rfl
          by_cases hc0 : y2 < 0
          · have z : y2 < 0 := hc0
            have HE : Hid (applyL (f', b', x') (xs.drop k) = applyL (f', b', x') (xs.drop (k + 3))) := by unfold Hid; rw [HE3.out, h48]; unfold lng; rw [if_pos (Or.inl hc0)]
            clear hlen HRk
            as_aux_lemma =>
              go_wp2_with fail
              all_goals (
                go_roundg (xs.length - (k + 3))
                case measure => omega
                case rel => exact ⟨k + 3, m - 3, _, _, (f', b', x'), by omega, by omega, rfl, by omega, by omega, (by intro hp; first | rfl | omega), hb, hv, hr, hn, HS.out, HO.out, by rw [← HL.out, HE.out]⟩)
          · by_cases hc1 : 256 ≤ y2
            · have z1 : 256 ≤ y2 := hc1
              have z2 : 0 ≤ y2 := by omega
              have HE : Hid (applyL (f', b', x') (xs.drop k) = applyL (f', b', x') (xs.drop (k + 3))) := by unfold Hid; rw [HE3.out, h48]; unfold lng; rw [if_pos (Or.inr hc1)]
              clear hlen HRk
              as_aux_lemma =>
                go_wp2_with fail
                all_goals (
                  go_roundg (xs.length - (k + 3))
                  case measure => omega
                  case rel => exact ⟨k + 3, m - 3, _, _, (f', b', x'), by omega, by omega, rfl, by omega, by omega, (by intro hp; first | rfl | omega), hb, hv, hr, hn, HS.out, HO.out, by rw [← HL.out, HE.out]⟩)
            · have z1 : y2 < 256 := by omega
              have z2 : 0 ≤ y2 := by omega
              have HE : Hid (applyL (f', b', x') (xs.drop k) = applyL (f', y2 + 1, x') (xs.drop (k + 3))) := by unfold Hid; rw [HE3.out, h48]; unfold lng; rw [if_neg (by omega)]; rfl
              clear hlen HRk
              as_aux_lemma =>
                go_wp2_with fail
                all_goals (
                  go_roundg (xs.length - (k + 3))
                  case measure => omega
                  case rel => exact ⟨k + 3, m - 3, _, _, (f', y2 + 1, x'), by omega, by omega, rfl, by omega, by omega, (by intro hp; first | rfl | omega), hb.setCell (Nat.le_refl _) _, heap_setCell_same _ _ _ _ _ _ hv, (heap_setCell_other _ _ _ _ (by dsimp only; omega)).trans hr, (heap_setCell_other _ _ _ _ (by dsimp only; omega)).trans hn, HS.out.block (heap_setCell_other _ _ _ _ (by dsimp only; omega)), HO.out.block (heap_setCell_other _ _ _ _ (by dsimp only; omega)), by rw [← HL.out, HE.out]⟩)
      · have hlg : isLg (xs.drop k) = false := by simpa using hlg
        have HE0 : Hid (applyL (f', b', x') (xs.drop k) = applyL (one (f', b', x') (xs.getD k 0)) (xs.drop (k + 1))) := by
          have hl' := hlg
          unfold Hid
          rw [drop_cons xs k hlt] at hl' ⊢
          exact applyL_one _ _ _ hl'
        generalize hyk : xs.getD k 0 = y0 at *
        by_cases h38 : y0 = 38
        · by_cases m3 : m < 3
          · have n38 : (y0 == 38) = true := by rw [h38]; rfl
            have z : 0 < y0 := by omega
            have K1 : Hid (look setM y0 = 0) := look_set_zero y0 (by omega)
            have K2 : Hid (look offM y0 = 0) := look_off_zero y0 (by omega)
            have l1 : (Instr.lookup 74 (.map (some (w.heap.size + 1 + 1 + 1))) (.int .i64 y0) false).run Tryz.prog wr = .ok (.int .i64 0) wr := by have := HS.out.lookup y0 hy0 hy1; rwa [K1.out] at this
            have l2 : (Instr.lookup 74 (.map (some W7.heap.size)) (.int .i64 y0) false).run Tryz.prog wr = .ok (.int .i64 0) wr := by have := HO.out.lookup y0 hy0 hy1; rwa [K2.out] at this
            have hq : wrap64 (y0.tdiv 10) = 3 := by rw [quo10 y0 (by omega) hy1]; omega
            have hr8 : 8 ≤ y0 % 10 := by omega
            have n39 : (y0 == 39) = false := beq_eq_false_iff_ne.2 (by omega)
            have n49 : (y0 == 49) = false := beq_eq_false_iff_ne.2 (by omega)
            have HE : Hid (applyL (f', b', x') (xs.drop k) = applyL (f', b', x') (xs.drop (k + 1))) := by unfold Hid; rw [HE0.out, one_else f' b' x' y0 (by omega) K1.out K2.out (by omega) (by omega) (by omega) (by omega) (by omega) (by omega)]
            clear hlen HRk h38
            as_aux_lemma =>
              go_wp2_with fail
              all_goals (
                go_roundg (xs.length - (k + 1))
                case measure => omega
                case rel => exact ⟨k + 1, m - 1, _, _, (f', b', x'), by omega, by omega, rfl, by omega, by omega, (by intro hp; first | rfl | omega), hb, hv, hr, hn, HS.out, HO.out, by rw [← HL.out, HE.out]⟩)
          · have n38 : (y0 == 38) = true := by rw [h38]; rfl
            have q1 : wr.cell? ⟨b, o + k + 1, none⟩ = some (.int .i64 (xs.getD (k + 1) 0)) := by
              have := HRk.out 1 (by omega)
              rw [drop_cons xs k hlt] at this
              rw [show (xs.getD k 0 :: List.drop (k + 1) xs).getD 1 0 = (List.drop (k + 1) xs).getD 0 0 from rfl, drop_cons xs (k + 1) (by omega)] at this
              exact this
            have n5 : (xs.getD (k + 1) 0 == 5) = false := by
              have := hlg
              rw [drop_cons xs k hlt, drop_cons xs (k + 1) (by omega), drop_cons xs (k + 1 + 1) (by omega)] at this
              simp only [isLg, decide_eq_false_iff_not] at this
              rw [beq_eq_false_iff_ne]
              intro h5
              exact this ⟨by rw [hyk]; omega, h5⟩
            generalize xs.getD (k + 1) 0 = y1 at *
            have z : 0 < y0 := by omega
            have K1 : Hid (look setM y0 = 0) := look_set_zero y0 (by omega)
            have K2 : Hid (look offM y0 = 0) := look_off_zero y0 (by omega)
            have l1 : (Instr.lookup 74 (.map (some (w.heap.size + 1 + 1 + 1))) (.int .i64 y0) false).run Tryz.prog wr = .ok (.int .i64 0) wr := by have := HS.out.lookup y0 hy0 hy1; rwa [K1.out] at this
            have l2 : (Instr.lookup 74 (.map (some W7.heap.size)) (.int .i64 y0) false).run Tryz.prog wr = .ok (.int .i64 0) wr := by have := HO.out.lookup y0 hy0 hy1; rwa [K2.out] at this
            have hq : wrap64 (y0.tdiv 10) = 3 := by rw [quo10 y0 (by omega) hy1]; omega
            have hr8 : 8 ≤ y0 % 10 := by omega
            have n39 : (y0 == 39) = false := beq_eq_false_iff_ne.2 (by omega)
            have n49 : (y0 == 49) = false := beq_eq_false_iff_ne.2 (by omega)
            have HE : Hid (applyL (f', b', x') (xs.drop k) = applyL (f', b', x') (xs.drop (k + 1))) := by unfold Hid; rw [HE0.out, one_else f' b' x' y0 (by omega) K1.out K2.out (by omega) (by omega) (by omega) (by omega) (by omega) (by omega)]
            clear hlen HRk h38
            as_aux_lemma =>
              go_wp2_with fail
              all_goals (
                go_roundg (xs.length - (k + 1))
                case measure => omega
                case rel => exact ⟨k + 1, m - 1, _, _, (f', b', x'), by omega, by omega, rfl, by omega, by omega, (by intro hp; first | rfl | omega), hb, hv, hr, hn, HS.out, HO.out, by rw [← HL.out, HE.out]⟩)
        · by_cases h48 : y0 = 48
          · by_cases m3 : m < 3
            · have n38 : (y0 == 38) = false := by rw [h48]; rfl
              have n48 : (y0 == 48) = true := by rw [h48]; rfl
              have z : 0 < y0 := by omega
              have K1 : Hid (look setM y0 = 0) := look_set_zero y0 (by omega)
              have K2 : Hid (look offM y0 = 0) := look_off_zero y0 (by omega)
              have l1 : (Instr.lookup 74 (.map (some (w.heap.size + 1 + 1 + 1))) (.int .i64 y0) false).run Tryz.prog wr = .ok (.int .i64 0) wr := by have := HS.out.lookup y0 hy0 hy1; rwa [K1.out] at this
              have l2 : (Instr.lookup 74 (.map (some W7.heap.size)) (.int .i64 y0) false).run Tryz.prog wr = .ok (.int .i64 0) wr := by have := HO.out.lookup y0 hy0 hy1; rwa [K2.out] at this
              have hq : wrap64 (y0.tdiv 10) = 4 := by rw [quo10 y0 (by omega) hy1]; omega
              have hr8 : 8 ≤ y0 % 10 := by omega
              have n39 : (y0 == 39) = false := beq_eq_false_iff_ne.2 (by omega)
              have n49 : (y0 == 49) = false := beq_eq_false_iff_ne.2 (by omega)
              have HE : Hid (applyL (f', b', x') (xs.drop k) = applyL (f', b', x') (xs.drop (k + 1))) := by unfold Hid; rw [HE0.out, one_else f' b' x' y0 (by omega) K1.out K2.out (by omega) (by omega) (by omega) (by omega) (by omega) (by omega)]
              clear hlen HRk h48
              as_aux_lemma =>
                go_wp2_with fail
                all_goals (
                  go_roundg (xs.length - (k + 1))
                  case measure => omega
                  case rel => exact ⟨k + 1, m - 1, _, _, (f', b', x'), by omega, by omega, rfl, by omega, by omega, (by intro hp; first | rfl | omega), hb, hv, hr, hn, HS.out, HO.out, by rw [← HL.out, HE.out]⟩)
            · have n38 : (y0 == 38) = false := by rw [h48]; rfl
              have n48 : (y0 == 48) = true := by rw [h48]; rfl
              have q1 : wr.cell? ⟨b, o + k + 1, none⟩ = some (.int .i64 (xs.getD (k + 1) 0)) := by
                have := HRk.out 1 (by omega)
                rw [drop_cons xs k hlt] at this
                rw [show (xs.getD k 0 :: List.drop (k + 1) xs).getD 1 0 = (List.drop (k + 1) xs).getD 0 0 from rfl, drop_cons xs (k + 1) (by omega)] at this
                exact this
              have n5 : (xs.getD (k + 1) 0 == 5) = false := by
                have := hlg
                rw [drop_cons xs k hlt, drop_cons xs (k + 1) (by omega), drop_cons xs (k + 1 + 1) (by omega)] at this
                simp only [isLg, decide_eq_false_iff_not] at this
                rw [beq_eq_false_iff_ne]
                intro h5
                exact this ⟨by rw [hyk]; omega, h5⟩
              generalize xs.getD (k + 1) 0 = y1 at *
              have z : 0 < y0 := by omega
              have K1 : Hid (look setM y0 = 0) := look_set_zero y0 (by omega)
              have K2 : Hid (look offM y0 = 0) := look_off_zero y0 (by omega)
              have l1 : (Instr.lookup 74 (.map (some (w.heap.size + 1 + 1 + 1))) (.int .i64 y0) false).run Tryz.prog wr = .ok (.int .i64 0) wr := by have := HS.out.lookup y0 hy0 hy1; rwa [K1.out] at this
              have l2 : (Instr.lookup 74 (.map (some W7.heap.size)) (.int .i64 y0) false).run Tryz.prog wr = .ok (.int .i64 0) wr := by have := HO.out.lookup y0 hy0 hy1; rwa [K2.out] at this
              have hq : wrap64 (y0.tdiv 10) = 4 := by rw [quo10 y0 (by omega) hy1]; omega
              have hr8 : 8 ≤ y0 % 10 := by omega
              have n39 : (y0 == 39) = false := beq_eq_false_iff_ne.2 (by omega)
              have n49 : (y0 == 49) = false := beq_eq_false_iff_ne.2 (by omega)
              have HE : Hid (applyL (f', b', x') (xs.drop k) = applyL (f', b', x') (xs.drop (k + 1))) := by unfold Hid; rw [HE0.out, one_else f' b' x' y0 (by omega) K1.out K2.out (by omega) (by omega) (by omega) (by omega) (by omega) (by omega)]
              clear hlen HRk h48
              as_aux_lemma =>
                go_wp2_with fail
                all_goals (
                  go_roundg (xs.length - (k + 1))
                  case measure => omega
                  case rel => exact ⟨k + 1, m - 1, _, _, (f', b', x'), by omega, by omega, rfl, by omega, by omega, (by intro hp; first | rfl | omega), hb, hv, hr, hn, HS.out, HO.out, by rw [← HL.out, HE.out]⟩)
          · by_cases hle : y0 ≤ 0
            · have n38 : (y0 == 38) = false := beq_eq_false_iff_ne.2 (by omega)
              have n48 : (y0 == 48) = false := beq_eq_false_iff_ne.2 (by omega)
              have z : y0 ≤ 0 := hle
              have HE : Hid (applyL (f', b', x') (xs.drop k) = applyL (0, 0, 0) (xs.drop (k + 1))) := by unfold Hid; rw [HE0.out, one_le _ _ hle]
              clear hlen HRk
              as_aux_lemma =>
                go_wp2_with fail
                all_goals (
                  go_roundg (xs.length - (k + 1))
                  case measure => omega
                  case rel => exact ⟨k + 1, m - 1, _, _, (0, 0, 0), by omega, by omega, rfl, by omega, by omega, (by intro hp; first | rfl | omega), set3_below hb (Nat.le_refl _) _ _ _, set3 hv _ _ _, (set3_other (by omega) _ _ _).trans hr, (set3_other (by omega) _ _ _).trans hn, HS.out.block (set3_other (by omega) _ _ _), HO.out.block (set3_other (by omega) _ _ _), by rw [← HL.out, HE.out]⟩)
            · by_cases hset : 0 < look setM y0
              · have n38 : (y0 == 38) = false := beq_eq_false_iff_ne.2 (by omega)
                have n48 : (y0 == 48) = false := beq_eq_false_iff_ne.2 (by omega)
                have HG : Hid (one (f', b', x') y0 = (f', b', bits .or .i64 x' (look setM y0))) := one_set f' b' x' y0 hset
                have l1 := HS.out.lookup y0 hy0 hy1
                generalize look setM y0 = v1 at *
                have HE : Hid (applyL (f', b', x') (xs.drop k) = applyL (f', b', bits .or .i64 x' v1) (xs.drop (k + 1))) := by unfold Hid; rw [HE0.out, HG.out]
                clear hlen HRk
                as_aux_lemma =>
                  go_wp2_with fail
                  all_goals (
                    go_roundg (xs.length - (k + 1))
                    case measure => omega
                    case rel => exact ⟨k + 1, m - 1, _, _, (f', b', bits .or .i64 x' v1), by omega, by omega, rfl, by omega, by omega, (by intro hp; first | rfl | omega), hb.setCell (Nat.le_refl _) _, heap_setCell_same _ _ _ _ _ _ hv, (heap_setCell_other _ _ _ _ (by dsimp only; omega)).trans hr, (heap_setCell_other _ _ _ _ (by dsimp only; omega)).trans hn, HS.out.block (heap_setCell_other _ _ _ _ (by dsimp only; omega)), HO.out.block (heap_setCell_other _ _ _ _ (by dsimp only; omega)), by rw [← HL.out, HE.out]⟩)
              · by_cases hoff : 0 < look offM y0
                · have n38 : (y0 == 38) = false := beq_eq_false_iff_ne.2 (by omega)
                  have n48 : (y0 == 48) = false := beq_eq_false_iff_ne.2 (by omega)
                  have K1 : Hid (look setM y0 = 0) := by have := look_set_nonneg y0; unfold Hid; omega
                  have HG : Hid (one (f', b', x') y0 = (f', b', bits .andNot .i64 x' (look offM y0))) := one_off f' b' x' y0 hoff
                  have l1 : (Instr.lookup 74 (.map (some (w.heap.size + 1 + 1 + 1))) (.int .i64 y0) false).run Tryz.prog wr = .ok (.int .i64 0) wr := by have := HS.out.lookup y0 hy0 hy1; rwa [K1.out] at this
                  have l2 := HO.out.lookup y0 hy0 hy1
                  clear hset
                  generalize look offM y0 = v2 at *
                  have HE : Hid (applyL (f', b', x') (xs.drop k) = applyL (f', b', bits .andNot .i64 x' v2) (xs.drop (k + 1))) := by unfold Hid; rw [HE0.out, HG.out]
                  clear hlen HRk
                  as_aux_lemma =>
                    go_wp2_with fail
                    all_goals (
                      go_roundg (xs.length - (k + 1))
                      case measure => omega
                      case rel => exact ⟨k + 1, m - 1, _, _, (f', b', bits .andNot .i64 x' v2), by omega, by omega, rfl, by omega, by omega, (by intro hp; first | rfl | omega), hb.setCell (Nat.le_refl _) _, heap_setCell_same _ _ _ _ _ _ hv, (heap_setCell_other _ _ _ _ (by dsimp only; omega)).trans hr, (heap_setCell_other _ _ _ _ (by dsimp only; omega)).trans hn, HS.out.block (heap_setCell_other _ _ _ _ (by dsimp only; omega)), HO.out.block (heap_setCell_other _ _ _ _ (by dsimp only; omega)), by rw [← HL.out, HE.out]⟩)
                · by_cases h3 : 30 ≤ y0 ∧ y0 ≤ 37
                  · have n38 : (y0 == 38) = false := beq_eq_false_iff_ne.2 (by omega)
                    have n48 : (y0 == 48) = false := beq_eq_false_iff_ne.2 (by omega)
                    have K1 : Hid (look setM y0 = 0) := look_set_zero y0 (by omega)
                    have K2 : Hid (look offM y0 = 0) := look_off_zero y0 (by omega)
                    have l1 : (Instr.lookup 74 (.map (some (w.heap.size + 1 + 1 + 1))) (.int .i64 y0) false).run Tryz.prog wr = .ok (.int .i64 0) wr := by have := HS.out.lookup y0 hy0 hy1; rwa [K1.out] at this
                    have l2 : (Instr.lookup 74 (.map (some W7.heap.size)) (.int .i64 y0) false).run Tryz.prog wr = .ok (.int .i64 0) wr := by have := HO.out.lookup y0 hy0 hy1; rwa [K2.out] at this
                    have hq : wrap64 (y0.tdiv 10) = 3 := by rw [quo10 y0 (by omega) hy1]; omega
                    have hr8 : y0 % 10 < 8 := by omega
                    have HE : Hid (applyL (f', b', x') (xs.drop k) = applyL (y0 % 10 + 1, b', x') (xs.drop (k + 1))) := by unfold Hid; rw [HE0.out, one_3x f' b' x' y0 (by omega) (by omega)]
                    clear hlen HRk
                    as_aux_lemma =>
                      go_wp2_with fail
                      all_goals (
                        go_roundg (xs.length - (k + 1))
                        case measure => omega
                        case rel => exact ⟨k + 1, m - 1, _, _, (y0 % 10 + 1, b', x'), by omega, by omega, rfl, by omega, by omega, (by intro hp; first | rfl | omega), hb.setCell (Nat.le_refl _) _, heap_setCell_same _ _ _ _ _ _ hv, (heap_setCell_other _ _ _ _ (by dsimp only; omega)).trans hr, (heap_setCell_other _ _ _ _ (by dsimp only; omega)).trans hn, HS.out.block (heap_setCell_other _ _ _ _ (by dsimp only; omega)), HO.out.block (heap_setCell_other _ _ _ _ (by dsimp only; omega)), by rw [← HL.out, HE.out]⟩)
                  · by_cases h4 : 40 ≤ y0 ∧ y0 ≤ 47
                    · have n38 : (y0 == 38) = false := beq_eq_false_iff_ne.2 (by omega)
                      have n48 : (y0 == 48) = false := beq_eq_false_iff_ne.2 (by omega)
                      have K1 : Hid (look setM y0 = 0) := look_set_zero y0 (by omega)
                      have K2 : Hid (look offM y0 = 0) := look_off_zero y0 (by omega)
                      have l1 : (Instr.lookup 74 (.map (some (w.heap.size + 1 + 1 + 1))) (.int .i64 y0) false).run Tryz.prog wr = .ok (.int .i64 0) wr := by have := HS.out.lookup y0 hy0 hy1; rwa [K1.out] at this
                      have l2 : (Instr.lookup 74 (.map (some W7.heap.size)) (.int .i64 y0) false).run Tryz.prog wr = .ok (.int .i64 0) wr := by have := HO.out.lookup y0 hy0 hy1; rwa [K2.out] at this
                      have hq : wrap64 (y0.tdiv 10) = 4 := by rw [quo10 y0 (by omega) hy1]; omega
                      have hr8 : y0 % 10 < 8 := by omega
                      have HE : Hid (applyL (f', b', x') (xs.drop k) = applyL (f', y0 % 10 + 1, x') (xs.drop (k + 1))) := by unfold Hid; rw [HE0.out, one_4x f' b' x' y0 (by omega) (by omega)]
                      clear hlen HRk
                      as_aux_lemma =>
                        go_wp2_with fail
                        all_goals (
                          go_roundg (xs.length - (k + 1))
                          case measure => omega
                          case rel => exact ⟨k + 1, m - 1, _, _, (f', y0 % 10 + 1, x'), by omega, by omega, rfl, by omega, by omega, (by intro hp; first | rfl | omega), hb.setCell (Nat.le_refl _) _, heap_setCell_same _ _ _ _ _ _ hv, (heap_setCell_other _ _ _ _ (by dsimp only; omega)).trans hr, (heap_setCell_other _ _ _ _ (by dsimp only; omega)).trans hn, HS.out.block (heap_setCell_other _ _ _ _ (by dsimp only; omega)), HO.out.block (heap_setCell_other _ _ _ _ (by dsimp only; omega)), by rw [← HL.out, HE.out]⟩)
                    · by_cases h9 : 90 ≤ y0 ∧ y0 ≤ 97
                      · have n38 : (y0 == 38) = false := beq_eq_false_iff_ne.2 (by omega)
                        have n48 : (y0 == 48) = false := beq_eq_false_iff_ne.2 (by omega)
                        have K1 : Hid (look setM y0 = 0) := look_set_zero y0 (by omega)
                        have K2 : Hid (look offM y0 = 0) := look_off_zero y0 (by omega)
                        have l1 : (Instr.lookup 74 (.map (some (w.heap.size + 1 + 1 + 1))) (.int .i64 y0) false).run Tryz.prog wr = .ok (.int .i64 0) wr := by have := HS.out.lookup y0 hy0 hy1; rwa [K1.out] at this
                        have l2 : (Instr.lookup 74 (.map (some W7.heap.size)) (.int .i64 y0) false).run Tryz.prog wr = .ok (.int .i64 0) wr := by have := HO.out.lookup y0 hy0 hy1; rwa [K2.out] at this
                        have hq : wrap64 (y0.tdiv 10) = 9 := by rw [quo10 y0 (by omega) hy1]; omega
                        have hr8 : y0 % 10 < 8 := by omega
                        have HE : Hid (applyL (f', b', x') (xs.drop k) = applyL (y0 % 10 + 9, b', x') (xs.drop (k + 1))) := by unfold Hid; rw [HE0.out, one_9x f' b' x' y0 (by omega) (by omega)]
                        clear hlen HRk
                        as_aux_lemma =>
                          go_wp2_with fail
                          all_goals (
                            go_roundg (xs.length - (k + 1))
                            case measure => omega
                            case rel => exact ⟨k + 1, m - 1, _, _, (y0 % 10 + 9, b', x'), by omega, by omega, rfl, by omega, by omega, (by intro hp; first | rfl | omega), hb.setCell (Nat.le_refl _) _, heap_setCell_same _ _ _ _ _ _ hv, (heap_setCell_other _ _ _ _ (by dsimp only; omega)).trans hr, (heap_setCell_other _ _ _ _ (by dsimp only; omega)).trans hn, HS.out.block (heap_setCell_other _ _ _ _ (by dsimp only; omega)), HO.out.block (heap_setCell_other _ _ _ _ (by dsimp only; omega)), by rw [← HL.out, HE.out]⟩)
                      · by_cases h10 : 100 ≤ y0 ∧ y0 ≤ 107
                        · have n38 : (y0 == 38) = false := beq_eq_false_iff_ne.2 (by omega)
                          have n48 : (y0 == 48) = false := beq_eq_false_iff_ne.2 (by omega)
                          have K1 : Hid (look setM y0 = 0) := look_set_zero y0 (by omega)
                          have K2 : Hid (look offM y0 = 0) := look_off_zero y0 (by omega)
                          have l1 : (Instr.lookup 74 (.map (some (w.heap.size + 1 + 1 + 1))) (.int .i64 y0) false).run Tryz.prog wr = .ok (.int .i64 0) wr := by have := HS.out.lookup y0 hy0 hy1; rwa [K1.out] at this
                          have l2 : (Instr.lookup 74 (.map (some W7.heap.size)) (.int .i64 y0) false).run Tryz.prog wr = .ok (.int .i64 0) wr := by have := HO.out.lookup y0 hy0 hy1; rwa [K2.out] at this
                          have hq : wrap64 (y0.tdiv 10) = 10 := by rw [quo10 y0 (by omega) hy1]; omega
                          have hr8 : y0 % 10 < 8 := by omega
                          have HE : Hid (applyL (f', b', x') (xs.drop k) = applyL (f', y0 % 10 + 9, x') (xs.drop (k + 1))) := by unfold Hid; rw [HE0.out, one_10x f' b' x' y0 (by omega) (by omega)]
                          clear hlen HRk
                          as_aux_lemma =>
                            go_wp2_with fail
                            all_goals (
                              go_roundg (xs.length - (k + 1))
                              case measure => omega
                              case rel => exact ⟨k + 1, m - 1, _, _, (f', y0 % 10 + 9, x'), by omega, by omega, rfl, by omega, by omega, (by intro hp; first | rfl | omega), hb.setCell (Nat.le_refl _) _, heap_setCell_same _ _ _ _ _ _ hv, (heap_setCell_other _ _ _ _ (by dsimp only; omega)).trans hr, (heap_setCell_other _ _ _ _ (by dsimp only; omega)).trans hn, HS.out.block (heap_setCell_other _ _ _ _ (by dsimp only; omega)), HO.out.block (heap_setCell_other _ _ _ _ (by dsimp only; omega)), by rw [← HL.out, HE.out]⟩)
                        · by_cases h39 : y0 = 39
                          · have n38 : (y0 == 38) = false := beq_eq_false_iff_ne.2 (by omega)
                            have n48 : (y0 == 48) = false := beq_eq_false_iff_ne.2 (by omega)
                            have K1 : Hid (look setM y0 = 0) := look_set_zero y0 (by omega)
                            have K2 : Hid (look offM y0 = 0) := look_off_zero y0 (by omega)
                            have l1 : (Instr.lookup 74 (.map (some (w.heap.size + 1 + 1 + 1))) (.int .i64 y0) false).run Tryz.prog wr = .ok (.int .i64 0) wr := by have := HS.out.lookup y0 hy0 hy1; rwa [K1.out] at this
                            have l2 : (Instr.lookup 74 (.map (some W7.heap.size)) (.int .i64 y0) false).run Tryz.prog wr = .ok (.int .i64 0) wr := by have := HO.out.lookup y0 hy0 hy1; rwa [K2.out] at this
                            have hq : wrap64 (y0.tdiv 10) = 3 := by rw [quo10 y0 (by omega) hy1]; omega
                            have hr8 : 8 ≤ y0 % 10 := by omega
                            have n39 : (y0 == 39) = true := by rw [h39]; rfl
                            have HE : Hid (applyL (f', b', x') (xs.drop k) = applyL (0, b', x') (xs.drop (k + 1))) := by unfold Hid; rw [HE0.out, h39, one_39]
                            clear hlen HRk h39
                            as_aux_lemma =>
                              go_wp2_with fail
                              all_goals (
                                go_roundg (xs.length - (k + 1))
                                case measure => omega
                                case rel => exact ⟨k + 1, m - 1, _, _, (0, b', x'), by omega, by omega, rfl, by omega, by omega, (by intro hp; first | rfl | omega), hb.setCell (Nat.le_refl _) _, heap_setCell_same _ _ _ _ _ _ hv, (heap_setCell_other _ _ _ _ (by dsimp only; omega)).trans hr, (heap_setCell_other _ _ _ _ (by dsimp only; omega)).trans hn, HS.out.block (heap_setCell_other _ _ _ _ (by dsimp only; omega)), HO.out.block (heap_setCell_other _ _ _ _ (by dsimp only; omega)), by rw [← HL.out, HE.out]⟩)
                          · by_cases h49 : y0 = 49
                            · have n38 : (y0 == 38) = false := beq_eq_false_iff_ne.2 (by omega)
                              have n48 : (y0 == 48) = false := beq_eq_false_iff_ne.2 (by omega)
                              have K1 : Hid (look setM y0 = 0) := look_set_zero y0 (by omega)
                              have K2 : Hid (look offM y0 = 0) := look_off_zero y0 (by omega)
                              have l1 : (Instr.lookup 74 (.map (some (w.heap.size + 1 + 1 + 1))) (.int .i64 y0) false).run Tryz.prog wr = .ok (.int .i64 0) wr := by have := HS.out.lookup y0 hy0 hy1; rwa [K1.out] at this
                              have l2 : (Instr.lookup 74 (.map (some W7.heap.size)) (.int .i64 y0) false).run Tryz.prog wr = .ok (.int .i64 0) wr := by have := HO.out.lookup y0 hy0 hy1; rwa [K2.out] at this
                              have hq : wrap64 (y0.tdiv 10) = 4 := by rw [quo10 y0 (by omega) hy1]; omega
                              have hr8 : 8 ≤ y0 % 10 := by omega
                              have n39 : (y0 == 39) = false := by rw [h49]; rfl
                              have n49 : (y0 == 49) = true := by rw [h49]; rfl
                              have HE : Hid (applyL (f', b', x') (xs.drop k) = applyL (f', 0, x') (xs.drop (k + 1))) := by unfold Hid; rw [HE0.out, h49, one_49]
                              clear hlen HRk h49
                              as_aux_lemma =>
                                go_wp2_with fail
                                all_goals (
                                  go_roundg (xs.length - (k + 1))
                                  case measure => omega
                                  case rel => exact ⟨k + 1, m - 1, _, _, (f', 0, x'), by omega, by omega, rfl, by omega, by omega, (by intro hp; first | rfl | omega), hb.setCell (Nat.le_refl _) _, heap_setCell_same _ _ _ _ _ _ hv, (heap_setCell_other _ _ _ _ (by dsimp only; omega)).trans hr, (heap_setCell_other _ _ _ _ (by dsimp only; omega)).trans hn, HS.out.block (heap_setCell_other _ _ _ _ (by dsimp only; omega)), HO.out.block (heap_setCell_other _ _ _ _ (by dsimp only; omega)), by rw [← HL.out, HE.out]⟩)
                            · by_cases h98 : y0 = 98 ∨ y0 = 99
                              · have n38 : (y0 == 38) = false := beq_eq_false_iff_ne.2 (by omega)
                                have n48 : (y0 == 48) = false := beq_eq_false_iff_ne.2 (by omega)
                                have z : 0 < y0 := by omega
                                have K1 : Hid (look setM y0 = 0) := look_set_zero y0 (by omega)
                                have K2 : Hid (look offM y0 = 0) := look_off_zero y0 (by omega)
                                have l1 : (Instr.lookup 74 (.map (some (w.heap.size + 1 + 1 + 1))) (.int .i64 y0) false).run Tryz.prog wr = .ok (.int .i64 0) wr := by have := HS.out.lookup y0 hy0 hy1; rwa [K1.out] at this
                                have l2 : (Instr.lookup 74 (.map (some W7.heap.size)) (.int .i64 y0) false).run Tryz.prog wr = .ok (.int .i64 0) wr := by have := HO.out.lookup y0 hy0 hy1; rwa [K2.out] at this
                                have hq : wrap64 (y0.tdiv 10) = 9 := by rw [quo10 y0 (by omega) hy1]; omega
                                have hr8 : 8 ≤ y0 % 10 := by omega
                                have n39 : (y0 == 39) = false := beq_eq_false_iff_ne.2 (by omega)
                                have n49 : (y0 == 49) = false := beq_eq_false_iff_ne.2 (by omega)
                                have HE : Hid (applyL (f', b', x') (xs.drop k) = applyL (f', b', x') (xs.drop (k + 1))) := by unfold Hid; rw [HE0.out, one_else f' b' x' y0 (by omega) K1.out K2.out (by omega) (by omega) (by omega) (by omega) (by omega) (by omega)]
                                clear hlen HRk
                                as_aux_lemma =>
                                  go_wp2_with fail
                                  all_goals (
                                    go_roundg (xs.length - (k + 1))
                                    case measure => omega
                                    case rel => exact ⟨k + 1, m - 1, _, _, (f', b', x'), by omega, by omega, rfl, by omega, by omega, (by intro hp; first | rfl | omega), hb, hv, hr, hn, HS.out, HO.out, by rw [← HL.out, HE.out]⟩)
                              · by_cases h108 : y0 = 108 ∨ y0 = 109
                                · have n38 : (y0 == 38) = false := beq_eq_false_iff_ne.2 (by omega)
                                  have n48 : (y0 == 48) = false := beq_eq_false_iff_ne.2 (by omega)
                                  have z : 0 < y0 := by omega
                                  have K1 : Hid (look setM y0 = 0) := look_set_zero y0 (by omega)
                                  have K2 : Hid (look offM y0 = 0) := look_off_zero y0 (by omega)
                                  have l1 : (Instr.lookup 74 (.map (some (w.heap.size + 1 + 1 + 1))) (.int .i64 y0) false).run Tryz.prog wr = .ok (.int .i64 0) wr := by have := HS.out.lookup y0 hy0 hy1; rwa [K1.out] at this
                                  have l2 : (Instr.lookup 74 (.map (some W7.heap.size)) (.int .i64 y0) false).run Tryz.prog wr = .ok (.int .i64 0) wr := by have := HO.out.lookup y0 hy0 hy1; rwa [K2.out] at this
                                  have hq : wrap64 (y0.tdiv 10) = 10 := by rw [quo10 y0 (by omega) hy1]; omega
                                  have hr8 : 8 ≤ y0 % 10 := by omega
                                  have n39 : (y0 == 39) = false := beq_eq_false_iff_ne.2 (by omega)
                                  have n49 : (y0 == 49) = false := beq_eq_false_iff_ne.2 (by omega)
                                  have HE : Hid (applyL (f', b', x') (xs.drop k) = applyL (f', b', x') (xs.drop (k + 1))) := by unfold Hid; rw [HE0.out, one_else f' b' x' y0 (by omega) K1.out K2.out (by omega) (by omega) (by omega) (by omega) (by omega) (by omega)]
                                  clear hlen HRk
                                  as_aux_lemma =>
                                    go_wp2_with fail
                                    all_goals (
                                      go_roundg (xs.length - (k + 1))
                                      case measure => omega
                                      case rel => exact ⟨k + 1, m - 1, _, _, (f', b', x'), by omega, by omega, rfl, by omega, by omega, (by intro hp; first | rfl | omega), hb, hv, hr, hn, HS.out, HO.out, by rw [← HL.out, HE.out]⟩)
                                · have n38 : (y0 == 38) = false := beq_eq_false_iff_ne.2 (by omega)
                                  have n48 : (y0 == 48) = false := beq_eq_false_iff_ne.2 (by omega)
                                  have K1 : Hid (look setM y0 = 0) := by have := look_set_nonneg y0; unfold Hid; omega
                                  have K2 : Hid (look offM y0 = 0) := by have := look_off_nonneg y0; unfold Hid; omega
                                  have l1 : (Instr.lookup 74 (.map (some (w.heap.size + 1 + 1 + 1))) (.int .i64 y0) false).run Tryz.prog wr = .ok (.int .i64 0) wr := by have := HS.out.lookup y0 hy0 hy1; rwa [K1.out] at this
                                  have l2 : (Instr.lookup 74 (.map (some W7.heap.size)) (.int .i64 y0) false).run Tryz.prog wr = .ok (.int .i64 0) wr := by have := HO.out.lookup y0 hy0 hy1; rwa [K2.out] at this
                                  have hq3 : ¬ wrap64 (y0.tdiv 10) = 3 := by rw [quo10 y0 (by omega) hy1]; omega
                                  have hq4 : ¬ wrap64 (y0.tdiv 10) = 4 := by rw [quo10 y0 (by omega) hy1]; omega
                                  have hq9 : ¬ wrap64 (y0.tdiv 10) = 9 := by rw [quo10 y0 (by omega) hy1]; omega
                                  have hq10 : ¬ wrap64 (y0.tdiv 10) = 10 := by rw [quo10 y0 (by omega) hy1]; omega
                                  have n39 : (y0 == 39) = false := beq_eq_false_iff_ne.2 (by omega)
                                  have n49 : (y0 == 49) = false := beq_eq_false_iff_ne.2 (by omega)
                                  have HE : Hid (applyL (f', b', x') (xs.drop k) = applyL (f', b', x') (xs.drop (k + 1))) := by unfold Hid; rw [HE0.out, one_else f' b' x' y0 (by omega) K1.out K2.out (by omega) (by omega) (by omega) (by omega) (by omega) (by omega)]
                                  clear hset hoff
                                  clear hlen HRk
                                  as_aux_lemma =>
                                    go_wp2_with fail
                                    all_goals (
                                      go_roundg (xs.length - (k + 1))
                                      case measure => omega
                                      case rel => exact ⟨k + 1, m - 1, _, _, (f', b', x'), by omega, by omega, rfl, by omega, by omega, (by intro hp; first | rfl | omega), hb, hv, hr, hn, HS.out, HO.out, by rw [← HL.out, HE.out]⟩)
    · have hk2 : k = xs.length := by omega
      have hm0 : m = 0 := by omega
      subst hm0
      obtain ⟨f', b', x'⟩ := s
      have HE : Hid ((f', b', x') = applyL (f, bk, x) xs) := by
        have := HL.out
        rw [hk2, List.drop_length] at this
        exact this
      have hv0 := hv
      go_wp2_with (first | (refine wpList_load_row rfl 26 (.tmp 2) rfl w.heap.size rfl _ _ _ _ hv0 Tryz.underlying26 rfl (by kernel_rfl) ?_) | (refine wpList_store_row rfl 26 (.tmp 4) _ rfl (w.heap.size + 1) #[.int .i64 f', .int .i64 b', .int .i64 x'] rfl rfl _ _ hr (by kernel_rfl) rfl (one3 _ _ _) ?_))
      (try simp only [Exit.inBlock, Exit.then])
      refine bodyPost_ret (v := stv (f', b', x')) ?_ rfl ⟨by rw [HE.out]; rfl, below_setRow hb (by omega) _⟩
      exact results_cell_row rfl _ _ (w.heap.size + 1) _ _ _ _ rfl (setRow_heap _ _ _ _ _ _ hr) Tryz.underlying26 rfl (by kernel_rfl)
end Stl
end Go.Proofs.YtnkeahfcpbepjaaGreatDoor

/- The reference's ApplyTo, of any list. -/
namespace Go.Proofs.YtnkeahfcpbepjaaGreatDoor
open Go.ChangeShapes Go.WideShapes Go.ChangeAt Go.RowKit
namespace Stl
set_option maxRecDepth 100000 in
set_option maxHeartbeats 1000000 in
theorem applyTo_any (f b x f' b' x' : Int) (v : Value) (xs : List Int) (w : World) (hI : IntsAt w v xs) (hlen : xs.length ≤ 140737488355328) (hw : ∀ x ∈ xs, -9223372036854775808 ≤ x ∧ x ≤ 9223372036854775807) (h : applyT (f, b, x) xs = (f', b', x')) :
    Calls Tryz.prog 28 #[.agg #[.int .i64 f, .int .i64 b, .int .i64 x], v] w fun e w' => e = .returned (.agg #[.int .i64 f', .int .i64 b', .int .i64 x']) ∧ Below w.heap.size w w' := by
  rcases hI with ⟨rfl, a, c, rfl⟩ | ⟨h0, bl, o, c, rfl, hc, hR⟩
  · have h' : (0, 0, 0) = (f', b', x') := h
    simp only [Prod.mk.injEq] at h'
    obtain ⟨rfl, rfl, rfl⟩ := h'
    clear hw hlen h
    go_enter Tryz.func28, Tryz.ntmps28
    go_wp2
    (try simp only [Exit.inBlock, Exit.then])
    refine bodyPost_ret (v := stv (0, 0, 0)) ?_ rfl ⟨rfl, (((Below.refl _ _).alloc (Nat.le_refl _) _).alloc (by simp) _).alloc (by simp; omega) _⟩
    exact results_cell_row rfl _ _ (w.heap.size + 1) _ _ _ _ rfl ((Below.heap_alloc _ _ _ (by simp)).trans (new2 w _ _ _)) Tryz.underlying26 rfl (by kernel_rfl)
  · have := applyTo_some (f, b, x) bl o c xs w hR h0 hlen hc hw
    unfold applyT at h
    rw [if_neg h0] at h
    rw [h] at this
    exact this
end Stl
end Go.Proofs.YtnkeahfcpbepjaaGreatDoor

/- The desk's look: the law's closure. -/
namespace Go.Proofs.YtnkeahfcpbepjaaGreatDoor
open Go.ChangeShapes Go.WideShapes Go.ChangeAt Go.RowKit
namespace Put
open Grd (C)
section
set_option maxHeartbeats 4000000 in
theorem dlook_acts (B1 : Nat) (w : World) (s : Scr) (rows : List (List C)) (pl : Option Addr) (nl cl : Nat) (xs : List Int) (hB1 : w.cell? ⟨B1, 0, none⟩ = some (.slice pl nl cl)) (hI : Stl.IntsAt w (.slice pl nl cl) xs) (hlen : xs.length ≤ 140737488355328) (hw : ∀ x ∈ xs, -9223372036854775808 ≤ x ∧ x ≤ 9223372036854775807) :
    Acts 27 #[.pointer (some ⟨B1, 0, none⟩)] w s (lookS s xs) rows rows := by
  intro N W p hb hN hN2 hS
  have hlo := hS.lo
  have q1 := cell_stay hb hB1
  have HAP : Hid (∀ V, Below W.heap.size W V → Calls Tryz.prog 28 #[.agg #[.int .i64 s.sf, .int .i64 s.sb, .int .i64 s.sx], .slice pl nl cl] V fun e w' => e = .returned (.agg #[.int .i64 (Stl.applyT (s.sf, s.sb, s.sx) xs).1, .int .i64 (Stl.applyT (s.sf, s.sb, s.sx) xs).2.1, .int .i64 (Stl.applyT (s.sf, s.sb, s.sx) xs).2.2]) ∧ Below V.heap.size V w') := fun V h => by
    have hbv := hb.trans (h.mono hb.size)
    exact Stl.applyTo_any s.sf s.sb s.sx _ _ _ _ xs V (hI.below hbv) hlen hw rfl
  have HLS : Hid (lookS s xs = { s with sf := (Stl.applyT (s.sf, s.sb, s.sx) xs).1, sb := (Stl.applyT (s.sf, s.sb, s.sx) xs).2.1, sx := (Stl.applyT (s.sf, s.sb, s.sx) xs).2.2 }) := rfl
  generalize lookS s xs = s' at *
  generalize (Stl.applyT (s.sf, s.sb, s.sx) xs).1 = a1 at *
  generalize (Stl.applyT (s.sf, s.sb, s.sx) xs).2.1 = a2 at *
  generalize (Stl.applyT (s.sf, s.sb, s.sx) xs).2.2 = a3 at *
  have HS : Hid (DkAt W N p s rows) := hS
  have SK : Hid (∀ V, Below W.heap.size W V → V.cell? ⟨B1, 0, none⟩ = some (.slice pl nl cl) ∧ V.cell? ⟨p, 6, none⟩ = some (.int .i64 s.sf) ∧ V.cell? ⟨p, 7, none⟩ = some (.int .i64 s.sb) ∧ V.cell? ⟨p, 8, none⟩ = some (.int .i64 s.sx) ∧ ∀ i, V.frozen? ⟨p, i, none⟩ = false) := fun V h => by
    obtain ⟨cv, tv, gv, rv, hblk⟩ := (DkAt.next HS.out h).block
    obtain ⟨⟨-, -, -, -, -, -, c6, c7, c8, -⟩, -, fz⟩ := sh_cells hblk
    exact ⟨cell_stay h q1, c6, c7, c8, fz⟩
  have HF : Hid (∀ V, Below W.heap.size W V → DkAt (V.setCells p 6 [.int .i64 a1, .int .i64 a2, .int .i64 a3]) N p s' rows ∧ Below N W (V.setCells p 6 [.int .i64 a1, .int .i64 a2, .int .i64 a3])) := fun V h => by
    rw [HLS.out]
    exact ⟨(DkAt.next HS.out h).look a1 a2 a3, below_cells (h.mono hN2) hlo _ _⟩
  have b0 : Below W.heap.size W W.drew := (Below.refl _ _).drew
  obtain ⟨u1, u2, u3, u4, u5⟩ := SK.out _ (Below.refl _ _)
  clear hS hB1 hI hlen hw u5 q1
  show Calls _ _ #[.pointer (some ⟨p, 0, none⟩), .pointer (some ⟨B1, 0, none⟩)] _ _
  go_enter Tryz.func27, Tryz.ntmps27
  go_upto_region 0 with fail
  go_region_with (first | (go_at_call 28; refine (HAP.out _ b0).mono ?_; rintro e V ⟨rfl, bV⟩; have k1 : Below W.heap.size W V := b0.trans (bV.mono b0.size); obtain ⟨v1, v2, v3, v4, v5⟩ := SK.out _ k1; have f6 := v5 6; have f7 := v5 7; have f8 := v5 8; clear v1 v5))
  all_goals go_end0
  all_goals exact ⟨rfl, HF.out _ k1⟩
end
end Put
end Go.Proofs.YtnkeahfcpbepjaaGreatDoor

/- What is clean stays so: the runes of a clean text. -/
namespace Go.Proofs.YtnkeahfcpbepjaaGreatDoor
namespace Txt
/-- The runes that take a cell, each with how many bytes it takes when it is written anew. -/
def anew : List (Int × Nat) → List (Int × Nat)
  | [] => []
  | x :: t => if 0 < wd x.1 then (x.1, (Lib.encodeRune x.1).length) :: anew t else anew t
theorem rn_clean : ∀ L : List (Int × Nat), (∀ x ∈ L, okRune x.1) → rn (cleanL L) = anew L
  | [], _ => rfl
  | x :: t, h => by
    have ht := rn_clean t (fun y hy => h y (by simp [hy]))
    unfold cleanL anew
    split
    · rw [rn_encode x.1 (h x (by simp)), ht]
    · simpa using ht
theorem clean_anew : ∀ L : List (Int × Nat), cleanL (anew L) = cleanL L
  | [] => rfl
  | x :: t => by
    unfold anew
    split
    · rename_i h; simp [cleanL, h, clean_anew t]
    · rename_i h; simp [cleanL, h, clean_anew t]
theorem wide_anew : ∀ L : List (Int × Nat), wideL (anew L) = wideL L
  | [] => rfl
  | x :: t => by
    have := wd_range x.1
    unfold anew
    split
    · simp [wideL, wide_anew t]
    · simp only [wideL, wide_anew t]; omega
theorem anew_length : ∀ L : List (Int × Nat), (anew L).length ≤ L.length
  | [] => by simp [anew]
  | x :: t => by
    have := anew_length t
    unfold anew
    split
    · simp; omega
    · simp; omega
theorem clean_length : ∀ L : List (Int × Nat), (cleanL L).length ≤ 4 * L.length
  | [] => by simp [cleanL]
  | x :: t => by
    have := clean_length t
    have := encodeRune_length x.1
    unfold cleanL
    split
    · simp; omega
    · simp; omega
end Txt
end Go.Proofs.YtnkeahfcpbepjaaGreatDoor

/- Clean texts, and what is cut of them. (Cut out of PutStandM.) -/
namespace Go.Proofs.YtnkeahfcpbepjaaGreatDoor
namespace Txt
/-- Runes as bytes. -/
def enc (l : List (Int × Nat)) : List UInt8 := l.flatMap fun x => Lib.encodeRune x.1
theorem clean_enc : ∀ L : List (Int × Nat), cleanL L = enc (anew L)
  | [] => rfl
  | x :: t => by
    have ih := clean_enc t
    unfold cleanL anew
    split
    · rw [ih]
      rfl
    · rw [ih]
      rfl
theorem anew_ok : ∀ (L : List (Int × Nat)), (∀ x ∈ L, okRune x.1) → ∀ x ∈ anew L, okRune x.1 ∧ 0 < wd x.1 ∧ x.2 = (Lib.encodeRune x.1).length
  | [], _ => by simp [anew]
  | x :: t, h => by
    have ih := anew_ok t (fun y hy => h y (by simp [hy]))
    intro y hy
    unfold anew at hy
    split at hy
    · rename_i h0
      rcases List.mem_cons.1 hy with e | e
      · subst e
        exact ⟨h x (by simp), h0, rfl⟩
      · exact ih y e
    · exact ih y hy
theorem enc_cut (n : Int) : ∀ (L : List (Int × Nat)) (w : Int), (∀ x ∈ L, x.2 = (Lib.encodeRune x.1).length) → (enc L).take (cutL n L w) = enc (keepL n L w)
  | [], _, _ => rfl
  | x :: t, w, h => by
    have ih := enc_cut n t (w + wd x.1) (fun y hy => h y (by simp [hy]))
    have hx := h x (by simp)
    unfold cutL keepL
    split
    · rfl
    · show (Lib.encodeRune x.1 ++ enc t).take (x.2 + cutL n t (w + wd x.1)) = Lib.encodeRune x.1 ++ enc (keepL n t (w + wd x.1))
      rw [hx, List.take_length_add_append, ih]
theorem keep_mem (n : Int) (L : List (Int × Nat)) (w : Int) (x : Int × Nat) (h : x ∈ keepL n L w) : x ∈ L := by
  rw [← keep_left n L w]
  exact List.mem_append_left _ h
/-- A text that was cleaned and cut: its runes. -/
theorem cut_clean (t : ByteArray) (n : Nat) : ∃ l : List (Int × Nat), cutS (bs (cleanL (runes t))) n = enc l ∧ rn (cutS (bs (cleanL (runes t))) n) = l ∧ (∀ x ∈ l, okRune x.1 ∧ 0 < wd x.1) ∧ wideL l ≤ n := by
  have hok : ∀ x ∈ runes t, okRune x.1 := by
    intro x hx
    rw [runes_rn] at hx
    exact rl_ok _ _ x hx
  have hA := anew_ok (runes t) hok
  have hR : runes (bs (cleanL (runes t))) = anew (runes t) := by rw [runes_rn, bs_data]; exact rn_clean _ hok
  have hcut : cutS (bs (cleanL (runes t))) n = enc (keepL n (anew (runes t)) 0) := by
    unfold cutS
    rw [bs_data, hR, clean_enc, enc_cut _ _ _ (fun x hx => (hA x hx).2.2)]
  refine ⟨keepL n (anew (runes t)) 0, hcut, ?_, fun x hx => ?_, ?_⟩
  · unfold cutS
    rw [bs_data, hR]
    have hr : rn (cleanL (runes t)) = anew (runes t) := rn_clean _ hok
    rw [← hr]
    exact (cut_runes n (cleanL (runes t)) 0).1
  · have h := hA x (keep_mem _ _ _ _ hx)
    exact ⟨h.1, h.2.1⟩
  · have h := keep_wide n (anew (runes t)) 0 (by omega)
    omega
theorem wide_nn : ∀ l : List (Int × Nat), 0 ≤ wideL l
  | [] => by simp [wideL]
  | x :: t => by
    have := wide_nn t
    have := wd_range x.1
    simp only [wideL]
    omega
end Txt
end Go.Proofs.YtnkeahfcpbepjaaGreatDoor

/- A title: the first twenty runes of a clean text are one. No function is walked here. -/
namespace Go.Proofs.YtnkeahfcpbepjaaGreatDoor
namespace Txt
theorem runesBytes_from : ∀ (l : List Int) (a : List UInt8), l.foldl (fun r n => r ++ Utf8.encode n) (bs a) = bs (a ++ l.flatMap Lib.encodeRune)
  | [], a => by simp
  | x :: t, a => by
    have ih := runesBytes_from t (a ++ Lib.encodeRune x)
    show t.foldl (fun r n => r ++ Utf8.encode n) (bs a ++ Utf8.encode x) = _
    rw [encode_eq, bs_append, ih, List.flatMap_cons, List.append_assoc]
theorem runesBytes_enc (l : List Int) : runesBytes l = bs (l.flatMap Lib.encodeRune) := by
  have h := runesBytes_from l []
  rw [List.nil_append] at h
  exact h
theorem rn_enc : ∀ l : List Int, (∀ x ∈ l, okRune x) → rn (l.flatMap Lib.encodeRune) = l.map fun x => (x, (Lib.encodeRune x).length)
  | [], _ => rfl
  | x :: t, h => by
    have ih := rn_enc t (fun y hy => h y (by simp [hy]))
    rw [List.flatMap_cons, rn_encode x (h x (by simp)), ih]
    rfl
theorem clean_wide : ∀ l : List Int, (∀ x ∈ l, 0 < wd x) → cleanL (l.map fun x => (x, (Lib.encodeRune x).length)) = l.flatMap Lib.encodeRune
  | [], _ => rfl
  | x :: t, h => by
    have ih := clean_wide t (fun y hy => h y (by simp [hy]))
    have hx := h x (by simp)
    rw [List.map_cons, List.flatMap_cons]
    show (if 0 < wd x then Lib.encodeRune x else []) ++ _ = _
    rw [if_pos hx, ih]
theorem count_rsT (s : ByteArray) : ∀ f pos : Nat, Lib.runeCountFrom s f pos = (rs s f pos).length
  | 0, _ => rfl
  | f + 1, pos => by
    unfold Lib.runeCountFrom rs
    split
    · rw [count_rsT s f]
      simp [Nat.add_comm]
    · rfl
theorem count_runesT (s : ByteArray) : Lib.runeCount s = (runes s).length := count_rsT s _ _
end Txt
namespace Put
open Grd (C)
def zsOf (t : ByteArray) : List Int := (Txt.runes t).map (·.1)
/-- A text's first twenty runes. -/
def cut20 (t : ByteArray) : ByteArray := runesBytes ((zsOf t).take (min (zsOf t).length 20))
/-- A title of a text. -/
def titleOf (t : ByteArray) : ByteArray := cut20 (Txt.bs (Txt.cleanL (Txt.runes t)))
def nameS (s : Scr) (t : ByteArray) : Scr := { s with title := titleOf t }
theorem title_ok (t : ByteArray) : titleOk (titleOf t) = true := by
  have hok : ∀ x ∈ Txt.runes t, Txt.okRune x.1 := by
    intro x hx
    rw [Txt.runes_rn] at hx
    exact Txt.rl_ok _ _ x hx
  have hA := Txt.anew_ok (Txt.runes t) hok
  have hR : Txt.runes (Txt.bs (Txt.cleanL (Txt.runes t))) = Txt.anew (Txt.runes t) := by rw [Txt.runes_rn, Txt.bs_data]; exact Txt.rn_clean _ hok
  obtain ⟨l, hl⟩ : ∃ l, l = (zsOf (Txt.bs (Txt.cleanL (Txt.runes t)))).take (min (zsOf (Txt.bs (Txt.cleanL (Txt.runes t)))).length 20) := ⟨_, rfl⟩
  have hm : ∀ x ∈ l, Txt.okRune x ∧ 0 < Txt.wd x := fun x hx => by
    rw [hl] at hx
    have h1 := List.mem_of_mem_take hx
    unfold zsOf at h1
    rw [hR] at h1
    obtain ⟨y, hy, e⟩ := List.mem_map.1 h1
    have h2 := hA y hy
    rw [← e]
    exact ⟨h2.1, h2.2.1⟩
  have hlen : l.length ≤ 20 := by rw [hl, List.length_take]; omega
  have ht : titleOf t = Txt.bs (l.flatMap Lib.encodeRune) := by
    unfold titleOf cut20
    rw [← hl, Txt.runesBytes_enc]
  have hrn : Txt.runes (titleOf t) = l.map fun x => (x, (Lib.encodeRune x).length) := by rw [ht, Txt.runes_rn, Txt.bs_data, Txt.rn_enc l fun x hx => (hm x hx).1]
  unfold titleOk
  rw [hrn, Txt.clean_wide l fun x hx => (hm x hx).2, ← ht, Txt.count_runesT, hrn, List.length_map]
  simp [hlen]
theorem name_right {s : Scr} {n hh : Nat} (h : RightS s n hh) (t : ByteArray) : RightS (nameS s t) n hh :=
  ⟨h.w, h.h, h.n1, h.n2, h.h1, h.h2, h.cl, h.gz, h.x0, h.x1, h.y0, h.y1, h.kx0, h.kx1, h.ky0, h.ky1, h.t0, h.t1, h.t2, h.t3, h.late, h.looks, h.tl, h.la, title_ok t, h.gl, h.gr⟩
end Put
end Go.Proofs.YtnkeahfcpbepjaaGreatDoor

/- Package mode: the closure of Name; a title. (Written by gen_modename.py.) -/
namespace Go.Proofs.YtnkeahfcpbepjaaGreatDoor
open Go.ChangeShapes Go.WideShapes Go.ChangeAt Go.RowKit
theorem Txt.clean_length' : ∀ L : List (Int × Nat), (Txt.cleanL L).length ≤ 4 * L.length
  | [] => by simp [Txt.cleanL]
  | x :: t => by
    have h1 := Txt.clean_length' t
    have h2 := (Txt.encodeRune_length x.1).2
    unfold Txt.cleanL
    rw [List.length_append, List.length_cons]
    split
    · omega
    · simp
      omega
namespace Put
open Grd (C)
theorem runesFrom_rs (s : ByteArray) : ∀ (f i : Nat) (acc : Array Value), Conv.runesFrom s f i acc = acc ++ ((Txt.rs s f i).map (fun x => Value.int .i32 x.1)).toArray
  | 0, _, acc => by simp [Conv.runesFrom, Txt.rs]
  | f + 1, i, acc => by
    unfold Conv.runesFrom Txt.rs
    by_cases h : i < s.size
    · rw [if_pos h, if_pos h]
      simp only []
      rw [runesFrom_rs s f]
      simp
    · rw [if_neg h, if_neg h]
      simp
theorem runes_zs (t : ByteArray) : Conv.runesFrom t t.size 0 #[] = ((zsOf t).map (Value.int .i32)).toArray := by
  rw [runesFrom_rs]
  unfold zsOf Txt.runes
  simp
theorem rs_len (s : ByteArray) : ∀ (f i : Nat), (Txt.rs s f i).length ≤ f
  | 0, _ => by simp [Txt.rs]
  | f + 1, i => by
    unfold Txt.rs
    split
    · have := rs_len s f (i + (Utf8.decode s i).2)
      simp
      exact this
    · simp
theorem zs_len (t : ByteArray) : (zsOf t).length ≤ t.size := by
  unfold zsOf Txt.runes
  rw [List.length_map]
  exact rs_len t _ _
/-- The world behind a text that became runes. -/
def runesV (W : World) (zs : List Int) : World := W.drew.alloc (.cells ((zs.map (Value.int .i32)).toArray ++ Array.replicate (grownCap W zs.length 0 21 - zs.length) (.int .i32 0)) 21)
theorem runesV_conv (t : ByteArray) (ht : t.size ≤ 70368744177664) (W : World) : (convert 9 52 (.string t)).run Tryz.prog W = .ok (.slice (some ⟨W.heap.size, 0, none⟩) (zsOf t).length (grownCap W (zsOf t).length 0 21)) (runesV W (zsOf t)) := by
  have hz := zs_len t
  have hs : (Conv.runesFrom t t.size 0 #[]).size = (zsOf t).length := by rw [runes_zs]; simp
  have h := run_runes_of_string (P := Tryz.prog) W 9 52 21 t (by kernel_rfl) (by kernel_rfl) (by kernel_rfl) (by omega)
  rw [h, hs, runes_zs]
  rfl
theorem below_runesV (W : World) (zs : List Int) : Below W.heap.size W (runesV W zs) := ((Below.refl _ W).drew).alloc (Nat.le_refl _) _
theorem runesV_cell (W : World) (zs : List Int) (j : Nat) (hj : j < zs.length) : (runesV W zs).cell? ((⟨W.heap.size, 0, none⟩ : Addr).add j) = some (.int .i32 (zs.getD j 0)) := by
  have h := heap_alloc_new W.drew (.cells ((zs.map (Value.int .i32)).toArray ++ Array.replicate (grownCap W zs.length 0 21 - zs.length) (.int .i32 0)) 21)
  have h2 : (runesV W zs).heap[W.heap.size]? = some (.cells ((zs.map (Value.int .i32)).toArray ++ Array.replicate (grownCap W zs.length 0 21 - zs.length) (.int .i32 0)) 21 (0, 0)) := h
  rw [Addr.add_mid, Nat.zero_add]
  unfold World.cell?
  rw [h2]
  have hl : j < (zs.map (Value.int .i32)).toArray.size := by simpa using hj
  simp only []
  rw [Array.getElem?_append_left hl]
  simp [List.getD, hj]
theorem back_conv (W : World) (zs : List Int) (k cap : Nat) (hk : k ≤ zs.length) : (convert 52 9 (.slice (some ⟨W.heap.size, 0, none⟩) k cap)).run Tryz.prog (runesV W zs) = .ok (.string (runesBytes (zs.take k))) (runesV W zs) :=
  run_convert_runes (P := Tryz.prog) (runesV W zs) 52 9 21 ⟨W.heap.size, 0, none⟩ k cap zs hk (by kernel_rfl) (by kernel_rfl) (by kernel_rfl) (runesV_cell W zs)
theorem grown_ge (W : World) (zs : List Int) : zs.length ≤ grownCap W zs.length 0 21 := grownCap_ge W zs.length 0 21
set_option maxHeartbeats 4000000 in
theorem name_does (B1 M : Nat) (w : World) (s : Scr) (rows : List (List C)) (t : ByteArray) (hB1 : w.cell? ⟨B1, 0, none⟩ = some (.string t)) (hT : Txt.Tab w) (ht : t.size ≤ 1048576) :
    Does 60 #[.pointer (some ⟨B1, 0, none⟩)] M w s (nameS s t) rows rows := by
  intro W p hb hS
  have hlo := hS.lo
  have q1 := cell_stay hb hB1
  obtain ⟨u, hu⟩ : ∃ u, u = Txt.bs (Txt.cleanL (Txt.runes t)) := ⟨_, rfl⟩
  have hus : u.size ≤ 70368744177664 := by
    have h1 := Txt.clean_length' (Txt.runes t)
    have h2 := rs_len t t.size 0
    rw [hu, Txt.bs_size]
    unfold Txt.runes at h1 ⊢
    omega
  have HCL : Hid (∀ V, Below W.heap.size W V → Calls Tryz.prog 61 #[.string t] V fun e w' => e = .returned (.string u) ∧ Below V.heap.size V w') := fun V h => by
    rw [hu]
    exact Txt.clean_any t V (Grd.Tab.next hT (hb.trans (h.mono hb.size))) (by omega)
  have HNS : Hid (nameS s t = { s with title := cut20 u }) := by unfold Hid nameS titleOf; rw [hu]
  generalize nameS s t = s' at *
  have HCT : Hid (cut20 u = runesBytes ((zsOf u).take (min (zsOf u).length 20))) := rfl
  have HS : Hid (ShAt 64 W M w.heap.size p s rows) := hS
  have SK : Hid (∀ V, Below W.heap.size W V → V.cell? ⟨p, 20, none⟩ = some (.string s.title) ∧ V.frozen? ⟨p, 20, none⟩ = false) := fun V h => by
    obtain ⟨cv, tv, gv, rv, hblk⟩ := (ShAt.next HS.out h).block
    obtain ⟨-, ⟨-, -, -, -, -, -, -, -, -, c20, -⟩, fz⟩ := sh_cells hblk
    exact ⟨c20, fz 20⟩
  have HF : Hid (∀ V, Below W.heap.size W V → ShAt 64 (V.setCell ⟨p, 20, none⟩ (.string (runesBytes ((zsOf u).take (min (zsOf u).length 20))))) M w.heap.size p s' rows ∧ Below w.heap.size W (V.setCell ⟨p, 20, none⟩ (.string (runesBytes ((zsOf u).take (min (zsOf u).length 20)))))) := fun V h => by
    rw [HNS.out, HCT.out]
    exact ⟨ShAt.set sheet_is (ShAt.next HS.out h) 20 _ (fun _ _ _ _ => rfl) rfl rfl, (h.mono hb.size).setCell hlo _⟩
  have HCV : Hid (∀ V : World, (convert 9 52 (.string u)).run Tryz.prog V = .ok (.slice (some ⟨V.heap.size, 0, none⟩) (zsOf u).length (grownCap V (zsOf u).length 0 21)) (runesV V (zsOf u))) := runesV_conv u hus
  have HBC : Hid (∀ V cap, (convert 52 9 (.slice (some ⟨V.heap.size, 0, none⟩) (min (zsOf u).length 20) cap)).run Tryz.prog (runesV V (zsOf u)) = .ok (.string (runesBytes ((zsOf u).take (min (zsOf u).length 20)))) (runesV V (zsOf u))) := fun V cap => back_conv V _ _ cap (Nat.min_le_left _ _)
  have HGE : Hid (∀ V, (zsOf u).length ≤ grownCap V (zsOf u).length 0 21) := fun V => grown_ge V (zsOf u)
  have hm2 := Grd.min2 ((zsOf u).length : Int) 20
  have hmk : min ((zsOf u).length : Int) 20 = ((min (zsOf u).length 20 : Nat) : Int) := by omega
  have hkl := Nat.min_le_left (zsOf u).length 20
  rw [hmk] at hm2
  clear hmk
  generalize runesBytes ((zsOf u).take (min (zsOf u).length 20)) = res at *
  generalize min (zsOf u).length 20 = k at *
  generalize zsOf u = zs at *
  have HRB : Hid (∀ V, Below V.heap.size V (runesV V zs)) := fun V => below_runesV V zs
  clear hS hB1 ht hu hus HCT HNS
  show Calls _ _ #[.pointer (some ⟨p, 0, none⟩), .pointer (some ⟨B1, 0, none⟩)] _ _
  go_enter Tryz.func60, Tryz.ntmps60
  go_wp2_with fail
  refine (HCL.out _ (Below.refl _ _)).mono ?_
  rintro e V ⟨rfl, bV⟩
  have cv := HCV.out V
  have cb := HBC.out V
  have hge := HGE.out V
  generalize grownCap V zs.length 0 21 = cap at *
  have kR : Below W.heap.size W (runesV V zs) := bV.trans ((HRB.out V).mono bV.size)
  obtain ⟨c20, f20⟩ := SK.out _ kR
  have HFI : Hid _ := HF.out _ kR
  have hkc : (k : Int) ≤ (cap : Int) := by omega
  have cb' := cb cap
  clear HCL HCV HBC HGE SK HF bV q1 hge kR HRB cb
  generalize runesV V zs = R at *
  go_wp2_with fail
  go_end0
  exact ⟨rfl, HFI.out⟩
end Put
end Go.Proofs.YtnkeahfcpbepjaaGreatDoor

/- A title: the law's closure. (Written by gen_modename.py.) -/
namespace Go.Proofs.YtnkeahfcpbepjaaGreatDoor
open Go.ChangeShapes Go.WideShapes Go.ChangeAt Go.RowKit
namespace Put
open Grd (C)
set_option maxHeartbeats 4000000 in
theorem dname_acts (B1 : Nat) (w : World) (s : Scr) (rows : List (List C)) (t : ByteArray) (hB1 : w.cell? ⟨B1, 0, none⟩ = some (.string t)) (ht : t.size ≤ 1048576) :
    Acts 29 #[.pointer (some ⟨B1, 0, none⟩)] w s (nameS s t) rows rows := by
  intro N W p hb hN hN2 hS
  have hlo := hS.lo
  have q1 := cell_stay hb hB1
  obtain ⟨u, hu⟩ : ∃ u, u = Txt.bs (Txt.cleanL (Txt.runes t)) := ⟨_, rfl⟩
  have hus : u.size ≤ 70368744177664 := by
    have h1 := Txt.clean_length' (Txt.runes t)
    have h2 := rs_len t t.size 0
    rw [hu, Txt.bs_size]
    unfold Txt.runes at h1 ⊢
    omega
  have HCL : Hid (∀ V, Below W.heap.size W V → Calls Tryz.prog 30 #[.string t] V fun e w' => e = .returned (.string u) ∧ Below V.heap.size V w') := fun V h => by
    rw [hu]
    exact Txt.cleanOf_any t V (by omega)
  have HNS : Hid (nameS s t = { s with title := cut20 u }) := by unfold Hid nameS titleOf; rw [hu]
  generalize nameS s t = s' at *
  have HCT : Hid (cut20 u = runesBytes ((zsOf u).take (min (zsOf u).length 20))) := rfl
  have HS : Hid (DkAt W N p s rows) := hS
  have SK : Hid (∀ V, Below W.heap.size W V → V.cell? ⟨p, 20, none⟩ = some (.string s.title) ∧ V.frozen? ⟨p, 20, none⟩ = false) := fun V h => by
    obtain ⟨cv, tv, gv, rv, hblk⟩ := (DkAt.next HS.out h).block
    obtain ⟨-, ⟨-, -, -, -, -, -, -, -, -, c20, -⟩, fz⟩ := sh_cells hblk
    exact ⟨c20, fz 20⟩
  have HF : Hid (∀ V, Below W.heap.size W V → DkAt (V.setCell ⟨p, 20, none⟩ (.string (runesBytes ((zsOf u).take (min (zsOf u).length 20))))) N p s' rows ∧ Below N W (V.setCell ⟨p, 20, none⟩ (.string (runesBytes ((zsOf u).take (min (zsOf u).length 20)))))) := fun V h => by
    rw [HNS.out, HCT.out]
    exact ⟨DkAt.set (DkAt.next HS.out h) 20 _ (fun _ _ _ _ => rfl) rfl rfl, (h.mono hN2).setCell hlo _⟩
  have HCV : Hid (∀ V : World, (convert 9 52 (.string u)).run Tryz.prog V = .ok (.slice (some ⟨V.heap.size, 0, none⟩) (zsOf u).length (grownCap V (zsOf u).length 0 21)) (runesV V (zsOf u))) := runesV_conv u hus
  have HBC : Hid (∀ V cap, (convert 52 9 (.slice (some ⟨V.heap.size, 0, none⟩) (min (zsOf u).length 20) cap)).run Tryz.prog (runesV V (zsOf u)) = .ok (.string (runesBytes ((zsOf u).take (min (zsOf u).length 20)))) (runesV V (zsOf u))) := fun V cap => back_conv V _ _ cap (Nat.min_le_left _ _)
  have HGE : Hid (∀ V, (zsOf u).length ≤ grownCap V (zsOf u).length 0 21) := fun V => grown_ge V (zsOf u)
  have hm2 := Grd.min2 ((zsOf u).length : Int) 20
  have hmk : min ((zsOf u).length : Int) 20 = ((min (zsOf u).length 20 : Nat) : Int) := by omega
  have hkl := Nat.min_le_left (zsOf u).length 20
  rw [hmk] at hm2
  clear hmk
  generalize runesBytes ((zsOf u).take (min (zsOf u).length 20)) = res at *
  generalize min (zsOf u).length 20 = k at *
  generalize zsOf u = zs at *
  have HRB : Hid (∀ V, Below V.heap.size V (runesV V zs)) := fun V => below_runesV V zs
  clear hS hB1 ht hu hus HCT HNS
  show Calls _ _ #[.pointer (some ⟨p, 0, none⟩), .pointer (some ⟨B1, 0, none⟩)] _ _
  go_enter Tryz.func29, Tryz.ntmps29
  go_wp2_with fail
  refine (HCL.out _ (Below.refl _ _)).mono ?_
  rintro e V ⟨rfl, bV⟩
  have cv := HCV.out V
  have cb := HBC.out V
  have hge := HGE.out V
  generalize grownCap V zs.length 0 21 = cap at *
  have kR : Below W.heap.size W (runesV V zs) := bV.trans ((HRB.out V).mono bV.size)
  obtain ⟨c20, f20⟩ := SK.out _ kR
  have HFI : Hid _ := HF.out _ kR
  have hkc : (k : Int) ≤ (cap : Int) := by omega
  have cb' := cb cap
  clear HCL HCV HBC HGE SK HF bV q1 hge kR HRB cb
  generalize runesV V zs = R at *
  go_wp2_with fail
  go_end0
  exact ⟨rfl, HFI.out⟩
end Put
end Go.Proofs.YtnkeahfcpbepjaaGreatDoor

/- slices.Delete of one row. -/
namespace Go.Proofs.YtnkeahfcpbepjaaGreatDoor
open Go.ChangeShapes Go.WideShapes Go.ChangeAt Go.RowKit
namespace Put
open Grd (C nilV)
def delRen : Go.Shelf.Ren := ⟨fun | 45 => 145 | n => n, fun | 0 => 0 | 3 => 3 | 4 => 4 | 22 => 30 | 23 => 22 | n => n, fun | n => n⟩
theorem delLays : SlLaysE.n45 Tryz.prog delRen := {
  mixed := by kernel_rfl
  f45 := Exists.intro "slices.Delete[[][]trellis/api.Cell,[]trellis/api.Cell]" ⟨by kernel_rfl, Tryz.func145.trans (congrArg some (by kernel_rfl))⟩
  t0 := Tryz.underlying0
  a0 := Tryz.isAgg0
  z0 := Tryz.sizeOf0
  v0 := Tryz.zeroValue0
  t3 := Tryz.underlying3
  a3 := Tryz.isAgg3
  z3 := Tryz.sizeOf3
  v3 := Tryz.zeroValue3
  t4 := Tryz.underlying4
  a4 := Tryz.isAgg4
  z4 := Tryz.sizeOf4
  v4 := Tryz.zeroValue4
  t22 := Tryz.underlying30
  a22 := Tryz.isAgg30
  z22 := Tryz.sizeOf30
  v22 := Tryz.zeroValue30
  a23 := Tryz.isAgg22
  z23 := Tryz.sizeOf22 }
/-- A slice's words. -/
abbrev Sl := Option Addr × Nat × Nat
def encS (x : Sl) : Value := .slice x.1 x.2.1 x.2.2
theorem encS_one : OneCell encS := fun _ => rfl
def IsSl (v : Value) : Prop := ∃ x : Sl, v = encS x
theorem sls_of : ∀ (vs : List Value), (∀ v, v ∈ vs → IsSl v) → ∃ zs : List Sl, vs = zs.map encS
  | [], _ => ⟨[], rfl⟩
  | v :: vs, h => by
    obtain ⟨x, hx⟩ := h v (by simp)
    obtain ⟨zs, hz⟩ := sls_of vs fun u hu => h u (by simp [hu])
    exact ⟨x :: zs, by rw [hx, hz]; rfl⟩
theorem info_rows1 : (Tryz.prog.info? 22).map (·.size) = some 1 := by kernel_rfl
theorem putRow_other {w : World} {g q k : Nat} {d : Array Sl} (h : k ≠ g) : (Sort.putRow encS (Sort.ahead w q) g 0 d).heap[k]? = w.heap[k]? := by
  simp [Sort.putRow, Sort.mapBlock, Sort.ahead, Array.getElem?_modify, Ne.symm h]
/-- One row goes. -/
theorem delete_own (N g n cap i : Nat) (vs : List Value) (w : World) (h : w.ownsRow N 22 1 (.slice (some ⟨g, 0, none⟩) n cap) n vs) (hv : ∀ v, v ∈ vs → IsSl v) (hi : i < n) :
    Calls Tryz.prog 145 #[.slice (some ⟨g, 0, none⟩) n cap, .int .i64 (i : Int), .int .i64 ((i + 1 : Nat) : Int)] w fun e w' => e = .returned (.slice (some ⟨g, 0, none⟩) (n - 1) cap) ∧ w'.ownsRow N 22 1 (.slice (some ⟨g, 0, none⟩) (n - 1) cap) (n - 1) (vs.eraseIdx i) ∧ (∀ k, k ≠ g → w'.heap[k]? = w.heap[k]?) ∧ Below g w w' := by
  obtain ⟨zs, rfl⟩ := sls_of vs hv
  obtain ⟨g', cap', e0, -, -, h1, h2, hl, hH⟩ := Lib.holds_of_ownsRow h (by intro e; cases e)
  injection e0 with e1 _ e3
  injection e1 with e1
  injection e1 with e1
  subst e1 e3
  obtain ⟨i0, hi0, hz⟩ := Option.map_eq_some_iff.1 info_rows1
  have key := AnyE.slices_Delete delLays encS encS_one (none, 0, 0) Tryz.zeroValue22 i0 hi0 hz g 0 cap i (i + 1) zs.toArray w hH (by simpa [hl] using h1) (by unfold maxLen at h2; omega) (by omega) (by simp; omega)
  have hsz : zs.toArray.size = n := by simp [hl]
  rw [hsz, Nat.add_sub_cancel_left] at key
  refine Calls.mono key ?_
  rintro e w' ⟨rfl, q, rfl⟩
  refine ⟨rfl, ?_, fun k hk => putRow_other hk, Lib.below_putRow (Below.refl _ _) (Nat.le_refl _)⟩
  have hlen : (zs.take i ++ zs.drop (i + 1) ++ List.replicate 1 ((none, 0, 0) : Sl)).length = n := by simp; omega
  have := Lib.ownsRow_putRow (q := q) (k := n - 1) h hlen (by omega)
  have e : (zs.take i ++ zs.drop (i + 1) ++ List.replicate 1 ((none, 0, 0) : Sl)).take (n - 1) = zs.eraseIdx i := by
    rw [List.eraseIdx_eq_take_drop_succ, List.take_left' (by simp; omega)]
  rw [e] at this
  have e2 : (zs.map encS).eraseIdx i = (zs.eraseIdx i).map encS := by rw [List.eraseIdx_eq_take_drop_succ, List.eraseIdx_eq_take_drop_succ, List.map_append, List.map_take, List.map_drop]
  rw [e2]
  exact this
end Put
end Go.Proofs.YtnkeahfcpbepjaaGreatDoor
