/- The walk of the reference's MendRow. -/
import Derived.Test.YtinhmklpnkikgaaDoorGridRefMend
namespace Go.Proofs.YtinhmklpnkikgaaDoor
open Go.ChangeShapes Go.WideShapes Go.ChangeAt Go.RowKit
namespace Grd
open Txt (wd)
theorem widthOf_to (r : Int) (w : World) (v : Int) (h : wd r = v) : Calls Tryd.prog 19 #[.int .i32 r] w fun e w' => e = .returned (.int .i64 v) ∧ Below w.heap.size w w' := by
  have := Txt.widthOf_any r w
  rwa [h] at this
/-- A slice that reads as a row, alone in the block g. -/
def RowB (w : World) (g : Nat) (v : Value) (row : List C) : Prop := ∃ (cap : Nat) (rest : List Value), v = .slice (some ⟨g, 0, none⟩) row.length cap ∧ row.length ≤ cap ∧ cap ≤ 9223372036854775807 ∧ w.heap[g]? = some (.cells (flat row ++ rest).toArray 40 (0, 0))
theorem RowB.below {w w' : World} {g : Nat} {v : Value} {row : List C} (h : RowB w g v row) (hb : Below w.heap.size w w') : RowB w' g v row := by
  obtain ⟨cap, rest, hv, h1, h2, h3⟩ := h
  exact ⟨cap, rest, hv, h1, h2, carry h3 hb⟩
theorem RowB.cells {w : World} {g : Nat} {v : Value} {row : List C} (h : RowB w g v row) : CellsAt w g 0 row := by
  obtain ⟨cap, rest, _, _, _, h3⟩ := h
  exact cellsAt_flat h3
theorem RowB.own {w : World} {g base : Nat} {v : Value} {row : List C} (h : RowB w g v row) (hb : base ≤ g) : OwnG w base v row := by
  obtain ⟨cap, rest, hv, h1, h2, h3⟩ := h
  exact ⟨g, cap, rest, ⟨_, rfl⟩, hv, hb, h1, h2, h3⟩
theorem rowB_of_row {w : World} {base : Nat} {v : Value} {cs : List C} (h : w.ownsRow base 40 4 v cs.length (flat cs)) (hn : v ≠ .slice none 0 0) : ∃ g, base ≤ g ∧ RowB w g v cs := by
  obtain ⟨_, h | ⟨g, cap, cur, hv, hg, hh, hc, hm, hs, htk⟩⟩ := h
  · exact absurd h.1 hn
  · refine ⟨g, hg, cap, cur.toList.drop (cs.length * 4), hv, hc, by unfold maxLen at hm; omega, ?_⟩
    rw [hh, ← htk, List.take_append_drop]
set_option maxHeartbeats 1000000 in
theorem clone_row (b o c : Nat) (cs : List C) (w : World) (hC : CellsAt w b o cs) (hbig : cs.length * 32 ≤ 140737488355328) :
    Calls Tryd.prog 39 #[.slice (some ⟨b, o, none⟩) cs.length c] w fun e w' => ∃ v' g, e = .returned v' ∧ w.heap.size ≤ g ∧ RowB w' g v' cs ∧ Below w.heap.size w w' := by
  obtain ⟨i0, hi, hzz⟩ := Option.map_eq_some_iff.1 info_cell
  simp only [Prod.mk.injEq] at hzz
  obtain ⟨hz0, hz1, hz2⟩ := hzz
  have kb : Below w.heap.size w (w.alloc (.cells #[] 40)) := (Below.refl _ _).alloc (Nat.le_refl _) _
  have HS : Hid (∀ j u, (flat cs)[j]? = some u → (w.alloc (.cells #[] 40)).cell? ((⟨b, o, none⟩ : Addr).add j) = some u) := cellsAt_src (hC.below kb)
  have HF : Hid ((flat cs).length = cs.length * 4) := flat_len cs
  have HO : Hid (∀ u ∈ flat cs, u.oneCell' = true) := flat_one cs
  have qn : ∀ (w : World) (a : Option Addr) (n c n' c' : Nat), (binOp .eql 22 (.slice a n c) (.slice none n' c')).run Tryd.prog w = .ok (.bool a.isNone) w := fun w a n c n' c' => Lib.run_eql_slice_nil w _ _ a n c n' c' und_cells
  clear hC
  go_enter Tryd.func39, Tryd.ntmps39
  go_wp2_with (at_builtin; refine wpList_append_own _ rfl _ _ 22 rfl w.heap.size 40 i0 (.agg #[.int .i32 0, .int .i64 0, .int .i64 0, .int .i64 0]) 4 32 und_cells hi hz0 hz1 hz2 rfl (by decide) _ _ _ rfl (World.ownsRow_made w #[] 0 (Nat.le_refl _) (Nat.zero_le _) rfl) ⟨b, o, none⟩ cs.length c (flat cs) rfl HF.out HS.out HO.out ?qc4 ?qc5 ?qc6 ?_)
  case qc4 => unfold maxLen; omega
  case qc5 => omega
  case qc6 => simp
  intro v' w1 hown hgrow hnil
  obtain ⟨g, hg, hrow⟩ := rowB_of_row (by simpa using hown) hnil
  go_wp2_with fail
  go_ret
  exact ⟨v', g, rfl, hg, hrow, ((Below.refl _ w).alloc (Nat.le_refl _) _).grown hgrow (by simp) (by intro k hk; simp [Value.ownBlock] at hk; omega)⟩
set_option maxHeartbeats 4000000 in
theorem mendRow_any (b o c : Nat) (cs : List C) (w : World) (hC : CellsAt w b o cs) (hn : cs.length ≤ 1000000) :
    Calls Tryd.prog 29 #[.slice (some ⟨b, o, none⟩) cs.length c] w fun e w' => ∃ v' g, e = .returned v' ∧ w.heap.size ≤ g ∧ RowB w' g v' (mendL cs) ∧ Below w.heap.size w w' := by
  have HC := clone_row b o c cs w hC (by omega)
  clear hC
  generalize hl : cs.length = L at *
  have HL : Hid (cs.length = L) := hl
  clear hl
  go_enter Tryd.func29, Tryd.ntmps29
  go_wp2_with (go_at_call 39; refine HC.mono ?_; rintro e W1 ⟨_, g, rfl, hg, ⟨cap, rest, rfl, hlc, hcm, hgh⟩, b1⟩)
  rw [HL.out] at hlc
  have hgW : g < W1.heap.size := blk_lt hgh
  have ap0 : Apart w.heap.size [g] w W1 := .of b1 (Nat.le_refl _)
  have hl0 : cs.length = L := HL.out
  simp only [hl0]
  clear hl0 HC
  go_loopg [4] L (fun q i wr => ∃ k : Nat, i = .int .i64 (k : Int) ∧ k ≤ L ∧ L - k ≤ q ∧ second cs k = false ∧ Apart w.heap.size [g] w wr ∧ wr.heap[g]? = some (.cells (flat (mendPre cs k) ++ rest).toArray 40 (0, 0)))
  case atStart => exact ⟨0, rfl, by omega, by omega, by simp [second], ap0, by rw [mendPre_zero]; exact hgh⟩
  case round =>
    clear hgh ap0 b1
    obtain ⟨k, rfl, hk, hq, hsec, hap, hv⟩ := hrel
    by_cases hlt : k < L
    · have lt1 : ((k : Int) < (L : Int)) := by omega
      have hpl : (mendPre cs k).length = L := by rw [mendPre_len cs k (by rw [HL.out]; omega), HL.out]
      have hC : CellsAt wr g 0 (mendPre cs k) := cellsAt_flat hv
      have c0 := (hC k (by rw [hpl]; exact hlt)).1
      rw [mendPre_at cs k k (by rw [HL.out]; omega) (Nat.le_refl _), Nat.zero_add] at c0
      have c1 : k + 1 < L → wr.cell? ⟨g, (k + 1) * 4, none⟩ = some (.int .i32 (cs.getD (k + 1) z0).1) := fun h => by
        have := (hC (k + 1) (by rw [hpl]; exact h)).1
        rwa [mendPre_at cs k (k + 1) (by rw [HL.out]; omega) (by omega), Nat.zero_add] at this
      have hNW : w.heap.size ≤ wr.heap.size := hap.1.size
      clear hC
      by_cases hw2 : wd (cs.getD k z0).1 = 2
      · by_cases hk1 : k + 1 < L
        · have c1 := c1 hk1
          by_cases hz : (cs.getD (k + 1) z0).1 = 0
          · have HE : Hid (mendPre cs (k + 2) = mendPre cs k) := by
              have l0 : loose cs k = false := by
                rw [loose_wide cs k hw2, hz, HL.out]
                simp
                omega
              have l1 : loose cs (k + 1) = false := by
                unfold loose
                rw [if_pos hz, Nat.add_sub_cancel]
                simp [hw2, -List.getD_eq_getElem?_getD]
              unfold Hid
              rw [mendPre_same cs (k + 1) (by rw [HL.out]; exact hk1) l1, mendPre_same cs k (by rw [HL.out]; exact hlt) l0]
            have HS2 : Hid (second cs (k + 2) = false) := by
              unfold Hid second
              rw [decide_eq_false_iff_not]
              rintro ⟨_, _, _, h2⟩
              rw [show k + 2 - 1 = k + 1 by omega, hz, wd0] at h2
              exact absurd h2 (by decide)
            have HW : Hid (wd (cs.getD k z0).1 = 2) := hw2
            have lt2 : ((k : Int) + 1 < (L : Int)) := by omega
            rw [hz] at c1
            clear hsec hw2 hz hpl
            generalize (cs.getD k z0).1 = r0 at *
            go_wp2_with (go_at_call 19; refine (widthOf_to r0 _ _ HW.out).mono ?_; rintro e W2 ⟨rfl, b2⟩; have d0 := cell_keep b2 c0; have d1 := cell_keep b2 c1; have hv2 := carry hv b2; have hfz : W2.frozen? ⟨g, k * 4, none⟩ = false := frozen_of hv2 _)
            go_roundg (L - (k + 2))
            case measure => omega
            case rel => exact ⟨k + 2, by first | rfl | (simp; omega), by omega, by omega, HS2.out, hap.step b2 hNW, by rw [HE.out]; exact hv2⟩
          · have hlo : loose cs k = true := by
              rw [loose_wide cs k hw2]
              simp [hz, -List.getD_eq_getElem?_getD]
            have HE : Hid (flat (mendPre cs (k + 1)) ++ rest = (flat (mendPre cs k) ++ rest).set (k * 4) (.int .i32 32)) := by
              unfold Hid
              rw [mendPre_set cs k (by rw [HL.out]; exact hlt) hlo, List.set_append_left _ _ (by rw [flat_len, hpl]; omega), flat_set _ k (by rw [hpl]; exact hlt)]
            have HS1 : Hid (second cs (k + 1) = false) := by
              unfold Hid second
              rw [decide_eq_false_iff_not]
              rintro ⟨_, _, h1, h2⟩
              rw [Nat.add_sub_cancel] at h2
              exact hz h1
            have HW : Hid (wd (cs.getD k z0).1 = 2) := hw2
            have lt2 : ((k : Int) + 1 < (L : Int)) := by omega
            have ne : ((cs.getD (k + 1) z0).1 == 0) = false := by simpa [-List.getD_eq_getElem?_getD] using hz
            clear hsec hw2 hz hpl hlo
            generalize (cs.getD k z0).1 = r0 at *
            generalize (cs.getD (k + 1) z0).1 = r1 at *
            go_wp2_with (go_at_call 19; refine (widthOf_to r0 _ _ HW.out).mono ?_; rintro e W2 ⟨rfl, b2⟩; have d0 := cell_keep b2 c0; have d1 := cell_keep b2 c1; have hv2 := carry hv b2; have hfz : W2.frozen? ⟨g, k * 4, none⟩ = false := frozen_of hv2 _)
            go_roundg (L - (k + 1))
            case measure => omega
            case rel =>
              refine ⟨k + 1, rfl, by omega, by omega, HS1.out, (hap.step b2 hNW).setCell g _ _ (by simp) hg, ?_⟩
              rw [HE.out]
              have := heap_setCell_same W2 g (k * 4) _ _ (.int .i32 32) hv2
              simpa using this
        · have hlo : loose cs k = true := by
            rw [loose_wide cs k hw2, HL.out]
            simp
            omega
          have HE : Hid (flat (mendPre cs (k + 1)) ++ rest = (flat (mendPre cs k) ++ rest).set (k * 4) (.int .i32 32)) := by
            unfold Hid
            rw [mendPre_set cs k (by rw [HL.out]; exact hlt) hlo, List.set_append_left _ _ (by rw [flat_len, hpl]; omega), flat_set _ k (by rw [hpl]; exact hlt)]
          have HS1 : Hid (second cs (k + 1) = false) := by
            unfold Hid second
            rw [decide_eq_false_iff_not]
            rintro ⟨_, h0, _⟩
            rw [HL.out] at h0
            omega
          have HW : Hid (wd (cs.getD k z0).1 = 2) := hw2
          have lt2 : ¬ ((k : Int) + 1 < (L : Int)) := by omega
          have ld2 : decide ((k : Int) + 1 < (L : Int)) = false := decide_eq_false lt2
          clear hsec hw2 hpl hlo c1
          generalize (cs.getD k z0).1 = r0 at *
          go_wp2_with (go_at_call 19; refine (widthOf_to r0 _ _ HW.out).mono ?_; rintro e W2 ⟨rfl, b2⟩; have d0 := cell_keep b2 c0; have hv2 := carry hv b2; have hfz : W2.frozen? ⟨g, k * 4, none⟩ = false := frozen_of hv2 _)
          go_roundg (L - (k + 1))
          case measure => omega
          case rel =>
            refine ⟨k + 1, rfl, by omega, by omega, HS1.out, (hap.step b2 hNW).setCell g _ _ (by simp) hg, ?_⟩
            rw [HE.out]
            have := heap_setCell_same W2 g (k * 4) _ _ (.int .i32 32) hv2
            simpa using this
      · by_cases hz : (cs.getD k z0).1 = 0
        · have hlo : loose cs k = true := loose_none cs k (by rw [HL.out]; exact hlt) hz hsec
          have HE : Hid (flat (mendPre cs (k + 1)) ++ rest = (flat (mendPre cs k) ++ rest).set (k * 4) (.int .i32 32)) := by
            unfold Hid
            rw [mendPre_set cs k (by rw [HL.out]; exact hlt) hlo, List.set_append_left _ _ (by rw [flat_len, hpl]; omega), flat_set _ k (by rw [hpl]; exact hlt)]
          have HS1 : Hid (second cs (k + 1) = false) := by
            unfold Hid second
            rw [decide_eq_false_iff_not]
            rintro ⟨_, _, h1, h2⟩
            rw [Nat.add_sub_cancel] at h2
            exact hw2 h2
          have HW : Hid (wd (cs.getD k z0).1 = 0) := by unfold Hid; rw [hz, wd0]
          rw [hz] at c0 HW
          clear hsec hw2 hz hpl hlo c1
          obtain ⟨r0, hr0⟩ : ∃ q : Int, q = 0 := ⟨0, rfl⟩
          rw [← hr0] at c0 HW
          subst hr0
          go_wp2_with (go_at_call 19; refine (widthOf_to 0 _ _ HW.out).mono ?_; rintro e W2 ⟨rfl, b2⟩; have d0 := cell_keep b2 c0; have hv2 := carry hv b2; have hfz : W2.frozen? ⟨g, k * 4, none⟩ = false := frozen_of hv2 _)
          go_roundg (L - (k + 1))
          case measure => omega
          case rel =>
            refine ⟨k + 1, rfl, by omega, by omega, HS1.out, (hap.step b2 hNW).setCell g _ _ (by simp) hg, ?_⟩
            rw [HE.out]
            have := heap_setCell_same W2 g (k * 4) _ _ (.int .i32 32) hv2
            simpa using this
        · have hlo : loose cs k = false := loose_narrow cs k hz hw2
          have HE : Hid (mendPre cs (k + 1) = mendPre cs k) := mendPre_same cs k (by rw [HL.out]; exact hlt) hlo
          have HS1 : Hid (second cs (k + 1) = false) := by
            unfold Hid second
            rw [decide_eq_false_iff_not]
            rintro ⟨_, _, h1, h2⟩
            rw [Nat.add_sub_cancel] at h2
            exact hw2 h2
          obtain ⟨wv, hwv⟩ : ∃ q, wd (cs.getD k z0).1 = q := ⟨_, rfl⟩
          have HW : Hid (wd (cs.getD k z0).1 = wv) := hwv
          have n2 : (wv == 2) = false := by rw [← hwv]; simpa [-List.getD_eq_getElem?_getD] using hw2
          have nz : ((cs.getD k z0).1 == 0) = false := by simpa [-List.getD_eq_getElem?_getD] using hz
          clear hsec hw2 hz hpl hlo c1 hwv
          generalize (cs.getD k z0).1 = r0 at *
          go_wp2_with (go_at_call 19; refine (widthOf_to r0 _ _ HW.out).mono ?_; rintro e W2 ⟨rfl, b2⟩; have d0 := cell_keep b2 c0; have hv2 := carry hv b2; have hfz : W2.frozen? ⟨g, k * 4, none⟩ = false := frozen_of hv2 _)
          go_roundg (L - (k + 1))
          case measure => omega
          case rel => exact ⟨k + 1, rfl, by omega, by omega, HS1.out, hap.step b2 hNW, by rw [HE.out]; exact hv2⟩
    · have lt1 : ¬ ((k : Int) < (L : Int)) := by omega
      have hml : (mendL cs).length = L := by rw [mendL_len, HL.out]
      rw [mendPre_all cs k (by rw [HL.out]; omega)] at hv
      go_wp2_with fail
      go_ret
      exact ⟨_, rfl, g, hg, ⟨cap, rest, by rw [hml]; rfl, by rw [hml]; exact hlc, hcm, hv⟩, hap.1⟩
end Grd
end Go.Proofs.YtinhmklpnkikgaaDoor
