/- halves.isParted and Mend of any row: the walks. -/
import Derived.Test.YtnkeahfcpbepjaaGreatDoorPartM
import Derived.Test.YtnkeahfcpbepjaaGreatDoorPartK
import Derived.Test.YtnkeahfcpbepjaaGreatDoorPartH
import Derived.Test.YtnkeahfcpbepjaaGreatDoorPartE
import Derived.Lib.RuneBytes
import Derived.Test.YtnkeahfcpbepjaaGreatDoorPartF
import Derived.Deep.RegionWith
import Derived.Deep.Cut
import Derived.Deep.CutRange
namespace Go.Proofs.YtnkeahfcpbepjaaGreatDoor
open Go.ChangeShapes Go.WideShapes Go.ChangeAt Go.RowKit
namespace Grd
open Txt (wd)
set_option maxHeartbeats 1000000 in
theorem parted_two (b o c : Nat) (cs : List C) (x : Nat) (r f bk xx f2 b2 x2 : Int) (w : World) (hT : Txt.Tab w) (hx : x + 1 < cs.length) (hn : cs.length ≤ 1000000)
    (h0 : w.cell? ⟨b, o + x * 4, none⟩ = some (.int .i32 r)) (h1 : w.cell? ⟨b, o + x * 4 + 1, none⟩ = some (.int .i64 f)) (h2 : w.cell? ⟨b, o + x * 4 + 2, none⟩ = some (.int .i64 bk)) (h3 : w.cell? ⟨b, o + x * 4 + 3, none⟩ = some (.int .i64 xx))
    (p1 : w.cell? ⟨b, o + (x + 1) * 4 + 1, none⟩ = some (.int .i64 f2)) (p2 : w.cell? ⟨b, o + (x + 1) * 4 + 2, none⟩ = some (.int .i64 b2)) (p3 : w.cell? ⟨b, o + (x + 1) * 4 + 3, none⟩ = some (.int .i64 x2)) (hw : wd r = 2) (d : Bool) (hd : d = decide ((f, bk, xx) ≠ (f2, b2, x2))) :
    Calls Tryz.prog 165 #[.slice (some ⟨b, o, none⟩) cs.length c, .int .i64 (x : Int)] w fun e w' => e = .returned (.bool d) ∧ Below w.heap.size w w' := by
  have HT : Hid (Txt.Tab w) := hT
  have hx0 : x < cs.length := by omega
  have hwr : IntKind.i64.wrap ((x : Int) + 1) = (x : Int) + 1 := by unfold IntKind.wrap; simp [IntKind.bits, IntKind.signed]; omega
  have hx1 : (0 : Int) ≤ (x : Int) + 1 := by omega
  have hx2 : (x : Int) + 1 < (cs.length : Int) := by omega
  have hx3 : ((x : Int) + 1).toNat = x + 1 := by omega
  have nq : ∀ w, (binOp .neq 26 (.agg #[.int .i64 f, .int .i64 bk, .int .i64 xx]) (.agg #[.int .i64 f2, .int .i64 b2, .int .i64 x2])).run Tryz.prog w = .ok (.bool d) w := fun w => by
    rw [Sty.neq_agg, hd]
    simp
  clear hd
  have y0 : ∀ d os, (Sort.grow (redrawn w d) os).cell? ⟨b, o + x * 4, none⟩ = some (.int .i32 r) := fun d os => cell_regrown h0 d os
  have y1 : ∀ d os, (Sort.grow (redrawn w d) os).cell? ⟨b, o + x * 4 + 1, none⟩ = some (.int .i64 f) := fun d os => cell_regrown h1 d os
  have y2 : ∀ d os, (Sort.grow (redrawn w d) os).cell? ⟨b, o + x * 4 + 2, none⟩ = some (.int .i64 bk) := fun d os => cell_regrown h2 d os
  have y3 : ∀ d os, (Sort.grow (redrawn w d) os).cell? ⟨b, o + x * 4 + 3, none⟩ = some (.int .i64 xx) := fun d os => cell_regrown h3 d os
  have u1 : ∀ d os, (Sort.grow (redrawn w d) os).cell? ⟨b, o + (x + 1) * 4 + 1, none⟩ = some (.int .i64 f2) := fun d os => cell_regrown p1 d os
  have u2 : ∀ d os, (Sort.grow (redrawn w d) os).cell? ⟨b, o + (x + 1) * 4 + 2, none⟩ = some (.int .i64 b2) := fun d os => cell_regrown p2 d os
  have u3 : ∀ d os, (Sort.grow (redrawn w d) os).cell? ⟨b, o + (x + 1) * 4 + 3, none⟩ = some (.int .i64 x2) := fun d os => cell_regrown p3 d os
  have K4 : Hid (∀ d os, Calls Tryz.prog 79 #[.int .i32 r] (Sort.grow (redrawn w d) os) fun e w'' => e = .returned (.int .i64 2) ∧ ∃ p : Regrown, w'' = Sort.grow (redrawn w p.d) p.os) := fun d os => Calls.regrown_of (width_to r _ (Tab.next HT.out (below_regrown w d os)) 2 hw)
  clear hT hw h0 h1 h2 h3 p1 p2 p3
  go_enter Tryz.func165, Tryz.ntmps165
  go_wp2_with fail
  refine wp_region_quiet_below (by kernel_rfl) (by kernel_rfl) ?_
  repeat (first | go_big_quiet_skip | quiet_step (first | (go_at_call 79; exact K4.out _ _)))
  refine wpQuiet_nil ?_
  intro _ hw'
  obtain ⟨⟨dq, os⟩, hw''⟩ := hw'
  subst hw''
  have k3 : Below w.heap.size w (Sort.grow (redrawn w dq) os) := below_regrown w dq os
  generalize Sort.grow (redrawn w dq) os = W3 at *
  go_wp2_with fail
  go_ret
  exact ⟨rfl, k3⟩
/-- What isParted says of a cell that isn't loose. -/
theorem parted_any (b o c : Nat) (cs : List C) (x : Nat) (w : World) (hT : Txt.Tab w) (hC : CellsAt w b o cs) (hx : x < cs.length) (hn : cs.length ≤ 1000000) (hl : loose cs x = false) :
    Calls Tryz.prog 165 #[.slice (some ⟨b, o, none⟩) cs.length c, .int .i64 (x : Int)] w fun e w' => e = .returned (.bool (partB cs x)) ∧ Below w.heap.size w w' := by
  obtain ⟨h0, h1, h2, h3⟩ := hC x hx
  by_cases hw : wd (cs.getD x z0).1 = 2
  · have hn0 : ¬ (cs.getD x z0).1 = 0 := by intro e; rw [e] at hw; exact absurd hw (by decide +kernel)
    unfold loose at hl
    rw [if_neg hn0] at hl
    simp only [hw, decide_true, Bool.true_and, Bool.or_eq_false_iff, decide_eq_false_iff_not, Decidable.not_not] at hl
    have hx1 : x + 1 < cs.length := by omega
    obtain ⟨-, p1, p2, p3⟩ := hC (x + 1) hx1
    refine parted_two b o c cs x _ _ _ _ _ _ _ w hT hx1 hn h0 h1 h2 h3 p1 p2 p3 hw _ ?_
    unfold partB
    rw [decide_eq_true hw, Bool.true_and, decide_eq_decide]
    exact ⟨fun h => h.2.2, fun h => ⟨hx1, hl.2, h⟩⟩
  · have e : partB cs x = false := by unfold partB; rw [decide_eq_false hw, Bool.false_and]
    rw [e]
    exact parted_thin b o c cs x _ w hT hx h0 hw
set_option maxHeartbeats 2000000 in
theorem mendG_any (g c : Nat) (cs : List C) (pre post : List Value) (t : TypeId) (w : World) (hh : w.heap[g]? = some (.cells (pre ++ (flat cs ++ post)).toArray t (0, 0))) (hn : cs.length ≤ 1000000) (hT : Txt.Tab w) (hg : 0 < g) :
    Calls Tryz.prog 147 #[.slice (some ⟨g, pre.length, none⟩) cs.length c] w fun e w' => e = .returned (.tuple #[]) ∧ w'.heap[g]? = some (.cells (pre ++ (flat (mendL (unpart cs)) ++ post)).toArray t (0, 0)) ∧ Apart g [g] w w' := by
  have HT : Hid (∀ W, Apart g [g] w W → Txt.Tab W) := fun W b => hT.below b.1 hg
  have HG : Hid (g < w.heap.size) := blk_lt hh
  clear hT hg
  generalize hl : cs.length = L at *
  have HL : Hid (cs.length = L) := hl
  clear hl
  generalize hp : pre.length = o at *
  have HP : Hid (pre.length = o) := hp
  clear hp
  go_enter Tryz.func147, Tryz.ntmps147
  go_wp2_with fail
  go_loopg [5] L (fun q i wr => ∃ k : Nat, i = .int .i64 (k : Int) ∧ k ≤ L ∧ L - k ≤ q ∧ Apart g [g] w wr ∧ wr.heap[g]? = some (.cells (pre ++ (flat (mendToG cs k) ++ post)).toArray t (0, 0)))
  case atStart => exact ⟨0, rfl, by omega, by omega, Apart.refl _ _ _, hh⟩
  case round =>
    obtain ⟨k, rfl, hk, hq, hb, hv⟩ := hrel
    clear hh
    have hlen : (mendToG cs k).length = L := by rw [mendToG_len, HL.out]
    by_cases hlt : k < L
    · have lt1 : ((k : Int) < (L : Int)) := by omega
      have hC : CellsAt wr g o (mendToG cs k) := by have := cellsAt_mid hv; rwa [HP.out] at this
      have hcell := (hC k (by rw [hlen]; exact hlt)).1
      have KL := isLoose_any g o c (mendToG cs k) k wr (HT.out wr hb) hC (by rw [hlen]; exact hlt) (by rw [hlen]; exact hn)
      rw [hlen] at KL
      cases hlo : loose (mendToG cs k) k with
      | false =>
        cases hpa : partB (mendToG cs k) k with
        | false =>
          rw [hlo] at KL
          have HK : Hid (Calls Tryz.prog 158 #[.slice (some ⟨g, o, none⟩) L c, .int .i64 (k : Int)] wr fun e w' => e = .returned (.bool false) ∧ Below wr.heap.size wr w') := KL
          have HKP : Hid (∀ W, Below wr.heap.size wr W → Calls Tryz.prog 165 #[.slice (some ⟨g, o, none⟩) L c, .int .i64 (k : Int)] W fun e w' => e = .returned (.bool false) ∧ Below W.heap.size W w') := fun W bW => by
            have := parted_any g o c (mendToG cs k) k W (Tab.next (HT.out wr hb) bW) (hC.below bW) (by rw [hlen]; exact hlt) (by rw [hlen]; exact hn) hlo
            rwa [hlen, hpa] at this
          have HE : Hid (mendToG cs (k + 1) = mendToG cs k) := by
            show mendStepG (mendToG cs k) k = _
            unfold mendStepG
            rw [hlo, hpa]
            rfl
          clear KL hlo hC hcell hlen
          go_wp2_with (first
            | (go_at_call 158; refine HK.out.mono ?_; rintro e W1 ⟨rfl, b1⟩)
            | (go_at_call 165; refine (HKP.out _ b1).mono ?_; rintro e W2 ⟨rfl, b2⟩; have b3 := b1.trans (b2.mono b1.size)))
          go_roundg (L - (k + 1))
          case measure => omega
          case rel => exact ⟨k + 1, rfl, by omega, by omega, hb.step b3 (Nat.le_of_lt (blk_lt hv)), by rw [HE.out]; exact carry hv b3⟩
        | true =>
          rw [hlo] at KL
          have HK : Hid (Calls Tryz.prog 158 #[.slice (some ⟨g, o, none⟩) L c, .int .i64 (k : Int)] wr fun e w' => e = .returned (.bool false) ∧ Below wr.heap.size wr w') := KL
          have HKP : Hid (∀ W, Below wr.heap.size wr W → Calls Tryz.prog 165 #[.slice (some ⟨g, o, none⟩) L c, .int .i64 (k : Int)] W fun e w' => e = .returned (.bool true) ∧ Below W.heap.size W w') := fun W bW => by
            have := parted_any g o c (mendToG cs k) k W (Tab.next (HT.out wr hb) bW) (hC.below bW) (by rw [hlen]; exact hlt) (by rw [hlen]; exact hn) hlo
            rwa [hlen, hpa] at this
          have HE : Hid (pre ++ (flat (mendToG cs (k + 1)) ++ post) = (pre ++ (flat (mendToG cs k) ++ post)).set (o + k * 4) (.int .i32 32)) := by
            have e : mendToG cs (k + 1) = setR (mendToG cs k) k := by
              show mendStepG (mendToG cs k) k = _
              unfold mendStepG
              rw [hlo, hpa]
              rfl
            unfold Hid
            rw [e, ← HP.out]
            exact (row_set pre post _ k (by rw [hlen]; exact hlt)).symm
          generalize ((mendToG cs k).getD k z0).1 = rr at hcell
          clear KL hlo hC hlen
          go_wp2_with (first
            | (go_at_call 158; refine HK.out.mono ?_; rintro e W0 ⟨rfl, b0⟩)
            | (go_at_call 165; refine (HKP.out _ b0).mono ?_; rintro e W1 ⟨rfl, b2⟩; have b1 := b0.trans (b2.mono b0.size); have hcell1 := cell_keep b1 hcell; have hv1 := carry hv b1; have hfz : W1.frozen? ⟨g, o + k * 4, none⟩ = false := frozen_of hv1 _))
          go_roundg (L - (k + 1))
          case measure => omega
          case rel =>
            refine ⟨k + 1, rfl, by omega, by omega, (hb.step b1 (Nat.le_of_lt (blk_lt hv))).setCell g _ _ (by simp) (Nat.le_refl _), ?_⟩
            rw [HE.out]
            have := heap_setCell_same W1 g (o + k * 4) _ t (.int .i32 32) hv1
            simpa using this
      | true =>
        rw [hlo] at KL
        have HK : Hid (Calls Tryz.prog 158 #[.slice (some ⟨g, o, none⟩) L c, .int .i64 (k : Int)] wr fun e w' => e = .returned (.bool true) ∧ Below wr.heap.size wr w') := KL
        have HE : Hid (pre ++ (flat (mendToG cs (k + 1)) ++ post) = (pre ++ (flat (mendToG cs k) ++ post)).set (o + k * 4) (.int .i32 32)) := by
          have e : mendToG cs (k + 1) = setR (mendToG cs k) k := by
            show mendStepG (mendToG cs k) k = _
            unfold mendStepG
            rw [hlo]
            rfl
          unfold Hid
          rw [e, ← HP.out]
          exact (row_set pre post _ k (by rw [hlen]; exact hlt)).symm
        generalize ((mendToG cs k).getD k z0).1 = rr at hcell
        clear KL hlo hC hlen
        go_wp2_with (first | (go_at_call 158; refine HK.out.mono ?_; rintro e W1 ⟨rfl, b1⟩; have hcell1 := cell_keep b1 hcell; have hv1 := carry hv b1; have hfz : W1.frozen? ⟨g, o + k * 4, none⟩ = false := frozen_of hv1 _))
        go_roundg (L - (k + 1))
        case measure => omega
        case rel =>
          refine ⟨k + 1, rfl, by omega, by omega, (hb.step b1 (Nat.le_of_lt (blk_lt hv))).setCell g _ _ (by simp) (Nat.le_refl _), ?_⟩
          rw [HE.out]
          have := heap_setCell_same W1 g (o + k * 4) _ t (.int .i32 32) hv1
          simpa using this
    · have lt1 : ¬ ((k : Int) < (L : Int)) := by omega
      have hkL : k = L := by omega
      go_wp2_with fail
      go_end0
      refine ⟨rfl, ?_, hb⟩
      rw [← mendG_eq, HL.out, ← hkL]
      exact hv
end Grd
end Go.Proofs.YtnkeahfcpbepjaaGreatDoor

/- Package sheet: relay: a row is made anew, and its halves mended. -/
namespace Go.Proofs.YtnkeahfcpbepjaaGreatDoor
open Go.ChangeShapes Go.WideShapes Go.ChangeAt Go.RowKit
namespace Put
open Grd (C SliceAt CellsAt gridErr z0 nilV flat rowsL RowB OwnG mendL)
/-- What a function makes of a row: new cells. -/
def Relays (hf : FuncId) (caps : Array Value) (W : World) (v : Value) (row' : List C) : Prop :=
  ∀ W1, Below W.heap.size W W1 → Calls Tryz.prog hf (#[v] ++ caps) W1 fun e W2 => ∃ g cap rest, e = .returned (.slice (some ⟨g, 0, none⟩) row'.length cap) ∧ W1.heap.size ≤ g ∧ row'.length ≤ cap ∧ cap ≤ 9223372036854775807 ∧ W2.heap[g]? = some (.cells (flat row' ++ rest).toArray 91 (0, 0)) ∧ Below W1.heap.size W1 W2
set_option maxHeartbeats 8000000 in
set_option maxRecDepth 100000 in
theorem relayG_any (W : World) (M N p : Nat) (s : Scr) (rows : List (List C)) (cv tv gv rv : Value) (gvs vs : List Value) (hS : ShA 64 W M N p s rows cv tv gv rv gvs vs) (hT : Txt.Tab W) (y : Nat) (hy : y < rows.length) (hf : FuncId) (hpl : Plain hf) (caps : Array Value) (row' : List C) (hR : Relays hf caps W (vs.getD y nilV) row') (hl : row'.length ≤ 1000000) :
    Calls Tryz.prog 107 #[.pointer (some ⟨p, 0, none⟩), .int .i64 (y : Int), .func (.func hf) #[] caps] W (Ran W M N p s (rows.set y (mendL (Grd.unpart row')))) := by
  obtain ⟨rb, rc, hrv, hrb, hrc1, hrc2, hvl, hrcell, A, hrA⟩ := own_cells hS.rws (by omega)
  obtain ⟨va, vc, hsh⟩ := (hS.rin.2 y hy).shape
  have hyI : (0 : Int) ≤ (y : Int) := by omega
  have hyI2 : (y : Int) < (rows.length : Int) := by omega
  have d1 := hrcell y hy
  have HW : Hid (ShA 64 W M N p s rows cv tv gv rv gvs vs) := hS
  rw [hsh] at d1 hR
  have HR : Hid (Relays hf caps W (.slice va (rows.getD y []).length vc) row') := hR
  have HRA : Hid (W.heap[rb]? = some (.cells A 22 (0, 0))) := hrA
  have HRV : Hid (rv = .slice (some ⟨rb, 0, none⟩) rows.length rc) := hrv
  have HT : Hid (Txt.Tab W) := hT
  have hml := hS.ml
  have hNW : N ≤ W.heap.size := Nat.le_trans hS.lo (Nat.le_of_lt (heap_lt hS.blk))
  obtain ⟨row, hrow⟩ : ∃ row, row = rows.getD y [] := ⟨_, rfl⟩
  rw [← hrow] at d1 HR
  have SK : Hid (∀ V, Below W.heap.size W V → V.cell? ⟨p, 22, none⟩ = some (.slice (some ⟨rb, 0, none⟩) rows.length rc) ∧ V.cell? ⟨rb, y, none⟩ = some (.slice va row.length vc) ∧ V.frozen? ⟨rb, y, none⟩ = false) := fun V h => by
    have hblk := Grd.carry HW.out.blk h
    obtain ⟨-, ⟨-, -, -, -, -, -, -, -, -, -, -, c22⟩, -⟩ := sh_cells hblk
    rw [HRV.out] at c22
    exact ⟨c22, cell_stay h d1, Grd.frozen_of (Grd.carry HRA.out h) _⟩
  unfold Plain at hpl
  obtain ⟨c22, dy, fy⟩ := SK.out W (Below.refl _ _)
  clear hS hR hrA hrcell hsh hrow hrv d1 hT fy
  go_enter Tryz.func107, Tryz.ntmps107
  go_wp2_with fail
  refine (HR.out W (Below.refl _ _)).mono ?_
  rintro e V ⟨g, cap, rest, rfl, hgW, hcap1, hcap2, hgh, q1⟩
  have hTV : Txt.Tab V := Grd.Tab.next HT.out q1
  have HMD := Grd.mendG_any g cap row' [] rest _ V hgh hl hTV (Nat.lt_of_lt_of_le (Txt.Tab.pos HT.out) hgW)
  have HQ1 : Hid (Below W.heap.size W V) := q1
  clear c22 dy q1 hgh hTV HR
  go_wp2_with fail
  refine HMD.mono ?_
  rintro e V2 ⟨rfl, hg2, ap⟩
  have q2 : Below W.heap.size W V2 := HQ1.out.trans (ap.1.mono hgW)
  obtain ⟨c22, dy, fy⟩ := SK.out _ q2
  have HQ2 : Hid (Below W.heap.size W V2) := q2
  have hri : RowIn V2 M (.slice (some ⟨g, 0, none⟩) row'.length cap) (mendL (Grd.unpart row')) := rowIn_rowB (g := g) ⟨cap, rest, by rw [Grd.mendL_len, Grd.unpart_len], by rw [Grd.mendL_len, Grd.unpart_len]; exact hcap1, hcap2, hg2⟩
  have HRI : Hid (RowIn V2 M (.slice (some ⟨g, 0, none⟩) row'.length cap) (mendL (Grd.unpart row'))) := hri
  clear hri ap hg2 q2 HMD SK HQ1
  go_wp2_with fail
  all_goals go_end0
  all_goals exact ⟨rfl, ⟨_, _, _, _, _, _, (ShA.next HW.out HQ2.out).storeRow HRV.out HRI.out⟩, (HQ2.out.mono hNW).setCell hrb _, (Framed.of_below HQ2.out).trans (Framed.store (Grd.carry HRA.out HQ2.out) not_other_rows)⟩
theorem relay_any (W : World) (M N p : Nat) (s : Scr) (rows : List (List C)) (cv tv gv rv : Value) (gvs vs : List Value) (hS : ShA 64 W M N p s rows cv tv gv rv gvs vs) (hT : Txt.Tab W) (y : Nat) (hy : y < rows.length) (hf : FuncId) (hpl : Plain hf) (caps : Array Value) (row' : List C) (hR : Relays hf caps W (vs.getD y nilV) row') (hAl : Grd.Alike row') (hl : row'.length ≤ 1000000) :
    Calls Tryz.prog 107 #[.pointer (some ⟨p, 0, none⟩), .int .i64 (y : Int), .func (.func hf) #[] caps] W (Ran W M N p s (rows.set y (mendL row'))) := by
  have h := relayG_any W M N p s rows cv tv gv rv gvs vs hS hT y hy hf hpl caps row' hR hl
  rwa [Grd.unpart_alike row' hAl] at h
/-- Three rows behind each other. -/
theorem concat3o (V : World) (b1 o1 b2 o2 b3 o3 x k m c1 c2 c3 : Nat) (r1 r2 r3 : List C) (h1 : CellsAt V b1 o1 r1) (h2 : CellsAt V b2 o2 r2) (h3 : CellsAt V b3 o3 r3) (l1 : r1.length = x) (l2 : r2.length = k) (l3 : r3.length = m) (hm : x + (k + m) ≤ 1000) :
    Calls Tryz.prog 97 #[.slice (some ⟨V.heap.size, 0, none⟩) 3 3] (V.alloc (.cells #[.slice (some ⟨b1, o1, none⟩) x c1, .slice (some ⟨b2, o2, none⟩) k c2, .slice (some ⟨b3, o3, none⟩) m c3] 22)) fun e w' => ∃ v', e = .returned v' ∧ w'.ownsRow (V.alloc (.cells #[.slice (some ⟨b1, o1, none⟩) x c1, .slice (some ⟨b2, o2, none⟩) k c2, .slice (some ⟨b3, o3, none⟩) m c3] 22)).heap.size 91 4 v' (x + (k + m)) (flat (r1 ++ (r2 ++ r3))) ∧ Below (V.alloc (.cells #[.slice (some ⟨b1, o1, none⟩) x c1, .slice (some ⟨b2, o2, none⟩) k c2, .slice (some ⟨b3, o3, none⟩) m c3] 22)).heap.size (V.alloc (.cells #[.slice (some ⟨b1, o1, none⟩) x c1, .slice (some ⟨b2, o2, none⟩) k c2, .slice (some ⟨b3, o3, none⟩) m c3] 22)) w' := by
  have kb : Below V.heap.size V (V.alloc (.cells #[.slice (some ⟨b1, o1, none⟩) x c1, .slice (some ⟨b2, o2, none⟩) k c2, .slice (some ⟨b3, o3, none⟩) m c3] 22)) := (Below.refl _ _).alloc (Nat.le_refl _) _
  have hnew := heap_alloc_new V (.cells #[.slice (some ⟨b1, o1, none⟩) x c1, .slice (some ⟨b2, o2, none⟩) k c2, .slice (some ⟨b3, o3, none⟩) m c3] 22)
  have hcell : ∀ (j : Nat) (v : Value), (#[.slice (some ⟨b1, o1, none⟩) x c1, .slice (some ⟨b2, o2, none⟩) k c2, .slice (some ⟨b3, o3, none⟩) m c3] : Array Value)[j]? = some v → (V.alloc (.cells #[.slice (some ⟨b1, o1, none⟩) x c1, .slice (some ⟨b2, o2, none⟩) k c2, .slice (some ⟨b3, o3, none⟩) m c3] 22)).cell? ⟨V.heap.size, 0 + j, none⟩ = some v := fun j v h => by
    rw [Nat.zero_add]
    unfold World.cell?
    rw [hnew]
    exact h
  have hfl : [r1, r2, r3].flatten = r1 ++ (r2 ++ r3) := by simp
  have hlen : (r1 ++ (r2 ++ r3)).length = x + (k + m) := by rw [List.length_append, List.length_append, l1, l2, l3]
  have key := concat_any V.heap.size 0 3 [r1, r2, r3] (V.alloc (.cells #[.slice (some ⟨b1, o1, none⟩) x c1, .slice (some ⟨b2, o2, none⟩) k c2, .slice (some ⟨b3, o3, none⟩) m c3] 22)) (fun j hj => by
    have hj3 : j < 3 := hj
    match j, hj3 with
    | 0, _ => exact ⟨b1, o1, c1, by show World.cell? _ _ = some (Value.slice _ r1.length c1); rw [l1]; exact hcell 0 _ rfl, h1.below kb⟩
    | 1, _ => exact ⟨b2, o2, c2, by show World.cell? _ _ = some (Value.slice _ r2.length c2); rw [l2]; exact hcell 1 _ rfl, h2.below kb⟩
    | 2, _ => exact ⟨b3, o3, c3, by show World.cell? _ _ = some (Value.slice _ r3.length c3); rw [l3]; exact hcell 2 _ rfl, h3.below kb⟩) (r1 ++ (r2 ++ r3)) hfl (by rw [hlen]; omega) (by simp)
  rw [hlen] at key
  exact key
/-- A row with the cells from a on, up to b, made anew. -/
def ovR (row mid : List C) (a b : Nat) : List C := row.take a ++ (mid ++ row.drop b)
theorem ovR_len (row mid : List C) (a b : Nat) (h : a + mid.length = b) (hb : b ≤ row.length) : (ovR row mid a b).length = row.length := by
  unfold ovR
  rw [List.length_append, List.length_append, List.length_take, List.length_drop]
  omega
theorem ovR_at (row mid : List C) (a b : Nat) (h : a + mid.length = b) (hb : b ≤ row.length) (i : Nat) : (ovR row mid a b).getD i z0 = if i < a then row.getD i z0 else if i < b then mid.getD (i - a) z0 else row.getD i z0 := by
  have e1 : (row.take a).length = a := by rw [List.length_take]; omega
  unfold ovR
  simp only [List.getD]
  by_cases h1 : i < a
  · rw [if_pos h1, List.getElem?_append_left (by omega), List.getElem?_take_of_lt h1]
  · rw [if_neg h1, List.getElem?_append_right (by omega), e1]
    by_cases h2 : i < b
    · rw [if_pos h2, List.getElem?_append_left (by omega)]
    · rw [if_neg h2, List.getElem?_append_right (by omega), List.getElem?_drop, show b + (i - a - mid.length) = i by omega]
/-- What slices.Concat makes of a row's ends and cells between. -/
theorem over3 (V : World) (rb ro g go c a b k vc L : Nat) (row mid : List C) (hC : CellsAt V rb ro row) (hM : CellsAt V g go mid) (hk : mid.length = k) (hb : a + k = b) (hL : row.length = L) (hbl : b ≤ L) (hl : L ≤ 120) (oo cc : Nat) (ho : (oo = ro + b * 4) ∨ b = L) :
    Calls Tryz.prog 97 #[.slice (some ⟨V.heap.size, 0, none⟩) 3 3] (V.alloc (.cells #[.slice (some ⟨rb, ro, none⟩) a c, .slice (some ⟨g, go, none⟩) k vc, .slice (some ⟨rb, oo, none⟩) (L - b) cc] 22)) fun e w' => ∃ v', e = .returned v' ∧ w'.ownsRow (V.alloc (.cells #[.slice (some ⟨rb, ro, none⟩) a c, .slice (some ⟨g, go, none⟩) k vc, .slice (some ⟨rb, oo, none⟩) (L - b) cc] 22)).heap.size 91 4 v' L (flat (ovR row mid a b)) ∧ Below (V.alloc (.cells #[.slice (some ⟨rb, ro, none⟩) a c, .slice (some ⟨g, go, none⟩) k vc, .slice (some ⟨rb, oo, none⟩) (L - b) cc] 22)).heap.size (V.alloc (.cells #[.slice (some ⟨rb, ro, none⟩) a c, .slice (some ⟨g, go, none⟩) k vc, .slice (some ⟨rb, oo, none⟩) (L - b) cc] 22)) w' := by
  have hC1 := hC.part 0 a (by omega)
  rw [Nat.zero_mul, Nat.add_zero, List.drop_zero] at hC1
  have hC2 : CellsAt V rb oo (row.drop b) := by
    by_cases hbL : b = L
    · intro j hj
      rw [List.length_drop] at hj
      omega
    · rcases ho with rfl | h
      · have h := hC.part b (L - b) (by omega)
        rwa [List.take_of_length_le (by rw [List.length_drop]; omega)] at h
      · exact absurd h hbL
  have key := concat3o V rb ro g go rb oo a k (L - b) c vc cc (row.take a) mid (row.drop b) hC1 hM hC2 (by rw [List.length_take]; omega) hk (by rw [List.length_drop, hL]) (by omega)
  rw [show a + (k + (L - b)) = L by omega] at key
  exact key
end Put
end Go.Proofs.YtnkeahfcpbepjaaGreatDoor

/- Plain mathematics: what is clean stays so. Encoding a rune and decoding it again gives the rune. No program is named. -/
namespace Go.Proofs.YtnkeahfcpbepjaaGreatDoor
namespace Txt
/-- A rune that can be encoded. -/
def okRune (r : Int) : Prop := (0 ≤ r ∧ r < 55296) ∨ (57343 < r ∧ r ≤ 1114111)
theorem decN_ok (n b0 b1 b2 b3 : Nat) : okRune (Lib.decodeN n b0 b1 b2 b3).1 := by
  unfold okRune Lib.decodeN
  repeat' split
  all_goals simp
  all_goals omega
theorem dec_ok (l : List UInt8) : okRune (dec l).1 := decN_ok _ _ _ _ _
theorem decN_two (n c b2 b3 : Nat) (hn : 2 ≤ n) (h0 : 128 ≤ c) (h1 : c ≤ 2047) : Lib.decodeN n (192 + c / 64) (128 + c % 64) b2 b3 = (c, 2) := by
  unfold Lib.decodeN
  rw [if_neg (by omega), if_pos ⟨by omega, by omega, by omega⟩, if_pos (by omega)]
  congr 1; omega
theorem decN_three (n c b3 : Nat) (hn : 3 ≤ n) (h : (2048 ≤ c ∧ c < 55296) ∨ (57343 < c ∧ c ≤ 65535)) : Lib.decodeN n (224 + c / 4096) (128 + c / 64 % 64) (128 + c % 64) b3 = (c, 3) := by
  unfold Lib.decodeN
  have e : (224 + c / 4096) % 16 * 4096 + (128 + c / 64 % 64) % 64 * 64 + (128 + c % 64) % 64 = c := by omega
  rw [if_neg (by omega), if_neg (by omega), if_pos ⟨by omega, ⟨by omega, by omega⟩, by omega, by omega⟩, e, if_pos (by omega)]
theorem decN_four (n c : Nat) (hn : 4 ≤ n) (h0 : 65536 ≤ c) (h1 : c ≤ 1114111) : Lib.decodeN n (240 + c / 262144) (128 + c / 4096 % 64) (128 + c / 64 % 64) (128 + c % 64) = (c, 4) := by
  unfold Lib.decodeN
  have e : (240 + c / 262144) % 8 * 262144 + (128 + c / 4096 % 64) % 64 * 4096 + (128 + c / 64 % 64) % 64 * 64 + (128 + c % 64) % 64 = c := by omega
  rw [if_neg (by omega), if_neg (by omega), if_neg (by omega), if_pos ⟨by omega, ⟨by omega, by omega⟩, ⟨by omega, by omega⟩, by omega, by omega⟩, e, if_pos (by omega)]
theorem byte_toNat (n : Nat) (h : n < 256) : (n.toUInt8).toNat = n := by
  rw [Nat.toUInt8, UInt8.toNat_ofNat']; omega
/-- Encoding, then decoding. -/
theorem dec_encode (r : Int) (h : okRune r) (b : List UInt8) : dec (Lib.encodeRune r ++ b) = (r.toNat, (Lib.encodeRune r).length) := by
  obtain ⟨c, rfl⟩ := Int.eq_ofNat_of_zero_le (show 0 ≤ r by unfold okRune at h; omega)
  unfold okRune at h
  unfold Lib.encodeRune
  by_cases h1 : c ≤ 127
  · rw [Lib.encodeRuneZ_one (by omega) (by omega)]
    simp only [List.map_cons, List.map_nil, List.cons_append, List.nil_append, dec, List.getD_cons_zero, Int.toNat_natCast, byte_toNat c (by omega)]
    rw [decN_ascii _ _ _ _ _ (by omega)]
    rfl
  · by_cases h2 : c ≤ 2047
    · rw [Lib.encodeRuneZ_two (by omega) (by omega)]
      simp only [List.map_cons, List.map_nil, List.cons_append, List.nil_append, dec, List.getD_cons_zero, List.getD_cons_succ, Int.toNat_natCast]
      rw [show (192 + (c : Int) / 64).toNat = 192 + c / 64 by omega, show (128 + (c : Int) % 64).toNat = 128 + c % 64 by omega, byte_toNat _ (by omega), byte_toNat _ (by omega)]
      exact decN_two _ c _ _ (by simp) (by omega) (by omega)
    · by_cases h3 : c ≤ 65535
      · rw [Lib.encodeRuneZ_three (by omega)]
        simp only [List.map_cons, List.map_nil, List.cons_append, List.nil_append, dec, List.getD_cons_zero, List.getD_cons_succ, Int.toNat_natCast]
        rw [show (224 + (c : Int) / 4096).toNat = 224 + c / 4096 by omega, show (128 + (c : Int) / 64 % 64).toNat = 128 + c / 64 % 64 by omega, show (128 + (c : Int) % 64).toNat = 128 + c % 64 by omega, byte_toNat _ (by omega), byte_toNat _ (by omega), byte_toNat _ (by omega)]
        exact decN_three _ c _ (by simp) (by omega)
      · rw [Lib.encodeRuneZ_four (by omega) (by omega)]
        simp only [List.map_cons, List.map_nil, List.cons_append, List.nil_append, dec, List.getD_cons_zero, List.getD_cons_succ, Int.toNat_natCast]
        rw [show (240 + (c : Int) / 262144).toNat = 240 + c / 262144 by omega, show (128 + (c : Int) / 4096 % 64).toNat = 128 + c / 4096 % 64 by omega, show (128 + (c : Int) / 64 % 64).toNat = 128 + c / 64 % 64 by omega, show (128 + (c : Int) % 64).toNat = 128 + c % 64 by omega, byte_toNat _ (by omega), byte_toNat _ (by omega), byte_toNat _ (by omega), byte_toNat _ (by omega)]
        exact decN_four _ c (by simp) (by omega) (by omega)
theorem encode_ne (r : Int) : Lib.encodeRune r ≠ [] := by
  intro e
  have := Lib.encodeRuneZ_length r
  have h := congrArg List.length e
  simp only [Lib.encodeRune, List.length_map, List.length_nil] at h
  omega
theorem rn_encode (r : Int) (h : okRune r) (b : List UInt8) : rn (Lib.encodeRune r ++ b) = (r, (Lib.encodeRune r).length) :: rn b := by
  rw [rn_cons _ (by simp [encode_ne]), dec_encode r h b]
  have h0 : 0 ≤ r := by unfold okRune at h; omega
  simp only [List.drop_left, Int.toNat_of_nonneg h0]
/-- The runes of a list of bytes can all be encoded. -/
theorem rl_ok : ∀ (f : Nat) (l : List UInt8), ∀ x ∈ rl f l, okRune x.1
  | 0, _, x, hx => by simp [rl] at hx
  | f + 1, l, x, hx => by
    by_cases hl : l = []
    · subst hl; rw [rl_nil] at hx; cases hx
    · rw [rl_cons f l hl] at hx
      rcases List.mem_cons.1 hx with rfl | hx
      · exact dec_ok l
      · exact rl_ok f _ x hx
end Txt
end Go.Proofs.YtnkeahfcpbepjaaGreatDoor

/- (*sheet.Sheet).Write: a rune over the cells from X on. (Written by gen_sheetover.py.) -/
namespace Go.Proofs.YtnkeahfcpbepjaaGreatDoor
open Go.ChangeShapes Go.WideShapes Go.ChangeAt Go.RowKit
namespace Put
open Grd (C SliceAt CellsAt gridErr z0 nilV flat rowsL OwnG RowB)
open Sty (isSt)
open Txt (wd)
theorem wd_ok (r : Int) (h : wd r ≠ 0) : Txt.okRune r := by
  unfold Txt.okRune
  by_cases h0 : r < 0 ∨ 1114111 < r
  · exact absurd (by unfold wd; rw [if_pos h0]) h
  · by_cases h1 : 55296 ≤ r ∧ r ≤ 57343
    · refine absurd ?_ h
      unfold wd
      rw [if_neg h0]
      unfold Txt.spans
      simp only [Txt.look]
      repeat' split
      all_goals first | rfl | omega
    · omega
/-- A row with one rune written into it. -/
def putRune (look : Int × Int × Int) (row : List C) (x : Nat) (r : Int) : List C := Grd.mendL (Grd.writeOne look row x r)
theorem putRune_len (look : Int × Int × Int) (row : List C) (x : Nat) (r : Int) : (putRune look row x r).length = row.length := by
  unfold putRune
  rw [Grd.mendL_len, Grd.writeOne_len]
theorem ShA.style {t : TypeId} {W : World} {M N p : Nat} {s : Scr} {rows : List (List C)} {cv tv gv rv : Value} {gvs vs : List Value} (h : ShA t W M N p s rows cv tv gv rv gvs vs) : W.cell? ⟨p, 6, none⟩ = some (.int .i64 s.sf) ∧ W.cell? ⟨p, 7, none⟩ = some (.int .i64 s.sb) ∧ W.cell? ⟨p, 8, none⟩ = some (.int .i64 s.sx) ∧ W.cell? ⟨p, 3, none⟩ = some (.int .i64 s.x) := by
  obtain ⟨⟨-, -, -, c3, -, -, c6, c7, c8, -⟩, -, -⟩ := sh_cells h.blk
  exact ⟨c6, c7, c8, c3⟩
/-- The cells of a rune. -/
def cellsW (look : Int × Int × Int) (r : Int) : List C := if wd r = 2 then [(r, look), (0, look)] else [(r, look)]
theorem writeOne_ov (look : Int × Int × Int) (row : List C) (x k : Nat) (r : Int) (hk : wd r = (k : Int)) (hk1 : k = 1 ∨ k = 2) (hx : x + k ≤ row.length) : Grd.writeOne look row x r = ovR row (cellsW look r) x (x + k) ∧ (cellsW look r).length = k := by
  rcases hk1 with rfl | rfl
  · have hc : cellsW look r = [(r, look)] := by unfold cellsW; rw [if_neg (by rw [hk]; decide)]
    have hw : Grd.writeOne look row x r = row.set x (r, look) := by unfold Grd.writeOne; rw [if_neg (by rw [hk]; decide), if_neg (by rw [hk]; decide)]
    rw [hc, hw]
    refine ⟨Grd.ext_getD _ _ (by rw [List.length_set, ovR_len row [(r, look)] x (x + 1) rfl hx]) fun j hj => ?_, rfl⟩
    rw [List.length_set] at hj
    rw [ovR_at row [(r, look)] x (x + 1) rfl hx, Grd.getD_set _ _ _ _ (by omega)]
    by_cases h1 : j < x
    · rw [if_neg (by omega), if_pos h1]
    · rw [if_neg h1]
      by_cases h2 : j = x
      · subst h2
        rw [if_pos rfl, if_pos (by omega), Nat.sub_self]
        rfl
      · rw [if_neg h2, if_neg (by omega)]
  · have hc : cellsW look r = [(r, look), (0, look)] := by unfold cellsW; rw [if_pos (by rw [hk]; decide)]
    have hw : Grd.writeOne look row x r = (row.set x (r, look)).set (x + 1) (0, look) := by unfold Grd.writeOne; rw [if_neg (by rw [hk]; decide), if_pos (by rw [hk]; decide)]
    rw [hc, hw]
    refine ⟨Grd.ext_getD _ _ (by rw [List.length_set, List.length_set, ovR_len row [(r, look), (0, look)] x (x + 2) rfl hx]) fun j hj => ?_, rfl⟩
    rw [List.length_set, List.length_set] at hj
    rw [ovR_at row [(r, look), (0, look)] x (x + 2) rfl hx, Grd.getD_set _ _ _ _ (by rw [List.length_set]; omega), Grd.getD_set _ _ _ _ (by omega)]
    by_cases h1 : j < x
    · rw [if_neg (by omega), if_neg (by omega), if_pos h1]
    · rw [if_neg h1]
      by_cases h2 : j = x
      · subst h2
        rw [if_neg (by omega), if_pos rfl, if_pos (by omega), Nat.sub_self]
        rfl
      · by_cases h3 : j = x + 1
        · subst h3
          rw [if_pos rfl, if_pos (by omega), show x + 1 - x = 1 by omega]
          rfl
        · rw [if_neg h3, if_neg h2, if_neg (by omega)]
theorem wd_one_two (r : Int) (h : wd r ≠ 0) : ∃ k : Nat, wd r = (k : Int) ∧ (k = 1 ∨ k = 2) := by
  have h1 := Grd.wd_nonneg r
  have h2 := (Txt.wd_range r).2
  refine ⟨(wd r).toNat, by omega, by omega⟩
set_option linter.unusedVariables false in
set_option maxHeartbeats 8000000 in
set_option maxRecDepth 100000 in
theorem write1_in (W : World) (p Bp Bc rb ro c x k g : Nat) (row mid : List C) (hp : W.cell? ⟨Bp, 0, none⟩ = some (.pointer (some ⟨p, 0, none⟩))) (hx : W.cell? ⟨p, 3, none⟩ = some (.int .i64 (x : Int))) (hBc : W.cell? ⟨Bc, 0, none⟩ = some (.slice (some ⟨g, 0, none⟩) k 2)) (hM : CellsAt W g 0 mid) (hk : mid.length = k) (hC : CellsAt W rb ro row) (hc : row.length ≤ c) (hxk : x + k ≤ row.length) (hk1 : 1 ≤ k) (hl : row.length ≤ 120) (hcc : (x + k) < c) :
    Calls Tryz.prog 139 #[.slice (some ⟨rb, ro, none⟩) row.length c, .pointer (some ⟨Bp, 0, none⟩), .pointer (some ⟨Bc, 0, none⟩)] W fun e W' => ∃ v', e = .returned v' ∧ W'.ownsRow W.heap.size 91 4 v' row.length (flat (ovR row mid x (x + k))) ∧ Below W.heap.size W W' := by
  have SK : Hid (∀ V, Below W.heap.size W V → V.cell? ⟨Bp, 0, none⟩ = some (.pointer (some ⟨p, 0, none⟩)) ∧ V.cell? ⟨p, 3, none⟩ = some (.int .i64 (x : Int)) ∧ V.cell? ⟨Bc, 0, none⟩ = some (.slice (some ⟨g, 0, none⟩) k 2)) := fun V h => ⟨cell_stay h hp, cell_stay h hx, cell_stay h hBc⟩
  have hwr : IntKind.i64.wrap ((x : Int) + (k : Int)) = (x : Int) + (k : Int) := wrap_id _ (by omega) (by omega)
  have HMC : Hid (CellsAt W g 0 mid) := hM
  have HCC : Hid (CellsAt W rb ro row) := hC
  obtain ⟨L, hL⟩ : ∃ L, L = row.length := ⟨_, rfl⟩
  obtain ⟨m, hm⟩ : ∃ m, m = L - (x + k) := ⟨_, rfl⟩
  have HCN : Hid (∀ (V : World), Below W.heap.size W V → Calls Tryz.prog 97 #[.slice (some ⟨V.heap.size, 0, none⟩) 3 3] (V.alloc (.cells #[.slice (some ⟨rb, ro, none⟩) x c, .slice (some ⟨g, 0, none⟩) k 2, .slice (some ⟨rb, ro + (x + k) * 4, none⟩) m (c - (x + k))] 22)) fun e w' => ∃ v', e = .returned v' ∧ w'.ownsRow (V.alloc (.cells #[.slice (some ⟨rb, ro, none⟩) x c, .slice (some ⟨g, 0, none⟩) k 2, .slice (some ⟨rb, ro + (x + k) * 4, none⟩) m (c - (x + k))] 22)).heap.size 91 4 v' L (flat (ovR row mid x (x + k))) ∧ Below (V.alloc (.cells #[.slice (some ⟨rb, ro, none⟩) x c, .slice (some ⟨g, 0, none⟩) k 2, .slice (some ⟨rb, ro + (x + k) * 4, none⟩) m (c - (x + k))] 22)).heap.size (V.alloc (.cells #[.slice (some ⟨rb, ro, none⟩) x c, .slice (some ⟨g, 0, none⟩) k 2, .slice (some ⟨rb, ro + (x + k) * 4, none⟩) m (c - (x + k))] 22)) w') := fun V hV => by
    have key := over3 V rb ro g 0 c x (x + k) k 2 L row mid (HCC.out.below hV) (HMC.out.below hV) hk rfl hL.symm (by omega) (by omega) (ro + (x + k) * 4) (c - (x + k)) (.inl rfl)
    rw [← hm] at key
    exact key
  have b0 : Below W.heap.size W W.drew := (Below.refl _ _).drew
  have hx1 : (x : Int) ≤ (c : Int) := by omega
  have hx2 : (x : Int) ≤ (L : Int) := by omega
  have hx3 : (x : Int) + (k : Int) ≤ (L : Int) := by omega
  have hx4 : (0 : Int) ≤ (x : Int) + (k : Int) := by omega
  have hx5 : ((x : Int) + (k : Int)).toNat = x + k := by omega
  have hcI : (x : Int) + (k : Int) < (c : Int) := by omega
  have hcN : ¬ c = (x + k) := by omega
  have hkk : L - (x + k) = m := hm.symm
  rw [← hL]
  clear hp hx hBc hM hk hC hc hxk hk1 hl hcc hL hm HCC HMC
  generalize ovR row mid x (x + k) = res at *
  go_enter Tryz.func139, Tryz.ntmps139
  go_upto_region 1 with fail
  have q2 := b0.alloc b0.size (.cells #[.slice (some ⟨rb, ro, none⟩) x c, .slice (some ⟨g, 0, none⟩) k 2, .slice (some ⟨rb, ro + (x + k) * 4, none⟩) m (c - (x + k))] 22)
  have HC1 := HCN.out W.drew b0
  go_region_held3 (fun w' => w'.cell? ⟨Bp, 0, none⟩ = some (.pointer (some ⟨p, 0, none⟩)) ∧ w'.cell? ⟨p, 3, none⟩ = some (.int .i64 (x : Int)) ∧ w'.cell? ⟨Bc, 0, none⟩ = some (.slice (some ⟨g, 0, none⟩) k 2))
    (first | exact SK.out _ q3 | exact SK.out _ q2 | exact SK.out _ b0)
    (first
      | (go_at_call 97; (try rw [hkk]); refine HC1.mono ?_; rintro e V2 ⟨v', rfl, hO, b2⟩; have q3 : Below W.heap.size W V2 := q2.trans (b2.mono q2.size); have HFI : Hid _ := And.intro (Grd.ownsRow_mono hO q2.size) q3; obtain ⟨za, zc, hzv⟩ := own_slice hO; subst hzv))
  all_goals go_wp2_with fail
  all_goals go_ret
  all_goals exact ⟨_, rfl, HFI.out.1, HFI.out.2⟩
set_option linter.unusedVariables false in
set_option maxHeartbeats 8000000 in
set_option maxRecDepth 100000 in
theorem write1_end (W : World) (p Bp Bc rb ro c x k g : Nat) (row mid : List C) (hp : W.cell? ⟨Bp, 0, none⟩ = some (.pointer (some ⟨p, 0, none⟩))) (hx : W.cell? ⟨p, 3, none⟩ = some (.int .i64 (x : Int))) (hBc : W.cell? ⟨Bc, 0, none⟩ = some (.slice (some ⟨g, 0, none⟩) k 2)) (hM : CellsAt W g 0 mid) (hk : mid.length = k) (hC : CellsAt W rb ro row) (hc : row.length ≤ c) (hxk : x + k ≤ row.length) (hk1 : 1 ≤ k) (hl : row.length ≤ 120) (hcc : ¬ (x + k) < c) :
    Calls Tryz.prog 139 #[.slice (some ⟨rb, ro, none⟩) row.length c, .pointer (some ⟨Bp, 0, none⟩), .pointer (some ⟨Bc, 0, none⟩)] W fun e W' => ∃ v', e = .returned v' ∧ W'.ownsRow W.heap.size 91 4 v' row.length (flat (ovR row mid x (x + k))) ∧ Below W.heap.size W W' := by
  have SK : Hid (∀ V, Below W.heap.size W V → V.cell? ⟨Bp, 0, none⟩ = some (.pointer (some ⟨p, 0, none⟩)) ∧ V.cell? ⟨p, 3, none⟩ = some (.int .i64 (x : Int)) ∧ V.cell? ⟨Bc, 0, none⟩ = some (.slice (some ⟨g, 0, none⟩) k 2)) := fun V h => ⟨cell_stay h hp, cell_stay h hx, cell_stay h hBc⟩
  have hwr : IntKind.i64.wrap ((x : Int) + (k : Int)) = (x : Int) + (k : Int) := wrap_id _ (by omega) (by omega)
  have HMC : Hid (CellsAt W g 0 mid) := hM
  have HCC : Hid (CellsAt W rb ro row) := hC
  obtain ⟨L, hL⟩ : ∃ L, L = row.length := ⟨_, rfl⟩
  have hbc : (x + k) = c := by omega
  have hbL : (x + k) = L := by omega
  subst hbc
  subst hbL
  have HCN : Hid (∀ (V : World), Below W.heap.size W V → Calls Tryz.prog 97 #[.slice (some ⟨V.heap.size, 0, none⟩) 3 3] (V.alloc (.cells #[.slice (some ⟨rb, ro, none⟩) x (x + k), .slice (some ⟨g, 0, none⟩) k 2, .slice (some ⟨rb, ro, none⟩) 0 0] 22)) fun e w' => ∃ v', e = .returned v' ∧ w'.ownsRow (V.alloc (.cells #[.slice (some ⟨rb, ro, none⟩) x (x + k), .slice (some ⟨g, 0, none⟩) k 2, .slice (some ⟨rb, ro, none⟩) 0 0] 22)).heap.size 91 4 v' (x + k) (flat (ovR row mid x (x + k))) ∧ Below (V.alloc (.cells #[.slice (some ⟨rb, ro, none⟩) x (x + k), .slice (some ⟨g, 0, none⟩) k 2, .slice (some ⟨rb, ro, none⟩) 0 0] 22)).heap.size (V.alloc (.cells #[.slice (some ⟨rb, ro, none⟩) x (x + k), .slice (some ⟨g, 0, none⟩) k 2, .slice (some ⟨rb, ro, none⟩) 0 0] 22)) w') := fun V hV => by
    have key := over3 V rb ro g 0 (x + k) x (x + k) k 2 (x + k) row mid (HCC.out.below hV) (HMC.out.below hV) hk rfl hL.symm (by omega) (by omega) ro 0 (.inr rfl)
    rw [Nat.sub_self] at key
    exact key
  have b0 : Below W.heap.size W W.drew := (Below.refl _ _).drew
  have hx1 : (x : Int) ≤ (x : Int) + (k : Int) := by omega
  have hx2 : (x : Int) ≤ (x : Int) + (k : Int) := by omega
  have hx3 : (x : Int) + (k : Int) ≤ (x : Int) + (k : Int) := by omega
  have hx4 : (0 : Int) ≤ (x : Int) + (k : Int) := by omega
  have hx5 : ((x : Int) + (k : Int)).toNat = x + k := by omega
  have hcI : ¬ (x : Int) + (k : Int) < (x : Int) + (k : Int) := by omega
  have hcN : (x + k) = (x + k) := rfl
  have hkk : (x + k) - (x + k) = 0 := Nat.sub_self _
  rw [← hL]
  clear hp hx hBc hM hk hC hc hxk hk1 hl hcc hL HCC HMC
  generalize ovR row mid x (x + k) = res at *
  go_enter Tryz.func139, Tryz.ntmps139
  go_upto_region 1 with fail
  have q2 := b0.alloc b0.size (.cells #[.slice (some ⟨rb, ro, none⟩) x (x + k), .slice (some ⟨g, 0, none⟩) k 2, .slice (some ⟨rb, ro, none⟩) 0 0] 22)
  have HC1 := HCN.out W.drew b0
  go_region_held3 (fun w' => w'.cell? ⟨Bp, 0, none⟩ = some (.pointer (some ⟨p, 0, none⟩)) ∧ w'.cell? ⟨p, 3, none⟩ = some (.int .i64 (x : Int)) ∧ w'.cell? ⟨Bc, 0, none⟩ = some (.slice (some ⟨g, 0, none⟩) k 2))
    (first | exact SK.out _ q3 | exact SK.out _ q2 | exact SK.out _ b0)
    (first
      | (go_at_call 97; (try rw [hkk]); refine HC1.mono ?_; rintro e V2 ⟨v', rfl, hO, b2⟩; have q3 : Below W.heap.size W V2 := q2.trans (b2.mono q2.size); have HFI : Hid _ := And.intro (Grd.ownsRow_mono hO q2.size) q3; obtain ⟨za, zc, hzv⟩ := own_slice hO; subst hzv))
  all_goals go_wp2_with fail
  all_goals go_ret
  all_goals exact ⟨_, rfl, HFI.out.1, HFI.out.2⟩
theorem write1_any (W : World) (p Bp Bc rb ro c x k g : Nat) (row mid : List C) (hp : W.cell? ⟨Bp, 0, none⟩ = some (.pointer (some ⟨p, 0, none⟩))) (hx : W.cell? ⟨p, 3, none⟩ = some (.int .i64 (x : Int))) (hBc : W.cell? ⟨Bc, 0, none⟩ = some (.slice (some ⟨g, 0, none⟩) k 2)) (hM : CellsAt W g 0 mid) (hk : mid.length = k) (hC : CellsAt W rb ro row) (hc : row.length ≤ c) (hxk : x + k ≤ row.length) (hk1 : 1 ≤ k) (hl : row.length ≤ 120) :
    Calls Tryz.prog 139 #[.slice (some ⟨rb, ro, none⟩) row.length c, .pointer (some ⟨Bp, 0, none⟩), .pointer (some ⟨Bc, 0, none⟩)] W fun e W' => ∃ v', e = .returned v' ∧ W'.ownsRow W.heap.size 91 4 v' row.length (flat (ovR row mid x (x + k))) ∧ Below W.heap.size W W' := by
  by_cases hcc : (x + k) < c
  · exact write1_in W p Bp Bc rb ro c x k g row mid hp hx hBc hM hk hC hc hxk hk1 hl hcc
  · exact write1_end W p Bp Bc rb ro c x k g row mid hp hx hBc hM hk hC hc hxk hk1 hl hcc
end Put
end Go.Proofs.YtnkeahfcpbepjaaGreatDoor

/- (*sheet.Sheet).Write. -/
namespace Go.Proofs.YtnkeahfcpbepjaaGreatDoor
open Go.ChangeShapes Go.WideShapes Go.ChangeAt Go.RowKit
namespace Put
open Grd (C SliceAt CellsAt gridErr z0 nilV flat rowsL OwnG RowB)
open Sty (isSt)
open Txt (wd)
theorem cell_one' {W : World} {R : Nat} {v : Value} {t : TypeId} (h : W.heap[R]? = some (.cells #[v] t (0, 0))) : W.cell? ⟨R, 0, none⟩ = some v := by simp [World.cell?, h]
theorem other_ptr : Other 57 := by unfold Other; decide
theorem plain_write : Plain 139 := by
  intro args W
  kernel_rfl
theorem next4 {Y V : World} {a1 a2 a3 a4 : Addr} {v1 v2 v3 v4 : Value} (b : Below Y.heap.size Y V) (e : Y.cell? a1 = some v1 ∧ Y.cell? a2 = some v2 ∧ Y.cell? a3 = some v3 ∧ Y.cell? a4 = some v4) : V.cell? a1 = some v1 ∧ V.cell? a2 = some v2 ∧ V.cell? a3 = some v3 ∧ V.cell? a4 = some v4 := ⟨cell_stay b e.1, cell_stay b e.2.1, cell_stay b e.2.2.1, cell_stay b e.2.2.2⟩
theorem al_below (o : Obj) {X Y : World} (_ : Below X.heap.size X Y) : Below Y.heap.size Y (Y.alloc o) := (Below.refl _ _).alloc (Nat.le_refl _) _
theorem al_old (o : Obj) {Y : World} {B : Nat} {u : Obj} (h : Y.heap[B]? = some u) : (Y.alloc o).heap[B]? = some u := (Below.heap_alloc Y o _ (heap_lt h)).trans h
theorem al_at {X Y : World} (_ : Below X.heap.size X Y) {o : Obj} (h : (Y.alloc o).heap[Y.heap.size]? = some o) : (Y.alloc o).heap[Y.heap.size]? = some o := h
/-- A rune's cells lie in a block of their own, of which a variable speaks. -/
def Brush (X V : World) (Bc g k : Nat) (mid : List C) : Prop := X.heap.size ≤ Bc ∧ V.heap[Bc]? = some (.cells #[.slice (some ⟨g, 0, none⟩) k 2] 22 (0, 0)) ∧ CellsAt V g 0 mid ∧ Below X.heap.size X V
theorem off4 {Z : World} {Bc P1 P2 i1 i2 i3 i4 : Nat} {v u : Value} {v1 v2 v3 v4 : Value} (_ : Z.heap[Bc]? = some (.cells #[u] 22 (0, 0))) (e : Z.cell? ⟨P1, i1, none⟩ = some v1 ∧ Z.cell? ⟨P2, i2, none⟩ = some v2 ∧ Z.cell? ⟨P2, i3, none⟩ = some v3 ∧ Z.cell? ⟨P2, i4, none⟩ = some v4) (n1 : Bc ≠ P1) (n2 : Bc ≠ P2) : (Z.setCell ⟨Bc, 0, none⟩ v).cell? ⟨P1, i1, none⟩ = some v1 ∧ (Z.setCell ⟨Bc, 0, none⟩ v).cell? ⟨P2, i2, none⟩ = some v2 ∧ (Z.setCell ⟨Bc, 0, none⟩ v).cell? ⟨P2, i3, none⟩ = some v3 ∧ (Z.setCell ⟨Bc, 0, none⟩ v).cell? ⟨P2, i4, none⟩ = some v4 := ⟨(cell_store_off n1.symm).trans e.1, (cell_store_off n2.symm).trans e.2.1, (cell_store_off n2.symm).trans e.2.2.1, (cell_store_off n2.symm).trans e.2.2.2⟩
theorem brush_of {X Z : World} {Bc g k : Nat} {u : Value} {mid : List C} {A : Array Value} (HM : ∀ (V : World) (g : Nat), V.heap[g]? = some (.cells A 91 (0, 0)) → CellsAt V g 0 mid) (hb : Z.heap[Bc]? = some (.cells #[u] 22 (0, 0))) (hg : Z.heap[g]? = some (.cells A 91 (0, 0))) (kx : Below X.heap.size X Z) (lb : X.heap.size ≤ Bc) : Brush X (Z.setCell ⟨Bc, 0, none⟩ (.slice (some ⟨g, 0, none⟩) k 2)) Bc g k mid := by
  have hne : g ≠ Bc := by
    intro e
    rw [e, hb] at hg
    injection hg with hg
    injection hg with _ hg _
    exact absurd hg (by decide)
  exact ⟨lb, store_at hb rfl, HM _ _ ((store_off hne).trans hg), kx.setCell lb _⟩
set_option linter.unusedSimpArgs false in
set_option maxHeartbeats 8000000 in
set_option maxRecDepth 100000 in
theorem write_any (W : World) (M N p : Nat) (s : Scr) (rows : List (List C)) (hT : Txt.Tab W) (hSt : ShAt 64 W M N p s rows) (r : Int)
    (n x y : Nat) (hy : y < rows.length) (row : List C) (hrow : rows.getD y [] = row) (_hw : s.w = n) (hx : s.x = x) (hyy : s.y = y) (hxn : x < n) (hrn : row.length = n) (hz : gridErr n 1 row = 0) (hst : isSt (s.sf, s.sb, s.sx) = true) (hr : wd r ≠ 0) (hfit : wd r ≤ (n : Int) - x) :
    Calls Tryz.prog 85 #[.pointer (some ⟨p, 0, none⟩), .int .i32 r] W (Ran W M N p s (rows.set y (putRune (s.sf, s.sb, s.sx) row x r))) := by
  obtain ⟨cv, tv, gv, rv, gvs, vs, hS⟩ := hSt
  obtain ⟨k, hk, hk1⟩ := wd_one_two r hr
  have hrr : Grd.RightRow row := by
    have h := ((Grd.gridErr_zero n 1 row).1 hz).2.2 0 (by omega)
    have e : Grd.rowAt n row 0 = row := by unfold Grd.rowAt; rw [Nat.zero_mul, List.drop_zero, ← hrn, List.take_length]
    rw [e] at h
    exact h
  have hn2 : n ≤ 120 := by
    obtain ⟨h1, -, -⟩ := (Grd.gridErr_zero n 1 row).1 hz
    have h2 : 1 ≤ (n : Int) ∧ (n : Int) ≤ 120 := by simpa [Grd.isSize] using h1
    omega
  have hxk : x + k ≤ row.length := by omega
  obtain ⟨hov, hml⟩ := writeOne_ov (s.sf, s.sb, s.sx) row x k r hk hk1 hxk
  have hal : Grd.Alike (ovR row (cellsW (s.sf, s.sb, s.sx) r) x (x + k)) := by
    rw [← hov]
    exact (Grd.meant_one _ row x r hrr.1 hst (by omega)).alike
  have hlen := ovR_len row (cellsW (s.sf, s.sb, s.sx) r) x (x + k) (by rw [hml]) hxk
  have kb : Below W.heap.size W (W.alloc (.cells #[.pointer (some ⟨p, 0, none⟩)] 57)) := (Below.refl _ _).alloc (Nat.le_refl _) _
  have hx0 := heap_alloc_new W (.cells #[.pointer (some ⟨p, 0, none⟩)] 57)
  have HA : Hid (∀ X Bc g, Below W.heap.size W X → X.cell? ⟨W.heap.size, 0, none⟩ = some (.pointer (some ⟨p, 0, none⟩)) → X.cell? ⟨Bc, 0, none⟩ = some (.slice (some ⟨g, 0, none⟩) k 2) → CellsAt X g 0 (cellsW (s.sf, s.sb, s.sx) r) → Calls Tryz.prog 107 #[.pointer (some ⟨p, 0, none⟩), .int .i64 (y : Int), .func (.func 139) #[] #[.pointer (some ⟨W.heap.size, 0, none⟩), .pointer (some ⟨Bc, 0, none⟩)]] X (Ran X M N p s (rows.set y (putRune (s.sf, s.sb, s.sx) row x r)))) := fun X Bc g hX q1 q2 hM => by
    unfold putRune
    rw [hov]
    refine relay_any X M N p s rows cv tv gv rv gvs vs (hS.next hX) (Grd.Tab.next hT hX) y hy _ plain_write _ _ (fun W1 hW1 => ?_) hal (by rw [hlen]; omega)
    have hS1 := (hS.next hX).next hW1
    have hri := hS1.rin.2 y hy
    rw [hrow] at hri
    obtain ⟨⟨-, -, -, c3, -⟩, -, -⟩ := sh_cells hS1.blk
    rw [hx] at c3
    rcases hri with ⟨he, -⟩ | ⟨hne, bb, o, c, hv, hc1, hc2, hC, -⟩
    · have h5 := congrArg List.length he
      rw [List.length_nil] at h5
      omega
    · rw [hv]
      refine (write1_any W1 p W.heap.size Bc bb o c x k g row (cellsW (s.sf, s.sb, s.sx) r) (cell_stay hW1 q1) c3 (cell_stay hW1 q2) (hM.below hW1) hml hC hc1 hxk (by omega) (by omega)).mono ?_
      rintro e W2 ⟨v', rfl, hO, b2⟩
      have hO2 : W2.ownsRow W1.heap.size 91 4 v' (ovR row (cellsW (s.sf, s.sb, s.sx) r) x (x + k)).length (flat (ovR row (cellsW (s.sf, s.sb, s.sx) r) x (x + k))) := by rw [hlen]; exact hO
      rcases OwnC.of hO2 with ⟨he, -⟩ | ⟨g', cap, rest, ⟨t, ht⟩, hv', hg1, hg2, hg3, hg4⟩
      · have h5 := congrArg List.length he
        rw [hlen, List.length_nil] at h5
        omega
      · subst ht
        rw [hv']
        exact ⟨g', cap, rest, rfl, hg1, hg2, hg3, hg4, b2⟩
  have HWD : Hid (∀ V, Txt.Tab V → Calls Tryz.prog 79 #[.int .i32 r] V fun e w' => e = .returned (.int .i64 (k : Int)) ∧ Below V.heap.size V w') := fun V hV => by
    rw [← hk]
    exact Txt.width_any r V hV
  have HMC : Hid (∀ (V : World) (g : Nat), V.heap[g]? = some (.cells #[.int .i32 r, .int .i64 s.sf, .int .i64 s.sb, .int .i64 s.sx, .int .i32 0, .int .i64 s.sf, .int .i64 s.sb, .int .i64 s.sx] 91 (0, 0)) → CellsAt V g 0 (cellsW (s.sf, s.sb, s.sx) r)) := fun V g h j hj => by
    have hj2 : j = 0 ∨ (j = 1 ∧ wd r = 2) := by
      rw [hml] at hj
      omega
    have e : ∀ i v, (#[.int .i32 r, .int .i64 s.sf, .int .i64 s.sb, .int .i64 s.sx, .int .i32 0, .int .i64 s.sf, .int .i64 s.sb, .int .i64 s.sx] : Array Value)[i]? = some v → V.cell? ⟨g, i, none⟩ = some v := fun i v hv => by
      unfold World.cell?
      rw [h]
      exact hv
    rcases hj2 with rfl | ⟨rfl, h2⟩
    · have e0 : (cellsW (s.sf, s.sb, s.sx) r).getD 0 z0 = (r, s.sf, s.sb, s.sx) := by
        unfold cellsW
        split <;> rfl
      rw [e0]
      exact ⟨e _ _ rfl, e _ _ rfl, e _ _ rfl, e _ _ rfl⟩
    · have e0 : (cellsW (s.sf, s.sb, s.sx) r).getD 1 z0 = (0, s.sf, s.sb, s.sx) := by
        unfold cellsW
        rw [if_pos h2]
        rfl
      rw [e0]
      exact ⟨e _ _ rfl, e _ _ rfl, e _ _ rfl, e _ _ rfl⟩
  have TX : Hid (∀ V, Below (W.alloc (.cells #[.pointer (some ⟨p, 0, none⟩)] 57)).heap.size (W.alloc (.cells #[.pointer (some ⟨p, 0, none⟩)] 57)) V → Txt.Tab V) := fun V hV => Grd.Tab.next (Grd.Tab.next hT kb) hV
  have HX0 : Hid _ := hx0
  have HKB : Hid _ := kb
  have hNW : N ≤ W.heap.size := by have := hS.lo; have := heap_lt hS.blk; omega
  obtain ⟨⟨-, -, -, -, c4, -, c6, c7, c8, -⟩, -, -⟩ := sh_cells (hS.next kb).blk
  rw [hyy] at c4
  have q1 := cell_one' hx0
  have hk2 : (k : Int) ≤ 2 := by omega
  have hk0 : (0 : Int) ≤ (k : Int) := by omega
  clear hS hT hrow hx hyy hz hst hr hfit kb hx0 hrr hlen hal hov hml hk hk1 hxk
  go_enter Tryz.func85, Tryz.ntmps85
  go_upto_region 1 with fail
  generalize W.alloc (.cells #[.pointer (some ⟨p, 0, none⟩)] 57) = X at *
  go_cut [4] from 4 to 21 (fun c wx => ∃ Bc g, c = .pointer (some ⟨Bc, 0, none⟩) ∧ Brush X wx Bc g k (cellsW (s.sf, s.sb, s.sx) r))
  case first =>
    refine wp_region_noPanic ?_
    have e0 : (fun w' => w'.cell? ⟨W.heap.size, 0, none⟩ = some (.pointer (some ⟨p, 0, none⟩)) ∧ w'.cell? ⟨p, 6, none⟩ = some (.int .i64 s.sf) ∧ w'.cell? ⟨p, 7, none⟩ = some (.int .i64 s.sb) ∧ w'.cell? ⟨p, 8, none⟩ = some (.int .i64 s.sx)) X.drew := ⟨q1, c6, c7, c8⟩
    have k0 : Below X.heap.size X X.drew := (Below.refl _ _).drew
    have l1 := World.block_lt_of_cell? X _ q1
    have l2 := World.block_lt_of_cell? X _ c6
    clear q1 c4 c6 c7 c8
    refine wp_region_held_drew (S := (fun w' => w'.cell? ⟨W.heap.size, 0, none⟩ = some (.pointer (some ⟨p, 0, none⟩)) ∧ w'.cell? ⟨p, 6, none⟩ = some (.int .i64 s.sf) ∧ w'.cell? ⟨p, 7, none⟩ = some (.int .i64 s.sb) ∧ w'.cell? ⟨p, 8, none⟩ = some (.int .i64 s.sx))) (by kernel_rfl) e0 (fun hHeld => ?_)
    generalize X.drew = Z0 at *
    refine wpAnyH_take (i := 0) (oi := _) (v := ?_) rfl (by kernel_rfl) (by kernel_rfl) (by kernel_rfl) (fun _ _ _ h => h) (Or.inl ⟨by rfl, ?_⟩) hHeld ?_
    rotate_left
    · intro w hSw
      (try dsimp only at hSw)
      go_simp
      (try with_reducible rfl)
    (try simp only [Act.put, List.setIfInBounds_toArray, List.set_cons_zero, List.set_cons_succ])
    refine wpAnyH_take (i := 1) (oi := _) (v := ?_) rfl (by kernel_rfl) (by kernel_rfl) (by kernel_rfl) (fun _ _ _ h => h) (Or.inl ⟨by rfl, ?_⟩) hHeld ?_
    rotate_left
    · intro w hSw
      (try dsimp only at hSw)
      go_simp
      (try with_reducible rfl)
    (try simp only [Act.put, List.setIfInBounds_toArray, List.set_cons_zero, List.set_cons_succ])
    refine wpAnyH_take (i := 2) (oi := _) (v := ?_) rfl (by kernel_rfl) (by kernel_rfl) (by kernel_rfl) (fun _ _ _ h => h) (Or.inl ⟨by rfl, ?_⟩) hHeld ?_
    rotate_left
    · intro w hSw
      (try dsimp only at hSw)
      go_simp
      (try with_reducible rfl)
    (try simp only [Act.put, List.setIfInBounds_toArray, List.set_cons_zero, List.set_cons_succ])
    refine wpAnyH_take (i := 3) (oi := _) (v := ?_) rfl (by kernel_rfl) (by kernel_rfl) (by kernel_rfl) (fun _ _ _ h => h) (Or.inl ⟨by rfl, ?_⟩) hHeld ?_
    rotate_left
    · intro w hSw
      (try dsimp only at hSw)
      go_simp
      (try with_reducible rfl)
    (try simp only [Act.put, List.setIfInBounds_toArray, List.set_cons_zero, List.set_cons_succ])
    refine wpAnyH_take (i := 4) (oi := _) (v := ?_) rfl (by kernel_rfl) (by kernel_rfl) (by kernel_rfl) (fun _ _ _ h => h) (Or.inl ⟨by rfl, ?_⟩) hHeld ?_
    rotate_left
    · intro w hSw
      (try dsimp only at hSw)
      go_simp
      (try with_reducible rfl)
    (try simp only [Act.put, List.setIfInBounds_toArray, List.set_cons_zero, List.set_cons_succ])
    refine wpAnyH_take (i := 5) (oi := _) (v := ?_) rfl (by kernel_rfl) (by kernel_rfl) (by kernel_rfl) (fun _ _ _ h => h) (Or.inl ⟨by rfl, ?_⟩) hHeld ?_
    rotate_left
    · intro w hSw
      (try dsimp only at hSw)
      go_simp
      (try with_reducible rfl)
    (try simp only [Act.put, List.setIfInBounds_toArray, List.set_cons_zero, List.set_cons_succ])
    refine wpAnyH_take (i := 6) (oi := _) (v := ?_) rfl (by kernel_rfl) (by kernel_rfl) (by kernel_rfl) (fun _ _ _ h => h) (Or.inl ⟨by rfl, ?_⟩) hHeld ?_
    rotate_left
    · intro w hSw
      (try dsimp only at hSw)
      go_simp
      (try with_reducible rfl)
    (try simp only [Act.put, List.setIfInBounds_toArray, List.set_cons_zero, List.set_cons_succ])
    refine wpAnyH_take (i := 7) (oi := _) (v := ?_) rfl (by kernel_rfl) (by kernel_rfl) (by kernel_rfl) (fun _ _ _ h => h) (Or.inl ⟨by rfl, ?_⟩) hHeld ?_
    rotate_left
    · intro w hSw
      (try dsimp only at hSw)
      go_simp
      (try with_reducible rfl)
    (try simp only [Act.put, List.setIfInBounds_toArray, List.set_cons_zero, List.set_cons_succ])
    refine wpAnyH_take (i := 8) (oi := _) (v := ?_) rfl (by kernel_rfl) (by kernel_rfl) (by kernel_rfl) (fun _ _ _ h => h) (Or.inl ⟨by rfl, ?_⟩) hHeld ?_
    rotate_left
    · intro w hSw
      (try dsimp only at hSw)
      go_simp
      (try with_reducible rfl)
    (try simp only [Act.put, List.setIfInBounds_toArray, List.set_cons_zero, List.set_cons_succ])
    refine wpAnyH_take (i := 9) (oi := _) (v := ?_) rfl (by kernel_rfl) (by kernel_rfl) (by kernel_rfl) (fun _ _ _ h => h) (Or.inl ⟨by rfl, ?_⟩) hHeld ?_
    rotate_left
    · intro w hSw
      (try dsimp only at hSw)
      go_simp
      (try with_reducible rfl)
    (try simp only [Act.put, List.setIfInBounds_toArray, List.set_cons_zero, List.set_cons_succ])
    refine wpAnyH_take (i := 10) (oi := _) (v := ?_) rfl (by kernel_rfl) (by kernel_rfl) (by kernel_rfl) (fun _ _ _ h => h) (Or.inl ⟨by rfl, ?_⟩) hHeld ?_
    rotate_left
    · intro w hSw
      (try dsimp only at hSw)
      go_simp
      (try with_reducible rfl)
    (try simp only [Act.put, List.setIfInBounds_toArray, List.set_cons_zero, List.set_cons_succ])
    refine wpAnyH_take (i := 11) (oi := _) (v := ?_) rfl (by kernel_rfl) (by kernel_rfl) (by kernel_rfl) (fun _ _ _ h => h) (Or.inl ⟨by rfl, ?_⟩) hHeld ?_
    rotate_left
    · intro w hSw
      (try dsimp only at hSw)
      go_simp
      (try with_reducible rfl)
    (try simp only [Act.put, List.setIfInBounds_toArray, List.set_cons_zero, List.set_cons_succ])
    refine wpAnyH_take (i := 12) (oi := _) (v := ?_) rfl (by kernel_rfl) (by kernel_rfl) (by kernel_rfl) (fun _ _ _ h => h) (Or.inl ⟨by rfl, ?_⟩) hHeld ?_
    rotate_left
    · intro w hSw
      (try dsimp only at hSw)
      go_simp
      (try with_reducible rfl)
    (try simp only [Act.put, List.setIfInBounds_toArray, List.set_cons_zero, List.set_cons_succ])
    refine wpAnyH_take (i := 14) (oi := _) (v := ?_) rfl (by kernel_rfl) (by kernel_rfl) (by kernel_rfl) (fun _ _ _ h => h) (Or.inl ⟨by rfl, ?_⟩) hHeld ?_
    rotate_left
    · intro w hSw
      (try dsimp only at hSw)
      go_simp
      (try with_reducible rfl)
    (try simp only [Act.put, List.setIfInBounds_toArray, List.set_cons_zero, List.set_cons_succ])
    refine wpAnyH_ready (rs := [13, 15, 17]) (by kernel_rfl) (by simp) ?_
    refine AllReadyH.cons (o := _) rfl (fun K hK => ?_) <| AllReadyH.cons (o := _) rfl (fun K hK => ?_) <| AllReadyH.cons (o := _) rfl (fun K hK => ?_) <| AllReadyH.nil
    · go_simp
      have ak := al_below (.cells #[.int .i32 r, .int .i64 s.sf, .int .i64 s.sb, .int .i64 s.sx, .int .i32 0, .int .i64 s.sf, .int .i64 s.sb, .int .i64 s.sx] 91) k0
      have hg := heap_alloc_new _ (.cells #[.int .i32 r, .int .i64 s.sf, .int .i64 s.sb, .int .i64 s.sx, .int .i32 0, .int .i64 s.sf, .int .i64 s.sb, .int .i64 s.sx] 91) |> al_at k0
      have k1 := k0.alloc k0.size (.cells #[.int .i32 r, .int .i64 s.sf, .int .i64 s.sb, .int .i64 s.sx, .int .i32 0, .int .i64 s.sf, .int .i64 s.sb, .int .i64 s.sx] 91)
      have e1 := next4 ak e0
      clear ak
      refine hK.out _ _ e1 (fun hHeld => ?_)
      clear hK K
      (try simp only [Act.put, List.setIfInBounds_toArray, List.set_cons_zero, List.set_cons_succ])
      generalize Z0.alloc (.cells #[.int .i32 r, .int .i64 s.sf, .int .i64 s.sb, .int .i64 s.sx, .int .i32 0, .int .i64 s.sf, .int .i64 s.sb, .int .i64 s.sx] 91) = Z1 at *
      refine wpAnyH_ready (rs := [15, 17]) (by kernel_rfl) (by simp) ?_
      refine AllReadyH.cons (o := _) rfl (fun K hK => ?_) <| AllReadyH.cons (o := _) rfl (fun K hK => ?_) <| AllReadyH.nil
      · go_simp
        refine (HWD.out _ (TX.out _ k1)).mono ?_
        rintro e Z2 ⟨rfl, bv⟩
        have k2 := k1.trans (bv.mono k1.size)
        have e2 := next4 bv e1
        replace hg := Grd.carry hg bv
        clear bv
        go_wp2_with fail
        refine hK.out _ _ e2 (fun hHeld => ?_)
        clear hK K
        (try simp only [Act.put, List.setIfInBounds_toArray, List.set_cons_zero, List.set_cons_succ])
        refine wpAnyH_take (i := 16) (oi := _) (v := ?_) rfl (by kernel_rfl) (by kernel_rfl) (by kernel_rfl) (fun _ _ _ h => h) (Or.inl ⟨by rfl, ?_⟩) hHeld ?_
        rotate_left
        · intro w hSw
          (try dsimp only at hSw)
          go_simp
          (try with_reducible rfl)
        (try simp only [Act.put, List.setIfInBounds_toArray, List.set_cons_zero, List.set_cons_succ])
        refine wpAnyH_ready (rs := [17]) (by kernel_rfl) (by simp) ?_
        refine AllReadyH.cons (o := _) rfl (fun K hK => ?_) <| AllReadyH.nil
        · go_simp
          have ak := al_below (.cells #[.slice none 0 0] 22) k2
          replace hg := al_old (.cells #[.slice none 0 0] 22) hg
          have hb := heap_alloc_new _ (.cells #[.slice none 0 0] 22) |> al_at k2
          have lb := k2.size
          have k3 := k2.alloc k2.size (.cells #[.slice none 0 0] 22)
          have e3 := next4 ak e2
          clear ak
          refine hK.out _ _ e3 (fun hHeld => ?_)
          clear hK K
          (try simp only [Act.put, List.setIfInBounds_toArray, List.set_cons_zero, List.set_cons_succ])
          generalize Z2.alloc (.cells #[.slice none 0 0] 22) = Z3 at *
          have fb := Put.cell_one' hb
          have ff := Grd.frozen_of hb 0
          refine wpAnyH_ready (rs := [18]) (by kernel_rfl) (by simp) ?_
          refine AllReadyH.cons (o := _) rfl (fun K hK => ?_) AllReadyH.nil
          go_simp
          refine hK.out _ _ (off4 hb e3 (Nat.ne_of_gt (Nat.lt_of_lt_of_le l1 lb)) (Nat.ne_of_gt (Nat.lt_of_lt_of_le l2 lb))) (fun hHeld => ?_)
          clear hK K
          (try simp only [Act.put, List.setIfInBounds_toArray, List.set_cons_zero, List.set_cons_succ])
          refine wpAnyH_done (by kernel_rfl) ?_ _
          refine NoPanic.normal ?_
          go_wp2_with fail
          go_meet
          exact ⟨_, _, rfl, brush_of HMC.out hb hg k3 lb⟩
      · go_simp
        have ak := al_below (.cells #[.slice none 0 0] 22) k1
        replace hg := al_old (.cells #[.slice none 0 0] 22) hg
        have hb := heap_alloc_new _ (.cells #[.slice none 0 0] 22) |> al_at k1
        have lb := k1.size
        have k2 := k1.alloc k1.size (.cells #[.slice none 0 0] 22)
        have e2 := next4 ak e1
        clear ak
        refine hK.out _ _ e2 (fun hHeld => ?_)
        clear hK K
        (try simp only [Act.put, List.setIfInBounds_toArray, List.set_cons_zero, List.set_cons_succ])
        generalize Z1.alloc (.cells #[.slice none 0 0] 22) = Z2 at *
        refine wpAnyH_ready (rs := [15]) (by kernel_rfl) (by simp) ?_
        refine AllReadyH.cons (o := _) rfl (fun K hK => ?_) <| AllReadyH.nil
        · go_simp
          refine (HWD.out _ (TX.out _ k2)).mono ?_
          rintro e Z3 ⟨rfl, bv⟩
          have k3 := k2.trans (bv.mono k2.size)
          have e3 := next4 bv e2
          replace hg := Grd.carry hg bv
          replace hb := Grd.carry hb bv
          clear bv
          go_wp2_with fail
          refine hK.out _ _ e3 (fun hHeld => ?_)
          clear hK K
          (try simp only [Act.put, List.setIfInBounds_toArray, List.set_cons_zero, List.set_cons_succ])
          refine wpAnyH_take (i := 16) (oi := _) (v := ?_) rfl (by kernel_rfl) (by kernel_rfl) (by kernel_rfl) (fun _ _ _ h => h) (Or.inl ⟨by rfl, ?_⟩) hHeld ?_
          rotate_left
          · intro w hSw
            (try dsimp only at hSw)
            go_simp
            (try with_reducible rfl)
          (try simp only [Act.put, List.setIfInBounds_toArray, List.set_cons_zero, List.set_cons_succ])
          have fb := Put.cell_one' hb
          have ff := Grd.frozen_of hb 0
          refine wpAnyH_ready (rs := [18]) (by kernel_rfl) (by simp) ?_
          refine AllReadyH.cons (o := _) rfl (fun K hK => ?_) AllReadyH.nil
          go_simp
          refine hK.out _ _ (off4 hb e3 (Nat.ne_of_gt (Nat.lt_of_lt_of_le l1 lb)) (Nat.ne_of_gt (Nat.lt_of_lt_of_le l2 lb))) (fun hHeld => ?_)
          clear hK K
          (try simp only [Act.put, List.setIfInBounds_toArray, List.set_cons_zero, List.set_cons_succ])
          refine wpAnyH_done (by kernel_rfl) ?_ _
          refine NoPanic.normal ?_
          go_wp2_with fail
          go_meet
          exact ⟨_, _, rfl, brush_of HMC.out hb hg k3 lb⟩
    · go_simp
      refine (HWD.out _ (TX.out _ k0)).mono ?_
      rintro e Z1 ⟨rfl, bv⟩
      have k1 := k0.trans (bv.mono k0.size)
      have e1 := next4 bv e0
      clear bv
      go_wp2_with fail
      refine hK.out _ _ e1 (fun hHeld => ?_)
      clear hK K
      (try simp only [Act.put, List.setIfInBounds_toArray, List.set_cons_zero, List.set_cons_succ])
      refine wpAnyH_ready (rs := [13, 17]) (by kernel_rfl) (by simp) ?_
      refine AllReadyH.cons (o := _) rfl (fun K hK => ?_) <| AllReadyH.cons (o := _) rfl (fun K hK => ?_) <| AllReadyH.nil
      · go_simp
        have ak := al_below (.cells #[.int .i32 r, .int .i64 s.sf, .int .i64 s.sb, .int .i64 s.sx, .int .i32 0, .int .i64 s.sf, .int .i64 s.sb, .int .i64 s.sx] 91) k1
        have hg := heap_alloc_new _ (.cells #[.int .i32 r, .int .i64 s.sf, .int .i64 s.sb, .int .i64 s.sx, .int .i32 0, .int .i64 s.sf, .int .i64 s.sb, .int .i64 s.sx] 91) |> al_at k1
        have k2 := k1.alloc k1.size (.cells #[.int .i32 r, .int .i64 s.sf, .int .i64 s.sb, .int .i64 s.sx, .int .i32 0, .int .i64 s.sf, .int .i64 s.sb, .int .i64 s.sx] 91)
        have e2 := next4 ak e1
        clear ak
        refine hK.out _ _ e2 (fun hHeld => ?_)
        clear hK K
        (try simp only [Act.put, List.setIfInBounds_toArray, List.set_cons_zero, List.set_cons_succ])
        generalize Z1.alloc (.cells #[.int .i32 r, .int .i64 s.sf, .int .i64 s.sb, .int .i64 s.sx, .int .i32 0, .int .i64 s.sf, .int .i64 s.sb, .int .i64 s.sx] 91) = Z2 at *
        refine wpAnyH_take (i := 16) (oi := _) (v := ?_) rfl (by kernel_rfl) (by kernel_rfl) (by kernel_rfl) (fun _ _ _ h => h) (Or.inl ⟨by rfl, ?_⟩) hHeld ?_
        rotate_left
        · intro w hSw
          (try dsimp only at hSw)
          go_simp
          (try with_reducible rfl)
        (try simp only [Act.put, List.setIfInBounds_toArray, List.set_cons_zero, List.set_cons_succ])
        refine wpAnyH_ready (rs := [17]) (by kernel_rfl) (by simp) ?_
        refine AllReadyH.cons (o := _) rfl (fun K hK => ?_) <| AllReadyH.nil
        · go_simp
          have ak := al_below (.cells #[.slice none 0 0] 22) k2
          replace hg := al_old (.cells #[.slice none 0 0] 22) hg
          have hb := heap_alloc_new _ (.cells #[.slice none 0 0] 22) |> al_at k2
          have lb := k2.size
          have k3 := k2.alloc k2.size (.cells #[.slice none 0 0] 22)
          have e3 := next4 ak e2
          clear ak
          refine hK.out _ _ e3 (fun hHeld => ?_)
          clear hK K
          (try simp only [Act.put, List.setIfInBounds_toArray, List.set_cons_zero, List.set_cons_succ])
          generalize Z2.alloc (.cells #[.slice none 0 0] 22) = Z3 at *
          have fb := Put.cell_one' hb
          have ff := Grd.frozen_of hb 0
          refine wpAnyH_ready (rs := [18]) (by kernel_rfl) (by simp) ?_
          refine AllReadyH.cons (o := _) rfl (fun K hK => ?_) AllReadyH.nil
          go_simp
          refine hK.out _ _ (off4 hb e3 (Nat.ne_of_gt (Nat.lt_of_lt_of_le l1 lb)) (Nat.ne_of_gt (Nat.lt_of_lt_of_le l2 lb))) (fun hHeld => ?_)
          clear hK K
          (try simp only [Act.put, List.setIfInBounds_toArray, List.set_cons_zero, List.set_cons_succ])
          refine wpAnyH_done (by kernel_rfl) ?_ _
          refine NoPanic.normal ?_
          go_wp2_with fail
          go_meet
          exact ⟨_, _, rfl, brush_of HMC.out hb hg k3 lb⟩
      · go_simp
        have ak := al_below (.cells #[.slice none 0 0] 22) k1
        have hb := heap_alloc_new _ (.cells #[.slice none 0 0] 22) |> al_at k1
        have lb := k1.size
        have k2 := k1.alloc k1.size (.cells #[.slice none 0 0] 22)
        have e2 := next4 ak e1
        clear ak
        refine hK.out _ _ e2 (fun hHeld => ?_)
        clear hK K
        (try simp only [Act.put, List.setIfInBounds_toArray, List.set_cons_zero, List.set_cons_succ])
        generalize Z1.alloc (.cells #[.slice none 0 0] 22) = Z2 at *
        refine wpAnyH_ready (rs := [13]) (by kernel_rfl) (by simp) ?_
        refine AllReadyH.cons (o := _) rfl (fun K hK => ?_) <| AllReadyH.nil
        · go_simp
          have ak := al_below (.cells #[.int .i32 r, .int .i64 s.sf, .int .i64 s.sb, .int .i64 s.sx, .int .i32 0, .int .i64 s.sf, .int .i64 s.sb, .int .i64 s.sx] 91) k2
          replace hb := al_old (.cells #[.int .i32 r, .int .i64 s.sf, .int .i64 s.sb, .int .i64 s.sx, .int .i32 0, .int .i64 s.sf, .int .i64 s.sb, .int .i64 s.sx] 91) hb
          have hg := heap_alloc_new _ (.cells #[.int .i32 r, .int .i64 s.sf, .int .i64 s.sb, .int .i64 s.sx, .int .i32 0, .int .i64 s.sf, .int .i64 s.sb, .int .i64 s.sx] 91) |> al_at k2
          have k3 := k2.alloc k2.size (.cells #[.int .i32 r, .int .i64 s.sf, .int .i64 s.sb, .int .i64 s.sx, .int .i32 0, .int .i64 s.sf, .int .i64 s.sb, .int .i64 s.sx] 91)
          have e3 := next4 ak e2
          clear ak
          refine hK.out _ _ e3 (fun hHeld => ?_)
          clear hK K
          (try simp only [Act.put, List.setIfInBounds_toArray, List.set_cons_zero, List.set_cons_succ])
          generalize Z2.alloc (.cells #[.int .i32 r, .int .i64 s.sf, .int .i64 s.sb, .int .i64 s.sx, .int .i32 0, .int .i64 s.sf, .int .i64 s.sb, .int .i64 s.sx] 91) = Z3 at *
          refine wpAnyH_take (i := 16) (oi := _) (v := ?_) rfl (by kernel_rfl) (by kernel_rfl) (by kernel_rfl) (fun _ _ _ h => h) (Or.inl ⟨by rfl, ?_⟩) hHeld ?_
          rotate_left
          · intro w hSw
            (try dsimp only at hSw)
            go_simp
            (try with_reducible rfl)
          (try simp only [Act.put, List.setIfInBounds_toArray, List.set_cons_zero, List.set_cons_succ])
          have fb := Put.cell_one' hb
          have ff := Grd.frozen_of hb 0
          refine wpAnyH_ready (rs := [18]) (by kernel_rfl) (by simp) ?_
          refine AllReadyH.cons (o := _) rfl (fun K hK => ?_) AllReadyH.nil
          go_simp
          refine hK.out _ _ (off4 hb e3 (Nat.ne_of_gt (Nat.lt_of_lt_of_le l1 lb)) (Nat.ne_of_gt (Nat.lt_of_lt_of_le l2 lb))) (fun hHeld => ?_)
          clear hK K
          (try simp only [Act.put, List.setIfInBounds_toArray, List.set_cons_zero, List.set_cons_succ])
          refine wpAnyH_done (by kernel_rfl) ?_ _
          refine NoPanic.normal ?_
          go_wp2_with fail
          go_meet
          exact ⟨_, _, rfl, brush_of HMC.out hb hg k3 lb⟩
    · go_simp
      have ak := al_below (.cells #[.slice none 0 0] 22) k0
      have hb := heap_alloc_new _ (.cells #[.slice none 0 0] 22) |> al_at k0
      have lb := k0.size
      have k1 := k0.alloc k0.size (.cells #[.slice none 0 0] 22)
      have e1 := next4 ak e0
      clear ak
      refine hK.out _ _ e1 (fun hHeld => ?_)
      clear hK K
      (try simp only [Act.put, List.setIfInBounds_toArray, List.set_cons_zero, List.set_cons_succ])
      generalize Z0.alloc (.cells #[.slice none 0 0] 22) = Z1 at *
      refine wpAnyH_ready (rs := [13, 15]) (by kernel_rfl) (by simp) ?_
      refine AllReadyH.cons (o := _) rfl (fun K hK => ?_) <| AllReadyH.cons (o := _) rfl (fun K hK => ?_) <| AllReadyH.nil
      · go_simp
        have ak := al_below (.cells #[.int .i32 r, .int .i64 s.sf, .int .i64 s.sb, .int .i64 s.sx, .int .i32 0, .int .i64 s.sf, .int .i64 s.sb, .int .i64 s.sx] 91) k1
        replace hb := al_old (.cells #[.int .i32 r, .int .i64 s.sf, .int .i64 s.sb, .int .i64 s.sx, .int .i32 0, .int .i64 s.sf, .int .i64 s.sb, .int .i64 s.sx] 91) hb
        have hg := heap_alloc_new _ (.cells #[.int .i32 r, .int .i64 s.sf, .int .i64 s.sb, .int .i64 s.sx, .int .i32 0, .int .i64 s.sf, .int .i64 s.sb, .int .i64 s.sx] 91) |> al_at k1
        have k2 := k1.alloc k1.size (.cells #[.int .i32 r, .int .i64 s.sf, .int .i64 s.sb, .int .i64 s.sx, .int .i32 0, .int .i64 s.sf, .int .i64 s.sb, .int .i64 s.sx] 91)
        have e2 := next4 ak e1
        clear ak
        refine hK.out _ _ e2 (fun hHeld => ?_)
        clear hK K
        (try simp only [Act.put, List.setIfInBounds_toArray, List.set_cons_zero, List.set_cons_succ])
        generalize Z1.alloc (.cells #[.int .i32 r, .int .i64 s.sf, .int .i64 s.sb, .int .i64 s.sx, .int .i32 0, .int .i64 s.sf, .int .i64 s.sb, .int .i64 s.sx] 91) = Z2 at *
        refine wpAnyH_ready (rs := [15]) (by kernel_rfl) (by simp) ?_
        refine AllReadyH.cons (o := _) rfl (fun K hK => ?_) <| AllReadyH.nil
        · go_simp
          refine (HWD.out _ (TX.out _ k2)).mono ?_
          rintro e Z3 ⟨rfl, bv⟩
          have k3 := k2.trans (bv.mono k2.size)
          have e3 := next4 bv e2
          replace hg := Grd.carry hg bv
          replace hb := Grd.carry hb bv
          clear bv
          go_wp2_with fail
          refine hK.out _ _ e3 (fun hHeld => ?_)
          clear hK K
          (try simp only [Act.put, List.setIfInBounds_toArray, List.set_cons_zero, List.set_cons_succ])
          refine wpAnyH_take (i := 16) (oi := _) (v := ?_) rfl (by kernel_rfl) (by kernel_rfl) (by kernel_rfl) (fun _ _ _ h => h) (Or.inl ⟨by rfl, ?_⟩) hHeld ?_
          rotate_left
          · intro w hSw
            (try dsimp only at hSw)
            go_simp
            (try with_reducible rfl)
          (try simp only [Act.put, List.setIfInBounds_toArray, List.set_cons_zero, List.set_cons_succ])
          have fb := Put.cell_one' hb
          have ff := Grd.frozen_of hb 0
          refine wpAnyH_ready (rs := [18]) (by kernel_rfl) (by simp) ?_
          refine AllReadyH.cons (o := _) rfl (fun K hK => ?_) AllReadyH.nil
          go_simp
          refine hK.out _ _ (off4 hb e3 (Nat.ne_of_gt (Nat.lt_of_lt_of_le l1 lb)) (Nat.ne_of_gt (Nat.lt_of_lt_of_le l2 lb))) (fun hHeld => ?_)
          clear hK K
          (try simp only [Act.put, List.setIfInBounds_toArray, List.set_cons_zero, List.set_cons_succ])
          refine wpAnyH_done (by kernel_rfl) ?_ _
          refine NoPanic.normal ?_
          go_wp2_with fail
          go_meet
          exact ⟨_, _, rfl, brush_of HMC.out hb hg k3 lb⟩
      · go_simp
        refine (HWD.out _ (TX.out _ k1)).mono ?_
        rintro e Z2 ⟨rfl, bv⟩
        have k2 := k1.trans (bv.mono k1.size)
        have e2 := next4 bv e1
        replace hb := Grd.carry hb bv
        clear bv
        go_wp2_with fail
        refine hK.out _ _ e2 (fun hHeld => ?_)
        clear hK K
        (try simp only [Act.put, List.setIfInBounds_toArray, List.set_cons_zero, List.set_cons_succ])
        refine wpAnyH_ready (rs := [13]) (by kernel_rfl) (by simp) ?_
        refine AllReadyH.cons (o := _) rfl (fun K hK => ?_) <| AllReadyH.nil
        · go_simp
          have ak := al_below (.cells #[.int .i32 r, .int .i64 s.sf, .int .i64 s.sb, .int .i64 s.sx, .int .i32 0, .int .i64 s.sf, .int .i64 s.sb, .int .i64 s.sx] 91) k2
          replace hb := al_old (.cells #[.int .i32 r, .int .i64 s.sf, .int .i64 s.sb, .int .i64 s.sx, .int .i32 0, .int .i64 s.sf, .int .i64 s.sb, .int .i64 s.sx] 91) hb
          have hg := heap_alloc_new _ (.cells #[.int .i32 r, .int .i64 s.sf, .int .i64 s.sb, .int .i64 s.sx, .int .i32 0, .int .i64 s.sf, .int .i64 s.sb, .int .i64 s.sx] 91) |> al_at k2
          have k3 := k2.alloc k2.size (.cells #[.int .i32 r, .int .i64 s.sf, .int .i64 s.sb, .int .i64 s.sx, .int .i32 0, .int .i64 s.sf, .int .i64 s.sb, .int .i64 s.sx] 91)
          have e3 := next4 ak e2
          clear ak
          refine hK.out _ _ e3 (fun hHeld => ?_)
          clear hK K
          (try simp only [Act.put, List.setIfInBounds_toArray, List.set_cons_zero, List.set_cons_succ])
          generalize Z2.alloc (.cells #[.int .i32 r, .int .i64 s.sf, .int .i64 s.sb, .int .i64 s.sx, .int .i32 0, .int .i64 s.sf, .int .i64 s.sb, .int .i64 s.sx] 91) = Z3 at *
          refine wpAnyH_take (i := 16) (oi := _) (v := ?_) rfl (by kernel_rfl) (by kernel_rfl) (by kernel_rfl) (fun _ _ _ h => h) (Or.inl ⟨by rfl, ?_⟩) hHeld ?_
          rotate_left
          · intro w hSw
            (try dsimp only at hSw)
            go_simp
            (try with_reducible rfl)
          (try simp only [Act.put, List.setIfInBounds_toArray, List.set_cons_zero, List.set_cons_succ])
          have fb := Put.cell_one' hb
          have ff := Grd.frozen_of hb 0
          refine wpAnyH_ready (rs := [18]) (by kernel_rfl) (by simp) ?_
          refine AllReadyH.cons (o := _) rfl (fun K hK => ?_) AllReadyH.nil
          go_simp
          refine hK.out _ _ (off4 hb e3 (Nat.ne_of_gt (Nat.lt_of_lt_of_le l1 lb)) (Nat.ne_of_gt (Nat.lt_of_lt_of_le l2 lb))) (fun hHeld => ?_)
          clear hK K
          (try simp only [Act.put, List.setIfInBounds_toArray, List.set_cons_zero, List.set_cons_succ])
          refine wpAnyH_done (by kernel_rfl) ?_ _
          refine NoPanic.normal ?_
          go_wp2_with fail
          go_meet
          exact ⟨_, _, rfl, brush_of HMC.out hb hg k3 lb⟩
  case rest =>
    obtain ⟨Bc, g, rfl, lb, hb, hM, kx⟩ := hcut
    have HM : Hid (CellsAt wc g 0 (cellsW (s.sf, s.sb, s.sx) r)) := hM
    have d0 := cell_stay kx q1
    have d4 := cell_stay kx c4
    have fb := cell_one' hb
    have HKC : Hid (Below W.heap.size W wc) := HKB.out.trans (kx.mono HKB.out.size)
    have HR := HA.out wc.drew Bc g (HKC.out.drew) d0 fb HM.out
    clear q1 c4 c6 c7 c8 hb hM kx HM fb HA
    go_upto_region 2 with fail
    go_region_with (first | (go_at_call 107; refine HR.mono ?_; rintro e V ⟨rfl, hV, bV, fV⟩))
    all_goals go_wp2_with fail
    all_goals go_end0
    all_goals exact ⟨rfl, hV, (HKC.out.drew.mono hNW).trans bV, (Framed.of_below HKC.out.drew).trans fV⟩
end Put
end Go.Proofs.YtnkeahfcpbepjaaGreatDoor
