/- The reference's desk: Roll, down. -/
import Derived.Test.YtjmiifegjghliaaGreatDoorPartP
import Derived.Test.YtjmiifegjghliaaGreatDoorPartO
import Derived.BigRegion
import Derived.Test.YtjmiifegjghliaaGreatDoorPartI
import Derived.Deep.RegionHeld3
import Derived.BigQuiet
import Derived.Deep.RegionWith
namespace Go.Proofs.YtjmiifegjghliaaGreatDoor
open Go.ChangeShapes Go.WideShapes Go.ChangeAt Go.RowKit
namespace Put
open Grd (C SliceAt CellsAt gridErr z0 nilV flat rowsL OwnG RowB RowsAt)
set_option linter.unusedSimpArgs false in
set_option maxHeartbeats 8000000 in
set_option maxRecDepth 100000 in
theorem roll_dn (N p n top bot hh K : Nat) (bk : Int) (s : Scr) (rows : List (List C)) (W : World) (keep : Bool) (m : Int) (hD : DkAt W N p s rows) (hR : Rolls n bot hh bk (s, rows)) (hn1 : 1 ≤ n) (hn2 : n ≤ 120) (htb : top ≤ bot) (hbh : bot < hh) (hh60 : hh ≤ 60) (hK : max (-((bot : Int) - top + 1)) (min m ((bot : Int) - top + 1)) = -(K : Int)) :
    Calls Tryz.prog 66 #[.pointer (some ⟨p, 0, none⟩), .int .i64 (top : Int), .int .i64 m, .bool keep] W fun e W' => e = .returned (.tuple #[]) ∧ DkAt W' N p (iterN (rDn n top bot) K (s, rows)).1 (iterN (rDn n top bot) K (s, rows)).2 ∧ Below N W W' := by
  obtain ⟨c0, c1, c3, c4, c5, c9, c10, c11, c19, f⟩ := hD.words
  have hb0 : s.bot = bot := hR.b
  rw [hb0] at c10
  have h1 := Grd.min2 m ((bot : Int) - top + 1)
  have h2 := Grd.max2 (-((bot : Int) - top + 1)) (min m ((bot : Int) - top + 1))
  rw [hK] at h2
  have HD : Hid (DkAt W N p s rows) := hD
  have HR : Hid (Rolls n bot hh bk (s, rows)) := hR
  have hw1 : IntKind.i64.wrap ((bot : Int) - top) = (bot : Int) - top := wrap_id _ (by omega) (by omega)
  have hw2 : IntKind.i64.wrap ((bot : Int) - top + 1) = (bot : Int) - top + 1 := wrap_id _ (by omega) (by omega)
  have hw3 : IntKind.i64.wrap (-((bot : Int) - top + 1)) = -((bot : Int) - top + 1) := wrap_id _ (by omega) (by omega)
  have hKle : K ≤ 60 := by omega
  clear hD hR c0 c1 c3 c4 c5 c9 c11 c19 f hK hb0
  go_enter Tryz.func66, Tryz.ntmps66
  go_wp2_with fail
  go_loopg [2] 0 (fun _ v wr => v = .int .i64 (-(K : Int)) ∧ wr = W)
  case atStart => exact ⟨rfl, rfl⟩
  case round =>
    obtain ⟨rfl, hww⟩ := hrel
    have hww := hww.symm
    subst hww
    have lt0 : ¬ ((0 : Int) < -(K : Int)) := by omega
    go_wp2_with fail
    go_loopg [2] K (fun q v w2 => ∃ k j : Nat, v = .int .i64 (-(k : Int)) ∧ k ≤ q ∧ k + j = K ∧ Rolls n bot hh bk (iterN (rDn n top bot) j (s, rows)) ∧ DkAt w2 N p (iterN (rDn n top bot) j (s, rows)).1 (iterN (rDn n top bot) j (s, rows)).2 ∧ Below N W w2)
    case atStart => exact ⟨K, 0, rfl, Nat.le_refl _, by omega, HR.out, HD.out, Below.refl _ _⟩
    case round =>
      obtain ⟨k, j, rfl, hkq, hkj, hRj, hDj, hBj⟩ := hrel
      by_cases hk0 : k = 0
      · subst hk0
        have ej : j = K := by omega
        subst ej
        go_wp2_with fail
        go_end0
        exact ⟨rfl, hDj, hBj⟩
      · have lt1 : -(k : Int) < 0 := by omega
        have HN : Hid (iterN (rDn n top bot) (j + 1) (s, rows) = rDn n top bot (iterN (rDn n top bot) j (s, rows))) := rfl
        have hw4 : IntKind.i64.wrap (-(k : Int) + 1) = -((k - 1 : Nat) : Int) := by rw [wrap_id _ (by omega) (by omega)]; omega
        generalize iterN (rDn n top bot) j (s, rows) = x at hRj hDj HN
        obtain ⟨cv, tv, gv, rv, gvs, vs, gs, hA⟩ := hDj
        have hrl := hRj.r
        have hwn := hRj.w
        have hbn := hRj.b
        obtain ⟨rb, rc, hrv, hrb, hrc1, hrc2, hvl, hrcell, A, hrA⟩ := own_cells hA.rws (by omega)
        subst hrv
        have hpr : p ≠ rb := by
          intro e
          rw [← e, hA.blk] at hrA
          injection hrA with hrA
          injection hrA with _ hrA _
          exact absurd hrA (by decide)
        have b0 : Below wr.heap.size wr wr.drew := (Below.refl _ _).drew
        have hX := hA.next b0
        obtain ⟨⟨d0, -, -, -, -, -, -, d7, -, -, d10⟩, ⟨-, -, -, -, -, -, -, -, -, -, -, d22⟩, -⟩ := sh_cells hX.blk
        rw [hwn] at d0
        rw [hbn] at d10
        have HRN : Hid (Rolls n bot hh bk (iterN (rDn n top bot) (j + 1) (s, rows))) := by rw [Hid, HN.out]; exact hRj.dn top (by omega) hbh
        have HDel := delete_own N rb x.2.length rc bot vs wr.drew hX.rws (RowsAt.sls hX.rin) (by omega)
        rw [show ((bot + 1 : Nat) : Int) = (bot : Int) + 1 by omega] at HDel
        have HEM : Hid (∀ V1 : World, (∀ q, q ≠ rb → V1.heap[q]? = wr.drew.heap[q]?) → Calls Tryz.prog 62 #[.pointer (some ⟨p, 0, none⟩)] V1 fun e W' => ∃ v g, e = .returned v ∧ V1.heap.size ≤ g ∧ RowB W' g v (List.replicate n (32, 0, x.1.sb, 0)) ∧ Below V1.heap.size V1 W') := fun V1 h1 => by
          have hp1 := (h1 p hpr).trans hX.blk
          obtain ⟨⟨q0, -, -, -, -, -, -, q7, -⟩, -, -⟩ := sh_cells hp1
          rw [hwn] at q0
          exact emptyS_any p n x.1.sb V1 q0 q7 hn1 hn2
        have HINS : Hid (∀ (V1 V2 : World) (a : Option Addr) (c g : Nat), V1.ownsRow N 22 1 (.slice (some ⟨rb, 0, none⟩) (x.2.length - 1) rc) (x.2.length - 1) (vs.eraseIdx bot) → (∀ q, q ≠ rb → V1.heap[q]? = wr.drew.heap[q]?) → Below rb wr.drew V1 → Below V1.heap.size V1 V2 → V1.heap.size ≤ g → RowB V2 g (.slice a n c) (List.replicate n (32, 0, x.1.sb, 0)) → _) := fun V1 V2 a c g z1 z2 z3 z4 z5 z6 => roll_ins (fresh := top) hX.x (fun i hi hn q hq hm => hX.gof i hi hn q hq (List.mem_of_mem_eraseIdx hm)) hbn hrc1 (by omega) (by omega) V1 V2 a c g z1 z2 z3 z4 z5 z6
        have HB : Hid (Below N W wr.drew) := hBj.drew
        have HX : Hid (DkA wr.drew N p x.1 x.2 cv tv gv (.slice (some ⟨rb, 0, none⟩) x.2.length rc) gvs vs gs) := hX
        have hwb : IntKind.i64.wrap ((bot : Int) + 1) = (bot : Int) + 1 := wrap_id _ (by omega) (by omega)
        clear hA hX hrA hrcell hvl hRj hBj HD HR h1 h2 hw1 hw2 hw3 c10 d0 d7 lt0
        have SK : Hid (∀ V : World, (∀ q, q < wr.heap.size → q ≠ rb → V.heap[q]? = wr.drew.heap[q]?) → V.cell? ⟨p, 10, none⟩ = some (.int .i64 (bot : Int)) ∧ V.cell? ⟨p, 22, none⟩ = some (.slice (some ⟨rb, 0, none⟩) x.2.length rc)) := fun V h => by
          have hp1 := (h p (heap_lt HX.out.blk) hpr).trans HX.out.blk
          obtain ⟨⟨-, -, -, -, -, -, -, -, -, -, q10⟩, ⟨-, -, -, -, -, -, -, -, -, -, -, q22⟩, -⟩ := sh_cells hp1
          rw [hbn] at q10
          exact ⟨q10, q22⟩
        clear hrl hwn hbn
        go_upto_region 11 with fail
        have e0 := SK.out wr.drew (fun _ _ _ => rfl)
        go_region_held3 (fun w' => w'.cell? ⟨p, 10, none⟩ = some (.int .i64 (bot : Int)) ∧ w'.cell? ⟨p, 22, none⟩ = some (.slice (some ⟨rb, 0, none⟩) x.2.length rc))
          (first | exact e5 | exact e4 | exact e3 | exact e2 | exact e1 | exact e0)
          (first
            | (go_at_call 102; refine HDel.mono ?_; rintro e V1 ⟨rfl, hO1, hk1, hb1⟩; have HE1 := HEM.out V1 hk1; have e1 := SK.out V1 (fun q _ hn => hk1 q hn))
            | (go_at_call 62; refine HE1.mono ?_; rintro e V2 ⟨v, g, rfl, hg1, hR2, b2⟩; obtain ⟨na, nc, hv2⟩ := rowB_shapeS hR2; rw [List.length_replicate] at hv2; subst hv2; have hI := HINS.out V1 V2 na nc g hO1 hk1 hb1 b2 hg1 hR2; have e2 := SK.out V2 (fun q hq hn => (b2.block q (Nat.lt_of_lt_of_le hq hb1.size)).trans (hk1 q hn)); have e3 := SK.out (V2.alloc (.cells #[.slice na n nc] 22)) (fun q hq hn => (Below.heap_alloc _ _ _ (Nat.lt_of_lt_of_le hq (Nat.le_trans hb1.size b2.size))).trans ((b2.block q (Nat.lt_of_lt_of_le hq hb1.size)).trans (hk1 q hn))))
            | (go_at_call 101; refine hI.mono ?_; rintro e V3 ⟨rfl, z10, z22, zf, HFI⟩; have e4 := And.intro z10 z22; have e5 : (V3.setCell ⟨p, 22, none⟩ (.slice (some ⟨rb, 0, none⟩) x.2.length rc)).cell? ⟨p, 10, none⟩ = some (.int .i64 (bot : Int)) ∧ (V3.setCell ⟨p, 22, none⟩ (.slice (some ⟨rb, 0, none⟩) x.2.length rc)).cell? ⟨p, 22, none⟩ = some (.slice (some ⟨rb, 0, none⟩) x.2.length rc) := HFI.out.1))
        all_goals go_wp2_with fail
        all_goals go_roundg (k - 1)
        case measure => omega
        case rel => exact ⟨k - 1, j + 1, by first | rfl | simp, Nat.le_refl _, by omega, HRN.out, by rw [HN.out]; exact HFI.out.2.1, HB.out.trans HFI.out.2.2⟩
end Put
end Go.Proofs.YtjmiifegjghliaaGreatDoor

/- The reference's desk: Feed; Act: feed, back. -/
namespace Go.Proofs.YtjmiifegjghliaaGreatDoor
open Go.ChangeShapes Go.WideShapes Go.ChangeAt Go.RowKit
namespace Put
open Grd (C SliceAt CellsAt gridErr z0 nilV flat rowsL)
theorem rUp_up (n top bot : Nat) (s : Scr) (rows : List (List C)) : rUp n top bot true (s, rows) = (upS s rows top, replR rows n s.sb top bot) := by
  unfold rUp upS
  simp
/-- A row further. -/
def dfeedS (s : Scr) (rows : List (List C)) (top : Nat) : Scr := if s.y = s.bot then upS { s with late := false } rows top else { s with late := false, y := min (s.y + 1) (s.h - 1) }
def dfeedR (s : Scr) (rows : List (List C)) (n top bot : Nat) : List (List C) := if s.y = s.bot then replR rows n s.sb top bot else rows
set_option maxHeartbeats 4000000 in
set_option maxRecDepth 100000 in
theorem dfeed_any (N p n top bot hh : Nat) (s : Scr) (rows : List (List C)) (W : World) (hD : DkAt W N p s rows) (hR : Rolls n bot hh s.sb (s, rows)) (ht : s.top = top) (hn1 : 1 ≤ n) (hn2 : n ≤ 120) (htb : top ≤ bot) (hbh : bot < hh) (hh60 : hh ≤ 60) (hy0 : 0 ≤ s.y) (hy1 : s.y ≤ 60) (hh0 : 0 ≤ s.h) (hh1 : s.h ≤ 60) :
    Calls Tryz.prog 54 #[.pointer (some ⟨p, 0, none⟩)] W fun e W' => e = .returned (.tuple #[]) ∧ DkAt W' N p (dfeedS s rows top) (dfeedR s rows n top bot) ∧ Below N W W' := by
  obtain ⟨c0, c1, c3, c4, c5, c9, c10, c11, c19, f⟩ := hD.words
  have f5 := f 5
  have HD1 : Hid (DkAt (W.setCell ⟨p, 5, none⟩ (.bool false)) N p { s with late := false } rows) := hD.set 5 _ (fun _ _ _ _ => rfl) rfl rfl
  have HB1 : Hid (Below N W (W.setCell ⟨p, 5, none⟩ (.bool false))) := (Below.refl _ _).setCell hD.lo _
  have HRL : Hid (∀ V, DkAt V N p { s with late := false } rows → Calls Tryz.prog 66 #[.pointer (some ⟨p, 0, none⟩), .int .i64 (top : Int), .int .i64 1, .bool true] V fun e W' => e = .returned (.tuple #[]) ∧ DkAt W' N p (upS { s with late := false } rows top) (replR rows n s.sb top bot) ∧ Below N V W') := fun V h => by
    have key := roll_up N p n top bot hh 1 s.sb { s with late := false } rows V true 1 h ⟨hR.w, hR.b, rfl, hR.r, hR.g⟩ hn1 hn2 htb hbh hh60 (by omega)
    have e : iterN (rUp n top bot true) 1 ({ s with late := false }, rows) = (upS { s with late := false } rows top, replR rows n s.sb top bot) := rUp_up n top bot { s with late := false } rows
    rw [e] at key
    exact key
  have HT : Hid (s.top = top) := ht
  have HLO : Hid (N ≤ p) := hD.lo
  clear hD hR ht c0 c1 c3 c4 c9 c10 c11 c19 f
  unfold dfeedS dfeedR
  by_cases hq0 : s.y = s.bot
  · rw [if_pos hq0, if_pos hq0]
    have hq : (s.y == s.bot) = true := by rw [beq_iff_eq]; exact hq0
    clear hq0
    generalize upS { s with late := false } rows top = s' at *
    generalize replR rows n s.sb top bot = rows' at *
    go_enter Tryz.func54, Tryz.ntmps54
    go_upto_region 1 with fail
    obtain ⟨-, -, -, d4, -, d9, d10, -, -, df⟩ := HD1.out.words
    clear c5 f5 df
    generalize (W.setCell ⟨p, 5, none⟩ (.bool false)) = X at *
    go_region
    have HSd : Hid (DkAt X.drew N p { s with late := false } rows) := HD1.out.next ((Below.refl _ _).drew)
    have HB2 : Hid (Below N W X.drew) := HB1.out.drew
    clear d4 d9 d10 HD1 HB1
    generalize X.drew = Y at *
    obtain ⟨-, -, -, -, -, d9, -, -, -, df⟩ := HSd.out.words
    replace d9 : Y.cell? ⟨p, 9, none⟩ = some (.int .i64 s.top) := d9
    rw [HT.out] at d9
    have HU2 := HRL.out Y HSd.out
    clear df HRL HSd
    go_wp2_with fail
    refine HU2.mono ?_
    rintro e V ⟨rfl, hS2, hB3⟩
    go_wp2_with fail
    go_end0
    exact ⟨rfl, hS2, HB2.out.trans hB3⟩
  · rw [if_neg hq0, if_neg hq0]
    have hq : (s.y == s.bot) = false := by rw [beq_eq_false_iff_ne]; exact hq0
    have hmn := Grd.min2 (s.y + 1) (s.h - 1)
    clear hq0 HRL
    go_enter Tryz.func54, Tryz.ntmps54
    go_upto_region 1 with fail
    obtain ⟨-, -, -, d4, -, d9, d10, -, -, df⟩ := HD1.out.words
    clear c5 f5 df
    generalize (W.setCell ⟨p, 5, none⟩ (.bool false)) = X at *
    go_region
    have HSd : Hid (DkAt X.drew N p { s with late := false } rows) := HD1.out.next ((Below.refl _ _).drew)
    have HB2 : Hid (Below N W X.drew) := HB1.out.drew
    clear d4 d9 d10 HD1 HB1
    generalize X.drew = Y at *
    obtain ⟨-, d1, -, d4, -, -, -, -, -, df⟩ := HSd.out.words
    replace d4 : Y.cell? ⟨p, 4, none⟩ = some (.int .i64 s.y) := d4
    replace d1 : Y.cell? ⟨p, 1, none⟩ = some (.int .i64 s.h) := d1
    have g4 := df 4
    have hw1 : IntKind.i64.wrap (s.y + 1) = s.y + 1 := wrap_id _ (by omega) (by omega)
    have hw2 : IntKind.i64.wrap (s.h - 1) = s.h - 1 := wrap_id _ (by omega) (by omega)
    have HE : Hid (DkAt (Y.setCell ⟨p, 4, none⟩ (.int .i64 (min (s.y + 1) (s.h - 1)))).drew N p { s with late := false, y := min (s.y + 1) (s.h - 1) } rows ∧ Below N W (Y.setCell ⟨p, 4, none⟩ (.int .i64 (min (s.y + 1) (s.h - 1)))).drew) := by
      have h4 : DkAt (Y.setCell ⟨p, 4, none⟩ (.int .i64 (min (s.y + 1) (s.h - 1)))) N p { s with late := false, y := min (s.y + 1) (s.h - 1) } rows := HSd.out.set 4 _ (fun _ _ _ _ => rfl) rfl rfl
      exact ⟨h4.drew, (HB2.out.setCell HLO.out _).drew⟩
    clear df HSd
    go_upto_region 3 with fail
    go_region
    all_goals go_end0
    all_goals exact ⟨rfl, HE.out⟩
set_option maxHeartbeats 8000000 in
set_option maxRecDepth 100000 in
theorem act_feed (a b : Int) (s : Scr) (rows : List (List C)) (n top bot hh : Nat) (hR : Rolls n bot hh s.sb (s, rows)) (ht : s.top = top) (hn1 : 1 ≤ n) (hn2 : n ≤ 120) (htb : top ≤ bot) (hbh : bot < hh) (hh60 : hh ≤ 60) (hy0 : 0 ≤ s.y) (hy1 : s.y ≤ 60) (hh0 : 0 ≤ s.h) (hh1 : s.h ≤ 60) : ActMakes ⟨#[102, 101, 101, 100]⟩ a b s (dfeedS s rows top) rows (dfeedR s rows n top bot) := by
  intro N W p hN hD
  have H := dfeed_any N p n top bot hh s rows W hD hR ht hn1 hn2 htb hbh hh60 hy0 hy1 hh0 hh1
  clear hD hR ht
  generalize dfeedS s rows top = s' at *
  generalize dfeedR s rows n top bot = rows' at *
  go_enter Tryz.func27, Tryz.ntmps27
  go_wp2_with fail
  refine H.mono ?_
  rintro e V ⟨rfl, h1, h2⟩
  go_wp2_with fail
  go_end0
  exact ⟨rfl, h1, h2⟩
def dbackS (s : Scr) : Scr := if s.y = s.top then { s with late := false } else { s with late := false, y := max (s.y - 1) 0 }
set_option maxHeartbeats 8000000 in
set_option maxRecDepth 100000 in
theorem act_back (a b : Int) (s : Scr) (rows : List (List C)) (n top bot hh : Nat) (hR : Rolls n bot hh s.sb (s, rows)) (ht : s.top = top) (hn1 : 1 ≤ n) (hn2 : n ≤ 120) (htb : top ≤ bot) (hbh : bot < hh) (hh60 : hh ≤ 60) (hy0 : 0 ≤ s.y) (hy1 : s.y ≤ 60) : ActMakes ⟨#[98, 97, 99, 107]⟩ a b s (dbackS s) rows (if s.y = s.top then replR rows n s.sb bot top else rows) := by
  intro N W p hN hD
  obtain ⟨c0, c1, c3, c4, c5, c9, c10, c11, c19, f⟩ := hD.words
  have f5 := f 5
  have HD1 : Hid (DkAt (W.setCell ⟨p, 5, none⟩ (.bool false)) N p { s with late := false } rows) := hD.set 5 _ (fun _ _ _ _ => rfl) rfl rfl
  have HB1 : Hid (Below N W (W.setCell ⟨p, 5, none⟩ (.bool false))) := (Below.refl _ _).setCell hD.lo _
  have HRL : Hid (∀ V, DkAt V N p { s with late := false } rows → Calls Tryz.prog 66 #[.pointer (some ⟨p, 0, none⟩), .int .i64 (top : Int), .int .i64 (-1), .bool true] V fun e W' => e = .returned (.tuple #[]) ∧ DkAt W' N p { s with late := false } (replR rows n s.sb bot top) ∧ Below N V W') := fun V h => by
    exact roll_dn N p n top bot hh 1 s.sb { s with late := false } rows V true (-1) h ⟨hR.w, hR.b, rfl, hR.r, hR.g⟩ hn1 hn2 htb hbh hh60 (by omega)
  have HT : Hid (s.top = top) := ht
  have HLO : Hid (N ≤ p) := hD.lo
  clear hD hR ht c0 c1 c3 c4 c9 c10 c11 c19 f
  unfold dbackS
  by_cases hq0 : s.y = s.top
  · rw [if_pos hq0, if_pos hq0]
    have hq : (s.y == s.top) = true := by rw [beq_iff_eq]; exact hq0
    clear hq0
    generalize replR rows n s.sb bot top = rows' at *
    go_enter Tryz.func27, Tryz.ntmps27
    go_upto_region 97 with fail
    obtain ⟨-, -, -, d4, -, d9, -, -, -, df⟩ := HD1.out.words
    clear c5 f5 df
    generalize (W.setCell ⟨p, 5, none⟩ (.bool false)) = X at *
    go_region
    have HSd : Hid (DkAt X.drew N p { s with late := false } rows) := HD1.out.next ((Below.refl _ _).drew)
    have HB2 : Hid (Below N W X.drew) := HB1.out.drew
    clear d4 d9 HD1 HB1
    generalize X.drew = Y at *
    obtain ⟨-, -, -, -, -, d9, -, -, -, df⟩ := HSd.out.words
    replace d9 : Y.cell? ⟨p, 9, none⟩ = some (.int .i64 s.top) := d9
    rw [HT.out] at d9
    have HU2 := HRL.out Y HSd.out
    clear df HRL HSd
    go_wp2_with fail
    refine HU2.mono ?_
    rintro e V ⟨rfl, hS2, hB3⟩
    go_wp2_with fail
    go_end0
    exact ⟨rfl, hS2, HB2.out.trans hB3⟩
  · rw [if_neg hq0, if_neg hq0]
    have hq : (s.y == s.top) = false := by rw [beq_eq_false_iff_ne]; exact hq0
    have hmx := Grd.max2 (s.y - 1) 0
    clear hq0 HRL
    go_enter Tryz.func27, Tryz.ntmps27
    go_upto_region 97 with fail
    obtain ⟨-, -, -, d4, -, d9, -, -, -, df⟩ := HD1.out.words
    clear c5 f5 df
    generalize (W.setCell ⟨p, 5, none⟩ (.bool false)) = X at *
    go_region
    have HSd : Hid (DkAt X.drew N p { s with late := false } rows) := HD1.out.next ((Below.refl _ _).drew)
    have HB2 : Hid (Below N W X.drew) := HB1.out.drew
    clear d4 d9 HD1 HB1
    generalize X.drew = Y at *
    obtain ⟨-, -, -, d4, -, -, -, -, -, df⟩ := HSd.out.words
    replace d4 : Y.cell? ⟨p, 4, none⟩ = some (.int .i64 s.y) := d4
    have g4 := df 4
    have hw1 : IntKind.i64.wrap (s.y - 1) = s.y - 1 := wrap_id _ (by omega) (by omega)
    have HE : Hid (DkAt (Y.setCell ⟨p, 4, none⟩ (.int .i64 (max (s.y - 1) 0))) N p { s with late := false, y := max (s.y - 1) 0 } rows ∧ Below N W (Y.setCell ⟨p, 4, none⟩ (.int .i64 (max (s.y - 1) 0)))) := ⟨HSd.out.set 4 _ (fun _ _ _ _ => rfl) rfl rfl, HB2.out.setCell HLO.out _⟩
    clear df HSd
    go_wp2_with fail
    go_end0
    exact ⟨rfl, HE.out⟩
end Put
end Go.Proofs.YtjmiifegjghliaaGreatDoor

/- The law ShiftFeed. -/
namespace Go.Proofs.YtjmiifegjghliaaGreatDoor
open Go.ChangeShapes Go.WideShapes Go.ChangeAt Go.RowKit
namespace Put
open Grd (C SliceAt CellsAt gridErr z0 nilV flat rowsL)
theorem plain_feed : Plain 33 := by
  intro args W
  kernel_rfl
theorem plain_back : Plain 34 := by
  intro args W
  kernel_rfl
theorem plainF_feed : Plain 11 := by
  intro args W
  kernel_rfl
theorem plainF_back : Plain 12 := by
  intro args W
  kernel_rfl
theorem keepG_mem {g : List (List C)} {row r : List C} (h : r ∈ keepG g row) : r ∈ g ∨ r = row := by
  unfold keepG at h
  split at h
  · simpa using h
  · simpa using List.mem_of_mem_eraseIdx h
theorem keepG_rows {s : Scr} {n hh : Nat} (hR : RightS s n hh) (row : List C) (hr : row.length = n) : ∀ r, r ∈ keepG s.gone row → r.length ≤ 120 := by
  intro r hm
  rcases keepG_mem hm with h | h
  · have := (grid_size (hR.gr r h)).2.1
    omega
  · have := hR.n2
    rw [h, hr]
    omega
theorem upS_rows {s : Scr} {n hh : Nat} (hR : RightS s n hh) (s1 : Scr) (hg : s1.gone = s.gone) (top : Nat) : (upS s1 (rowsL n s.cs hh) top).gone.length ≤ 50 ∧ ∀ r, r ∈ (upS s1 (rowsL n s.cs hh) top).gone → r.length ≤ 120 := by
  unfold upS
  split
  · rw [hg]
    exact ⟨keepG_len _ _ hR.gl, keepG_rows hR _ (rowsL_row hR 0 (by rw [Grd.rowsL_len]; have := hR.h1; omega))⟩
  · rw [hg]
    refine ⟨hR.gl, fun r hr => ?_⟩
    have := (grid_size (hR.gr r hr)).2.1
    omega
/-- A feed. -/
def feedP (s : Scr) (rows : List (List C)) (top : Nat) : Scr := if s.y = s.bot then upS { s with late := false } rows top else feedS s
theorem feed_does (M n : Nat) (w : World) (s : Scr) (rows : List (List C)) (top bot : Nat) (ht : s.top = top) (hb : s.bot = bot) (hy0 : 0 ≤ s.y) (hy1 : s.y ≤ 60) (hh1 : 1 ≤ s.h) (hh2 : s.h ≤ 60) (hw : s.w = n) (hn1 : 1 ≤ n) (hn2 : n ≤ 120) (hg : top < rows.length) (hf : bot < rows.length) (hrl : rows.length ≤ 60) (hgl : s.gone.length ≤ 50) :
    Does 33 #[] M w s (feedP s rows top) rows (dfeedR s rows n top bot) := by
  intro W p hbw hS
  show Calls _ _ #[.pointer (some ⟨p, 0, none⟩)] _ _
  unfold feedP dfeedR
  by_cases hq : s.y = s.bot
  · rw [if_pos hq, if_pos hq]
    refine (feed_roll W M _ p n s rows hS top bot ht hb hq hw hn1 hn2 hg hf hrl hgl).mono ?_
    rintro e V ⟨rfl, h1, h2, -⟩
    exact ⟨rfl, h1, h2⟩
  · rw [if_neg hq, if_neg hq]
    refine (feed_plain W M _ p s rows hS hy0 hy1 hh1 hh2 hq).mono ?_
    rintro e V ⟨rfl, h1, h2, -⟩
    exact ⟨rfl, h1, h2⟩
theorem dfeedR_len (s : Scr) (rows : List (List C)) (n top bot : Nat) (hg : top < rows.length) (hf : bot < rows.length) : (dfeedR s rows n top bot).length = rows.length := by
  unfold dfeedR
  split
  · exact replR_len _ _ _ _ _ hg hf
  · rfl
theorem dfeedR_row (s : Scr) (rows : List (List C)) (n top bot : Nat) (hg : top < rows.length) (hf : bot < rows.length) (hn : ∀ i, i < rows.length → (rows.getD i []).length = n) (i : Nat) (hi : i < rows.length) : ((dfeedR s rows n top bot).getD i []).length = n := by
  unfold dfeedR
  split
  · exact replR_row _ _ _ _ _ hg hf hn i hi
  · exact hn i hi
theorem feedP_gone {s : Scr} {n hh : Nat} (hR : RightS s n hh) (top : Nat) : (feedP s (rowsL n s.cs hh) top).gone.length ≤ 50 ∧ ∀ r, r ∈ (feedP s (rowsL n s.cs hh) top).gone → r.length ≤ 120 := by
  unfold feedP
  split
  · exact upS_rows hR { s with late := false } rfl top
  · have e : (feedS s).gone = s.gone := by unfold feedS; split <;> rfl
    rw [e]
    refine ⟨hR.gl, fun r hr => ?_⟩
    have := (grid_size (hR.gr r hr)).2.1
    omega
theorem rows_le {l : List (List C)} (h : ∀ r, r ∈ l → r.length ≤ 120) (i : Nat) (hi : i < l.length) : (l.getD i []).length ≤ 1048576 := by
  have e : l.getD i [] = l[i] := by simp [List.getD, hi]
  rw [e]
  have := h _ (List.getElem_mem hi)
  omega
theorem feed_any {w0 w : World} {s : Scr} {cv tv gv : Value} {n hh : Nat} (h : Met w0 w s cv tv gv) (hR : RightS s n hh) (top bot : Nat) (ht : s.top = top) (hb : s.bot = bot) : Calls Tryz.prog 11 #[.agg (scrA s cv tv gv)] w (Made w0 w { feedP s (rowsL n s.cs hh) top with cs := (dfeedR s (rowsL n s.cs hh) n top bot).flatten } 0) := by
  have e1 := hR.w
  have e2 := hR.h
  have n1 := hR.n1
  have n2 := hR.n2
  have h1 := hR.h1
  have h2 := hR.h2
  have y0 := hR.y0
  have y1 := hR.y1
  have t1 := hR.t1
  have t2 := hR.t2
  have hl := Grd.rowsL_len n s.cs hh
  have hgo := feedP_gone hR top
  refine feed_calls s _ cv tv gv 0 w0 w h.v h.b.size fun _ _ hW => ?_
  refine sc_good (h.next hW) hR _ plain_feed #[] (dfeedR s (rowsL n s.cs hh) n top bot) _ (fun w1 _ => feed_does _ n w1 s _ top bot ht hb y0 (by omega) (by omega) (by omega) e1 n1 n2 (by omega) (by omega) (by omega) hR.gl) (rowsOk hR _ _ (by rw [dfeedR_len _ _ _ _ _ (by omega) (by omega), hl]) (fun i hi => ?_) (by have := hgo.1; omega) (rows_le hgo.2)) rfl
  rw [dfeedR_len _ _ _ _ _ (by omega) (by omega)] at hi
  exact dfeedR_row _ _ _ _ _ (by omega) (by omega) (rowsL_row hR) i hi
theorem feed_bad {w0 w : World} {s : Scr} {cv tv gv : Value} (h : Met w0 w s cv tv gv) (hz : scrErr s ≠ 0) : Calls Tryz.prog 11 #[.agg (scrA s cv tv gv)] w (Made w0 w zScr (scrErr s)) :=
  feed_calls s zScr cv tv gv (scrErr s) w0 w h.v h.b.size fun _ _ hW => sc_bad (h.next hW) hz _ _
theorem smallNew {s s' : Scr} {n hh : Nat} (hR : RightS s n hh) (rows' : List (List C)) (hl : rows'.length = hh) (hn : ∀ i, i < rows'.length → (rows'.getD i []).length = n) (htb : s'.tabs = s.tabs) (hcs : s'.cs = rows'.flatten) (hg : s'.gone.length ≤ 50) (hr : ∀ r, r ∈ s'.gone → r.length ≤ 120) : Small s' := by
  have n2 := hR.n2
  have h2 := hR.h2
  have hlen := Grd.flatten_len n rows' hn hh (by omega)
  rw [← hl, List.take_length] at hlen
  refine ⟨?_, ?_, by omega, fun r hm => by have := hr r hm; omega⟩
  · rw [hcs, hlen]
    have := Nat.mul_le_mul (show rows'.length ≤ 60 by omega) n2
    omega
  · rw [htb]
    have := hR.tl
    omega
theorem dfeed_same {s : Scr} {n hh : Nat} (hR : RightS s n hh) (rows : List (List C)) (top : Nat) : dfeedS s rows top = feedP s rows top := by
  have e2 := hR.h
  have y1 := hR.y1
  unfold dfeedS feedP feedS
  split
  · rfl
  · split
    · rw [show min (s.y + 1) (s.h - 1) = s.y + 1 by omega]
    · have e : min (s.y + 1) (s.h - 1) = s.y := by omega
      rw [e]
theorem feedP_same (s : Scr) (rows : List (List C)) (top : Nat) : (feedP s rows top).w = s.w ∧ (feedP s rows top).h = s.h ∧ (feedP s rows top).tabs = s.tabs := by
  unfold feedP upS feedS
  split
  · split <;> exact ⟨rfl, rfl, rfl⟩
  · split <;> exact ⟨rfl, rfl, rfl⟩
theorem feed_agree {s : Scr} {n hh : Nat} (hR : RightS s n hh) (a b : Int) (top bot : Nat) (ht : s.top = top) (hb : s.bot = bot) : Agrees ⟨#[102, 101, 101, 100]⟩ a b s { feedP s (rowsL n s.cs hh) top with cs := (dfeedR s (rowsL n s.cs hh) n top bot).flatten } n hh := by
  have e1 := hR.w
  have e2 := hR.h
  have n1 := hR.n1
  have n2 := hR.n2
  have h1 := hR.h1
  have h2 := hR.h2
  have y0 := hR.y0
  have y1 := hR.y1
  have t1 := hR.t1
  have t2 := hR.t2
  have hl := Grd.rowsL_len n s.cs hh
  have hgo := feedP_gone hR top
  have hlen : (dfeedR s (rowsL n s.cs hh) n top bot).length = hh := by rw [dfeedR_len _ _ _ _ _ (by omega) (by omega), hl]
  have hrow : ∀ i, i < (dfeedR s (rowsL n s.cs hh) n top bot).length → ((dfeedR s (rowsL n s.cs hh) n top bot).getD i []).length = n := fun i hi => dfeedR_row _ _ _ _ _ (by omega) (by omega) (rowsL_row hR) i (by omega)
  have hs := feedP_same s (rowsL n s.cs hh) top
  have hA := act_feed a b s (rowsL n s.cs hh) n top bot hh ⟨e1, hb, rfl, hl, hR.gl⟩ ht n1 n2 (by omega) (by omega) h2 y0 (by omega) (by omega) (by omega)
  rw [dfeed_same hR] at hA
  refine ⟨smallNew hR _ hlen hrow hs.2.2 rfl hgo.1 hgo.2, _, _, hA, hlen, hrow, ?_⟩
  have q1 : (n : Int) = (feedP s (rowsL n s.cs hh) top).w := by rw [hs.1, e1]
  have q2 : (hh : Int) = (feedP s (rowsL n s.cs hh) top).h := by rw [hs.2.1, e2]
  rw [q1, q2]
theorem feed_law (s : Scr) (cv tv gv : Value) (w : World) (hT : Txt.Tab w) (hV : ScrV w s cv tv gv) (hB : Bulk s) :
    Calls Tryz.prog 8 #[.agg (scrA s cv tv gv), .func (.func 11) #[] #[], .string ⟨#[102, 101, 101, 100]⟩, .int .i64 0, .int .i64 0] w fun e w' => e = .returned (.bool true) ∧ Below w.heap.size w w' :=
  acts_any s cv tv gv _ plainF_feed #[] _ 0 0 w hT hV hB { feedP s (rowsL s.w.toNat s.cs s.h.toNat) s.top.toNat with cs := (dfeedR s (rowsL s.w.toNat s.cs s.h.toNat) s.w.toNat s.top.toNat s.bot.toNat).flatten } (fun hz _ _ _ _ _ _ hm => feed_bad hm hz) fun nn hh hR => by
    have e1 : s.w.toNat = nn := by rw [hR.w]; rfl
    have e2 : s.h.toNat = hh := by rw [hR.h]; rfl
    have t0 := hR.t0
    have t1 := hR.t1
    have ht : s.top = (s.top.toNat : Int) := by omega
    have hb : s.bot = (s.bot.toNat : Int) := by omega
    rw [e1, e2]
    exact ⟨fun _ _ _ _ _ _ hm => feed_any hm hR _ _ ht hb, feed_agree hR 0 0 _ _ ht hb⟩
/-- To the row above: the rows. -/
def backR (s : Scr) (rows : List (List C)) (n top bot : Nat) : List (List C) := if s.y = s.top then replR rows n s.sb bot top else rows
theorem backR_len (s : Scr) (rows : List (List C)) (n top bot : Nat) (hg : top < rows.length) (hf : bot < rows.length) : (backR s rows n top bot).length = rows.length := by
  unfold backR
  split
  · exact replR_len _ _ _ _ _ hf hg
  · rfl
theorem backR_row (s : Scr) (rows : List (List C)) (n top bot : Nat) (hg : top < rows.length) (hf : bot < rows.length) (hn : ∀ i, i < rows.length → (rows.getD i []).length = n) (i : Nat) (hi : i < rows.length) : ((backR s rows n top bot).getD i []).length = n := by
  unfold backR
  split
  · exact replR_row _ _ _ _ _ hf hg hn i hi
  · exact hn i hi
theorem backS_same (s : Scr) : (backS s).w = s.w ∧ (backS s).h = s.h ∧ (backS s).tabs = s.tabs ∧ (backS s).gone = s.gone := by
  unfold backS
  split
  · exact ⟨rfl, rfl, rfl, rfl⟩
  · split <;> exact ⟨rfl, rfl, rfl, rfl⟩
theorem dback_same {s : Scr} {n hh : Nat} (hR : RightS s n hh) : dbackS s = backS s := by
  have y0 := hR.y0
  unfold dbackS backS
  split
  · rfl
  · split
    · rw [show max (s.y - 1) 0 = s.y - 1 by omega]
    · have e : max (s.y - 1) 0 = s.y := by omega
      rw [e]
theorem gone_le120 {s : Scr} {n hh : Nat} (hR : RightS s n hh) : ∀ r, r ∈ s.gone → r.length ≤ 120 := fun r hr => by
  have := (grid_size (hR.gr r hr)).2.1
  omega
theorem back_any {w0 w : World} {s : Scr} {cv tv gv : Value} {n hh : Nat} (h : Met w0 w s cv tv gv) (hR : RightS s n hh) (top bot : Nat) (ht : s.top = top) (hb : s.bot = bot) : Calls Tryz.prog 12 #[.agg (scrA s cv tv gv)] w (Made w0 w { backS s with cs := (backR s (rowsL n s.cs hh) n top bot).flatten } 0) := by
  have e1 := hR.w
  have n1 := hR.n1
  have n2 := hR.n2
  have h1 := hR.h1
  have h2 := hR.h2
  have y0 := hR.y0
  have y1 := hR.y1
  have t1 := hR.t1
  have t2 := hR.t2
  have hl := Grd.rowsL_len n s.cs hh
  have hs := backS_same s
  refine back_calls s _ cv tv gv 0 w0 w h.v h.b.size fun _ _ hW => ?_
  refine sc_good (h.next hW) hR _ plain_back #[] (backR s (rowsL n s.cs hh) n top bot) _ (fun w1 _ => back_does _ n w1 s _ top bot ht hb y0 (by omega) e1 n1 n2 (by omega) (by omega) (by omega)) (rowsOk hR _ _ (by rw [backR_len _ _ _ _ _ (by omega) (by omega), hl]) (fun i hi => ?_) (by rw [hs.2.2.2]; have := hR.gl; omega) (by rw [hs.2.2.2]; exact rows_le (gone_le120 hR))) rfl
  rw [backR_len _ _ _ _ _ (by omega) (by omega)] at hi
  exact backR_row _ _ _ _ _ (by omega) (by omega) (rowsL_row hR) i hi
theorem back_bad {w0 w : World} {s : Scr} {cv tv gv : Value} (h : Met w0 w s cv tv gv) (hz : scrErr s ≠ 0) : Calls Tryz.prog 12 #[.agg (scrA s cv tv gv)] w (Made w0 w zScr (scrErr s)) :=
  back_calls s zScr cv tv gv (scrErr s) w0 w h.v h.b.size fun _ _ hW => sc_bad (h.next hW) hz _ _
theorem back_agree {s : Scr} {n hh : Nat} (hR : RightS s n hh) (a b : Int) (top bot : Nat) (ht : s.top = top) (hb : s.bot = bot) : Agrees ⟨#[98, 97, 99, 107]⟩ a b s { backS s with cs := (backR s (rowsL n s.cs hh) n top bot).flatten } n hh := by
  have e1 := hR.w
  have e2 := hR.h
  have n1 := hR.n1
  have n2 := hR.n2
  have h1 := hR.h1
  have h2 := hR.h2
  have y0 := hR.y0
  have y1 := hR.y1
  have t1 := hR.t1
  have t2 := hR.t2
  have hl := Grd.rowsL_len n s.cs hh
  have hlen : (backR s (rowsL n s.cs hh) n top bot).length = hh := by rw [backR_len _ _ _ _ _ (by omega) (by omega), hl]
  have hrow : ∀ i, i < (backR s (rowsL n s.cs hh) n top bot).length → ((backR s (rowsL n s.cs hh) n top bot).getD i []).length = n := fun i hi => backR_row _ _ _ _ _ (by omega) (by omega) (rowsL_row hR) i (by omega)
  have hs := backS_same s
  have hA := act_back a b s (rowsL n s.cs hh) n top bot hh ⟨e1, hb, rfl, hl, hR.gl⟩ ht n1 n2 (by omega) (by omega) h2 y0 (by omega)
  rw [dback_same hR] at hA
  refine ⟨smallNew hR _ hlen hrow hs.2.2.1 rfl (by show (backS s).gone.length ≤ 50; rw [hs.2.2.2]; exact hR.gl) (by show ∀ r, r ∈ (backS s).gone → r.length ≤ 120; rw [hs.2.2.2]; exact gone_le120 hR), _, _, hA, hlen, hrow, ?_⟩
  have q1 : (n : Int) = (backS s).w := by rw [hs.1, e1]
  have q2 : (hh : Int) = (backS s).h := by rw [hs.2.1, e2]
  rw [q1, q2]
  rfl
theorem back_law (s : Scr) (cv tv gv : Value) (w : World) (hT : Txt.Tab w) (hV : ScrV w s cv tv gv) (hB : Bulk s) :
    Calls Tryz.prog 8 #[.agg (scrA s cv tv gv), .func (.func 12) #[] #[], .string ⟨#[98, 97, 99, 107]⟩, .int .i64 0, .int .i64 0] w fun e w' => e = .returned (.bool true) ∧ Below w.heap.size w w' :=
  acts_any s cv tv gv _ plainF_back #[] _ 0 0 w hT hV hB { backS s with cs := (backR s (rowsL s.w.toNat s.cs s.h.toNat) s.w.toNat s.top.toNat s.bot.toNat).flatten } (fun hz _ _ _ _ _ _ hm => back_bad hm hz) fun nn hh hR => by
    have e1 : s.w.toNat = nn := by rw [hR.w]; rfl
    have e2 : s.h.toNat = hh := by rw [hR.h]; rfl
    have t0 := hR.t0
    have t1 := hR.t1
    have ht : s.top = (s.top.toNat : Int) := by omega
    have hb : s.bot = (s.bot.toNat : Int) := by omega
    rw [e1, e2]
    exact ⟨fun _ _ _ _ _ _ hm => back_any hm hR _ _ ht hb, back_agree hR 0 0 _ _ ht hb⟩
set_option maxHeartbeats 4000000 in
set_option maxRecDepth 100000 in
theorem shiftFeed_walk (s : Scr) (cv tv gv : Value) (w : World) (hT : Txt.Tab w) (hV : ScrV w s cv tv gv) (hB : Bulk s) :
    Calls Tryz.prog 4 #[.agg (scrA s cv tv gv)] w fun e w' => e = .returned (.bool true) ∧ Below w.heap.size w w' := by
  have HC1 : Hid (∀ W, Below w.heap.size w W → Calls Tryz.prog 8 #[.agg (scrA s cv tv gv), .func (.func 11) #[] #[], .string ⟨#[102, 101, 101, 100]⟩, .int .i64 0, .int .i64 0] W fun e w' => e = .returned (.bool true) ∧ Below W.heap.size W w') := fun W h => feed_law s cv tv gv W (Grd.Tab.next hT h) (hV.next h) hB
  have HC2 : Hid (∀ W, Below w.heap.size w W → Calls Tryz.prog 8 #[.agg (scrA s cv tv gv), .func (.func 12) #[] #[], .string ⟨#[98, 97, 99, 107]⟩, .int .i64 0, .int .i64 0] W fun e w' => e = .returned (.bool true) ∧ Below W.heap.size W w') := fun W h => back_law s cv tv gv W (Grd.Tab.next hT h) (hV.next h) hB
  obtain ⟨ca, cc, rfl⟩ := hV.c.shape
  obtain ⟨ta, tc, rfl⟩ := hV.t.slice
  obtain ⟨ga, gc, rfl⟩ := hV.g.slice
  have hkb : Below w.heap.size w (w.alloc (.cells (scrA s (.slice ca s.cs.length cc) (.slice ta s.tabs.length tc) (.slice ga s.gone.length gc)) 32)) := ((Below.refl _ _).alloc (by simp) _)
  have hx0 : (w.alloc (.cells (scrA s (.slice ca s.cs.length cc) (.slice ta s.tabs.length tc) (.slice ga s.gone.length gc)) 32)).heap[w.heap.size]? = some (.cells (scrA s (.slice ca s.cs.length cc) (.slice ta s.tabs.length tc) (.slice ga s.gone.length gc)) 32 (0, 0)) := by
    have h := heap_alloc_new w (.cells (scrA s (.slice ca s.cs.length cc) (.slice ta s.tabs.length tc) (.slice ga s.gone.length gc)) 32)
    have e : w.heap.size = w.heap.size := by simp
    rw [e] at h
    exact h
  have HX0 : Hid _ := hx0
  have HKB : Hid _ := hkb
  clear hkb hV hx0 hT hB
  go_enter Tryz.func4, Tryz.ntmps4
  go_upto_region 1 with fail
  generalize (w.alloc (.cells (scrA s (.slice ca s.cs.length cc) (.slice ta s.tabs.length tc) (.slice ga s.gone.length gc)) 32)) = X at *
  go_wp2_with (refine wpList_load_row rfl 32 (.tmp 1) rfl w.heap.size rfl _ _ _ _ HX0.out Tryz.underlying32 rfl (by kernel_rfl) ?_)
  refine (HC1.out _ HKB.out).mono ?_
  rintro e V1 ⟨rfl, b1⟩
  have HB1 : Hid (Below w.heap.size w V1) := HKB.out.trans (b1.mono HKB.out.size)
  have HX1 : Hid (V1.heap[w.heap.size]? = _) := Grd.carry HX0.out b1
  clear b1
  go_wp2_with (refine BigFrame.wpList_want rfl fun K hK => wp_load_row 32 (.tmp 1) rfl w.heap.size rfl _ _ _ _ HX1.out Tryz.underlying32 rfl (by kernel_rfl) (hK _ _ ?_))
  refine (HC2.out _ HB1.out).mono ?_
  rintro e V2 ⟨rfl, b2⟩
  have HB2 : Hid (Below w.heap.size w V2) := HB1.out.trans (b2.mono HB1.out.size)
  clear b2
  go_wp2_with fail
  go_ret
  exact ⟨rfl, HB2.out⟩
end Put
end Go.Proofs.YtjmiifegjghliaaGreatDoor

/- Package shift: changeLines, InsertLines, DeleteLines. (Written by gen_call.py.) -/
namespace Go.Proofs.YtjmiifegjghliaaGreatDoor
open Go.ChangeShapes Go.WideShapes Go.ChangeAt Go.RowKit
namespace Put
open Grd (C)
theorem cell_onel {W : World} {R : Nat} {v : Value} {t : TypeId} (h : W.heap[R]? = some (.cells #[v] t (0, 0))) : W.cell? ⟨R, 0, none⟩ = some v := by simp [World.cell?, h]
set_option maxHeartbeats 2000000 in
set_option maxRecDepth 100000 in
theorem lines_calls (s s' : Scr) (cv tv gv : Value) (n : Int) (tf : FuncId) (er : Int) (w0 w : World) (hV : ScrV w0 s cv tv gv) (hM : w0.heap.size ≤ w.heap.size)
    (hC : ∀ (W : World) (B1 B2 : Nat), Below w.heap.size w W → W.cell? ⟨B1, 0, none⟩ = some (.int .i64 n) → W.cell? ⟨B2, 0, none⟩ = some (.func (.func tf) #[] #[]) → Calls Tryz.prog 28 #[.agg (scrA s cv tv gv), .func (.func 69) #[] #[.pointer (some ⟨B1, 0, none⟩), .pointer (some ⟨B2, 0, none⟩)]] W (Made w0 W s' er)) :
    Calls Tryz.prog 37 #[.agg (scrA s cv tv gv), .int .i64 n, .func (.func tf) #[] #[]] w (Made w0 w s' er) := by
  obtain ⟨ca, cc, rfl⟩ := hV.c.shape
  obtain ⟨ta, tc, rfl⟩ := hV.t.slice
  obtain ⟨ga, gc, rfl⟩ := hV.g.slice
  have hkb : Below w.heap.size w ((((w.alloc (.cells (scrA s (.slice ca s.cs.length cc) (.slice ta s.tabs.length tc) (.slice ga s.gone.length gc)) 32)).alloc (.cells #[.int .i64 n] 3)).alloc (.cells #[.func (.func tf) #[] #[]] 61)).alloc (.cells #[.int .i64 0, .int .i64 0, .slice none 0 0, .int .i64 0, .int .i64 0, .bool false, .int .i64 0, .int .i64 0, .int .i64 0, .int .i64 0, .int .i64 0, .int .i64 0, .slice none 0 0, .int .i64 0, .int .i64 0, .int .i64 0, .int .i64 0, .int .i64 0, .int .i64 0, .int .i32 0, .string ⟨#[]⟩, .slice none 0 0] 32)) := (((((Below.refl _ _).alloc (by simp) _).alloc (by simp) _).alloc (by simp; omega) _).alloc (by simp; omega) _)
  have hx0 : (w.alloc (.cells (scrA s (.slice ca s.cs.length cc) (.slice ta s.tabs.length tc) (.slice ga s.gone.length gc)) 32)).heap[w.heap.size]? = some (.cells (scrA s (.slice ca s.cs.length cc) (.slice ta s.tabs.length tc) (.slice ga s.gone.length gc)) 32 (0, 0)) := by
    have h := heap_alloc_new w (.cells (scrA s (.slice ca s.cs.length cc) (.slice ta s.tabs.length tc) (.slice ga s.gone.length gc)) 32)
    have e : w.heap.size = w.heap.size := by simp
    rw [e] at h
    exact h
  have hx0 := (Below.heap_alloc (w.alloc (.cells (scrA s (.slice ca s.cs.length cc) (.slice ta s.tabs.length tc) (.slice ga s.gone.length gc)) 32)) (.cells #[.int .i64 n] 3) _ (heap_lt hx0)).trans hx0
  have hx0 := (Below.heap_alloc ((w.alloc (.cells (scrA s (.slice ca s.cs.length cc) (.slice ta s.tabs.length tc) (.slice ga s.gone.length gc)) 32)).alloc (.cells #[.int .i64 n] 3)) (.cells #[.func (.func tf) #[] #[]] 61) _ (heap_lt hx0)).trans hx0
  have hx0 := (Below.heap_alloc (((w.alloc (.cells (scrA s (.slice ca s.cs.length cc) (.slice ta s.tabs.length tc) (.slice ga s.gone.length gc)) 32)).alloc (.cells #[.int .i64 n] 3)).alloc (.cells #[.func (.func tf) #[] #[]] 61)) (.cells #[.int .i64 0, .int .i64 0, .slice none 0 0, .int .i64 0, .int .i64 0, .bool false, .int .i64 0, .int .i64 0, .int .i64 0, .int .i64 0, .int .i64 0, .int .i64 0, .slice none 0 0, .int .i64 0, .int .i64 0, .int .i64 0, .int .i64 0, .int .i64 0, .int .i64 0, .int .i32 0, .string ⟨#[]⟩, .slice none 0 0] 32) _ (heap_lt hx0)).trans hx0
  have hx1 : ((w.alloc (.cells (scrA s (.slice ca s.cs.length cc) (.slice ta s.tabs.length tc) (.slice ga s.gone.length gc)) 32)).alloc (.cells #[.int .i64 n] 3)).heap[w.heap.size + 1]? = some (.cells #[.int .i64 n] 3 (0, 0)) := by
    have h := heap_alloc_new (w.alloc (.cells (scrA s (.slice ca s.cs.length cc) (.slice ta s.tabs.length tc) (.slice ga s.gone.length gc)) 32)) (.cells #[.int .i64 n] 3)
    have e : (w.alloc (.cells (scrA s (.slice ca s.cs.length cc) (.slice ta s.tabs.length tc) (.slice ga s.gone.length gc)) 32)).heap.size = w.heap.size + 1 := by simp
    rw [e] at h
    exact h
  have hx1 := (Below.heap_alloc ((w.alloc (.cells (scrA s (.slice ca s.cs.length cc) (.slice ta s.tabs.length tc) (.slice ga s.gone.length gc)) 32)).alloc (.cells #[.int .i64 n] 3)) (.cells #[.func (.func tf) #[] #[]] 61) _ (heap_lt hx1)).trans hx1
  have hx1 := (Below.heap_alloc (((w.alloc (.cells (scrA s (.slice ca s.cs.length cc) (.slice ta s.tabs.length tc) (.slice ga s.gone.length gc)) 32)).alloc (.cells #[.int .i64 n] 3)).alloc (.cells #[.func (.func tf) #[] #[]] 61)) (.cells #[.int .i64 0, .int .i64 0, .slice none 0 0, .int .i64 0, .int .i64 0, .bool false, .int .i64 0, .int .i64 0, .int .i64 0, .int .i64 0, .int .i64 0, .int .i64 0, .slice none 0 0, .int .i64 0, .int .i64 0, .int .i64 0, .int .i64 0, .int .i64 0, .int .i64 0, .int .i32 0, .string ⟨#[]⟩, .slice none 0 0] 32) _ (heap_lt hx1)).trans hx1
  have hx2 : (((w.alloc (.cells (scrA s (.slice ca s.cs.length cc) (.slice ta s.tabs.length tc) (.slice ga s.gone.length gc)) 32)).alloc (.cells #[.int .i64 n] 3)).alloc (.cells #[.func (.func tf) #[] #[]] 61)).heap[w.heap.size + 2]? = some (.cells #[.func (.func tf) #[] #[]] 61 (0, 0)) := by
    have h := heap_alloc_new ((w.alloc (.cells (scrA s (.slice ca s.cs.length cc) (.slice ta s.tabs.length tc) (.slice ga s.gone.length gc)) 32)).alloc (.cells #[.int .i64 n] 3)) (.cells #[.func (.func tf) #[] #[]] 61)
    have e : ((w.alloc (.cells (scrA s (.slice ca s.cs.length cc) (.slice ta s.tabs.length tc) (.slice ga s.gone.length gc)) 32)).alloc (.cells #[.int .i64 n] 3)).heap.size = w.heap.size + 2 := by simp
    rw [e] at h
    exact h
  have hx2 := (Below.heap_alloc (((w.alloc (.cells (scrA s (.slice ca s.cs.length cc) (.slice ta s.tabs.length tc) (.slice ga s.gone.length gc)) 32)).alloc (.cells #[.int .i64 n] 3)).alloc (.cells #[.func (.func tf) #[] #[]] 61)) (.cells #[.int .i64 0, .int .i64 0, .slice none 0 0, .int .i64 0, .int .i64 0, .bool false, .int .i64 0, .int .i64 0, .int .i64 0, .int .i64 0, .int .i64 0, .int .i64 0, .slice none 0 0, .int .i64 0, .int .i64 0, .int .i64 0, .int .i64 0, .int .i64 0, .int .i64 0, .int .i32 0, .string ⟨#[]⟩, .slice none 0 0] 32) _ (heap_lt hx2)).trans hx2
  have hx3 : ((((w.alloc (.cells (scrA s (.slice ca s.cs.length cc) (.slice ta s.tabs.length tc) (.slice ga s.gone.length gc)) 32)).alloc (.cells #[.int .i64 n] 3)).alloc (.cells #[.func (.func tf) #[] #[]] 61)).alloc (.cells #[.int .i64 0, .int .i64 0, .slice none 0 0, .int .i64 0, .int .i64 0, .bool false, .int .i64 0, .int .i64 0, .int .i64 0, .int .i64 0, .int .i64 0, .int .i64 0, .slice none 0 0, .int .i64 0, .int .i64 0, .int .i64 0, .int .i64 0, .int .i64 0, .int .i64 0, .int .i32 0, .string ⟨#[]⟩, .slice none 0 0] 32)).heap[w.heap.size + 3]? = some (.cells #[.int .i64 0, .int .i64 0, .slice none 0 0, .int .i64 0, .int .i64 0, .bool false, .int .i64 0, .int .i64 0, .int .i64 0, .int .i64 0, .int .i64 0, .int .i64 0, .slice none 0 0, .int .i64 0, .int .i64 0, .int .i64 0, .int .i64 0, .int .i64 0, .int .i64 0, .int .i32 0, .string ⟨#[]⟩, .slice none 0 0] 32 (0, 0)) := by
    have h := heap_alloc_new (((w.alloc (.cells (scrA s (.slice ca s.cs.length cc) (.slice ta s.tabs.length tc) (.slice ga s.gone.length gc)) 32)).alloc (.cells #[.int .i64 n] 3)).alloc (.cells #[.func (.func tf) #[] #[]] 61)) (.cells #[.int .i64 0, .int .i64 0, .slice none 0 0, .int .i64 0, .int .i64 0, .bool false, .int .i64 0, .int .i64 0, .int .i64 0, .int .i64 0, .int .i64 0, .int .i64 0, .slice none 0 0, .int .i64 0, .int .i64 0, .int .i64 0, .int .i64 0, .int .i64 0, .int .i64 0, .int .i32 0, .string ⟨#[]⟩, .slice none 0 0] 32)
    have e : (((w.alloc (.cells (scrA s (.slice ca s.cs.length cc) (.slice ta s.tabs.length tc) (.slice ga s.gone.length gc)) 32)).alloc (.cells #[.int .i64 n] 3)).alloc (.cells #[.func (.func tf) #[] #[]] 61)).heap.size = w.heap.size + 3 := by simp
    rw [e] at h
    exact h
  have HX0 : Hid _ := hx0
  have HXR : Hid _ := hx3
  have HKB : Hid _ := hkb
  have HC := hC _ (w.heap.size + 1) (w.heap.size + 2) hkb (cell_onel hx1) (cell_onel hx2)
  have hsz : w.heap.size ≤ ((((w.alloc (.cells (scrA s (.slice ca s.cs.length cc) (.slice ta s.tabs.length tc) (.slice ga s.gone.length gc)) 32)).alloc (.cells #[.int .i64 n] 3)).alloc (.cells #[.func (.func tf) #[] #[]] 61)).alloc (.cells #[.int .i64 0, .int .i64 0, .slice none 0 0, .int .i64 0, .int .i64 0, .bool false, .int .i64 0, .int .i64 0, .int .i64 0, .int .i64 0, .int .i64 0, .int .i64 0, .slice none 0 0, .int .i64 0, .int .i64 0, .int .i64 0, .int .i64 0, .int .i64 0, .int .i64 0, .int .i32 0, .string ⟨#[]⟩, .slice none 0 0] 32)).heap.size := hkb.size
  clear hkb hV hC hx0 hx1 hx2 hx3
  go_enter Tryz.func37, Tryz.ntmps37
  go_upto_region 1 with fail
  generalize ((((w.alloc (.cells (scrA s (.slice ca s.cs.length cc) (.slice ta s.tabs.length tc) (.slice ga s.gone.length gc)) 32)).alloc (.cells #[.int .i64 n] 3)).alloc (.cells #[.func (.func tf) #[] #[]] 61)).alloc (.cells #[.int .i64 0, .int .i64 0, .slice none 0 0, .int .i64 0, .int .i64 0, .bool false, .int .i64 0, .int .i64 0, .int .i64 0, .int .i64 0, .int .i64 0, .int .i64 0, .slice none 0 0, .int .i64 0, .int .i64 0, .int .i64 0, .int .i64 0, .int .i64 0, .int .i64 0, .int .i32 0, .string ⟨#[]⟩, .slice none 0 0] 32)) = X at *
  go_wp2_with (refine wpList_load_row rfl 32 (.tmp 3) rfl w.heap.size rfl _ _ _ _ HX0.out Tryz.underlying32 rfl (by kernel_rfl) ?_)
  refine HC.mono ?_
  rintro e V ⟨cv', tv', gv', rfl, hO, c2⟩
  obtain ⟨a1, n1, c1, a2, n2, c2', a3, n3, c3, rfl, rfl, rfl⟩ := hO.shapes
  have HO : Hid (ScrO V w0.heap.size _ s' _ _ _) := hO
  have HR : Hid (V.heap[w.heap.size + 3]? = _) := Grd.carry HXR.out c2
  have HB : Hid (Below w.heap.size w V) := HKB.out.trans (c2.mono HKB.out.size)
  clear hO c2 HC
  go_wp2_with (refine wpList_store_row rfl 32 (.tmp 6) (.tmp 11) rfl (w.heap.size + 3) (scrA s' (.slice a1 n1 c1) (.slice a2 n2 c2') (.slice a3 n3 c3)) rfl rfl _ _ HR.out (by kernel_rfl) rfl (scr_one _ _ _ _ _ _ _ _ _ _) ?_)
  (try simp only [Exit.inBlock, Exit.then])
  refine bodyPost_ret (v := .tuple #[.agg (scrA s' (.slice a1 n1 c1) (.slice a2 n2 c2') (.slice a3 n3 c3)), .int .i64 er]) ?_ rfl ⟨_, _, _, rfl, ?_, below_setRow HB.out (by omega) _⟩
  · exact Grd.results_row_tmp rfl _ _ (w.heap.size + 3) _ _ _ _ rfl (setRow_heap _ _ _ _ _ _ HR.out) Tryz.underlying32 rfl (by kernel_rfl) _ rfl
  · exact (ScrO.off HO.out HR.out screen_is (by omega) fun k hk => setRow_other _ _ _ _ hk).mono hsz
set_option maxHeartbeats 2000000 in
set_option maxRecDepth 100000 in
theorem insl_calls (s s' : Scr) (cv tv gv : Value) (k : Int) (er : Int) (w0 w : World) (hV : ScrV w0 s cv tv gv) (hM : w0.heap.size ≤ w.heap.size)
    (hC : ∀ W, Below w.heap.size w W → Calls Tryz.prog 37 #[.agg (scrA s cv tv gv), .int .i64 k, .func (.func 35) #[] #[]] W (Made w0 W s' er)) :
    Calls Tryz.prog 14 #[.agg (scrA s cv tv gv), .int .i64 k] w (Made w0 w s' er) := by
  obtain ⟨ca, cc, rfl⟩ := hV.c.shape
  obtain ⟨ta, tc, rfl⟩ := hV.t.slice
  obtain ⟨ga, gc, rfl⟩ := hV.g.slice
  have hkb : Below w.heap.size w ((w.alloc (.cells (scrA s (.slice ca s.cs.length cc) (.slice ta s.tabs.length tc) (.slice ga s.gone.length gc)) 32)).alloc (.cells #[.int .i64 0, .int .i64 0, .slice none 0 0, .int .i64 0, .int .i64 0, .bool false, .int .i64 0, .int .i64 0, .int .i64 0, .int .i64 0, .int .i64 0, .int .i64 0, .slice none 0 0, .int .i64 0, .int .i64 0, .int .i64 0, .int .i64 0, .int .i64 0, .int .i64 0, .int .i32 0, .string ⟨#[]⟩, .slice none 0 0] 32)) := (((Below.refl _ _).alloc (by simp) _).alloc (by simp) _)
  have hx0 : (w.alloc (.cells (scrA s (.slice ca s.cs.length cc) (.slice ta s.tabs.length tc) (.slice ga s.gone.length gc)) 32)).heap[w.heap.size]? = some (.cells (scrA s (.slice ca s.cs.length cc) (.slice ta s.tabs.length tc) (.slice ga s.gone.length gc)) 32 (0, 0)) := by
    have h := heap_alloc_new w (.cells (scrA s (.slice ca s.cs.length cc) (.slice ta s.tabs.length tc) (.slice ga s.gone.length gc)) 32)
    have e : w.heap.size = w.heap.size := by simp
    rw [e] at h
    exact h
  have hx0 := (Below.heap_alloc (w.alloc (.cells (scrA s (.slice ca s.cs.length cc) (.slice ta s.tabs.length tc) (.slice ga s.gone.length gc)) 32)) (.cells #[.int .i64 0, .int .i64 0, .slice none 0 0, .int .i64 0, .int .i64 0, .bool false, .int .i64 0, .int .i64 0, .int .i64 0, .int .i64 0, .int .i64 0, .int .i64 0, .slice none 0 0, .int .i64 0, .int .i64 0, .int .i64 0, .int .i64 0, .int .i64 0, .int .i64 0, .int .i32 0, .string ⟨#[]⟩, .slice none 0 0] 32) _ (heap_lt hx0)).trans hx0
  have hx1 : ((w.alloc (.cells (scrA s (.slice ca s.cs.length cc) (.slice ta s.tabs.length tc) (.slice ga s.gone.length gc)) 32)).alloc (.cells #[.int .i64 0, .int .i64 0, .slice none 0 0, .int .i64 0, .int .i64 0, .bool false, .int .i64 0, .int .i64 0, .int .i64 0, .int .i64 0, .int .i64 0, .int .i64 0, .slice none 0 0, .int .i64 0, .int .i64 0, .int .i64 0, .int .i64 0, .int .i64 0, .int .i64 0, .int .i32 0, .string ⟨#[]⟩, .slice none 0 0] 32)).heap[w.heap.size + 1]? = some (.cells #[.int .i64 0, .int .i64 0, .slice none 0 0, .int .i64 0, .int .i64 0, .bool false, .int .i64 0, .int .i64 0, .int .i64 0, .int .i64 0, .int .i64 0, .int .i64 0, .slice none 0 0, .int .i64 0, .int .i64 0, .int .i64 0, .int .i64 0, .int .i64 0, .int .i64 0, .int .i32 0, .string ⟨#[]⟩, .slice none 0 0] 32 (0, 0)) := by
    have h := heap_alloc_new (w.alloc (.cells (scrA s (.slice ca s.cs.length cc) (.slice ta s.tabs.length tc) (.slice ga s.gone.length gc)) 32)) (.cells #[.int .i64 0, .int .i64 0, .slice none 0 0, .int .i64 0, .int .i64 0, .bool false, .int .i64 0, .int .i64 0, .int .i64 0, .int .i64 0, .int .i64 0, .int .i64 0, .slice none 0 0, .int .i64 0, .int .i64 0, .int .i64 0, .int .i64 0, .int .i64 0, .int .i64 0, .int .i32 0, .string ⟨#[]⟩, .slice none 0 0] 32)
    have e : (w.alloc (.cells (scrA s (.slice ca s.cs.length cc) (.slice ta s.tabs.length tc) (.slice ga s.gone.length gc)) 32)).heap.size = w.heap.size + 1 := by simp
    rw [e] at h
    exact h
  have HX0 : Hid _ := hx0
  have HXR : Hid _ := hx1
  have HKB : Hid _ := hkb
  have HC := hC _ hkb
  have hsz : w.heap.size ≤ ((w.alloc (.cells (scrA s (.slice ca s.cs.length cc) (.slice ta s.tabs.length tc) (.slice ga s.gone.length gc)) 32)).alloc (.cells #[.int .i64 0, .int .i64 0, .slice none 0 0, .int .i64 0, .int .i64 0, .bool false, .int .i64 0, .int .i64 0, .int .i64 0, .int .i64 0, .int .i64 0, .int .i64 0, .slice none 0 0, .int .i64 0, .int .i64 0, .int .i64 0, .int .i64 0, .int .i64 0, .int .i64 0, .int .i32 0, .string ⟨#[]⟩, .slice none 0 0] 32)).heap.size := hkb.size
  clear hkb hV hC hx0 hx1
  go_enter Tryz.func14, Tryz.ntmps14
  go_upto_region 1 with fail
  generalize ((w.alloc (.cells (scrA s (.slice ca s.cs.length cc) (.slice ta s.tabs.length tc) (.slice ga s.gone.length gc)) 32)).alloc (.cells #[.int .i64 0, .int .i64 0, .slice none 0 0, .int .i64 0, .int .i64 0, .bool false, .int .i64 0, .int .i64 0, .int .i64 0, .int .i64 0, .int .i64 0, .int .i64 0, .slice none 0 0, .int .i64 0, .int .i64 0, .int .i64 0, .int .i64 0, .int .i64 0, .int .i64 0, .int .i32 0, .string ⟨#[]⟩, .slice none 0 0] 32)) = X at *
  go_wp2_with (refine wpList_load_row rfl 32 (.tmp 2) rfl w.heap.size rfl _ _ _ _ HX0.out Tryz.underlying32 rfl (by kernel_rfl) ?_)
  refine HC.mono ?_
  rintro e V ⟨cv', tv', gv', rfl, hO, c2⟩
  obtain ⟨a1, n1, c1, a2, n2, c2', a3, n3, c3, rfl, rfl, rfl⟩ := hO.shapes
  have HO : Hid (ScrO V w0.heap.size _ s' _ _ _) := hO
  have HR : Hid (V.heap[w.heap.size + 1]? = _) := Grd.carry HXR.out c2
  have HB : Hid (Below w.heap.size w V) := HKB.out.trans (c2.mono HKB.out.size)
  clear hO c2 HC
  go_wp2_with (refine wpList_store_row rfl 32 (.tmp 4) (.tmp 9) rfl (w.heap.size + 1) (scrA s' (.slice a1 n1 c1) (.slice a2 n2 c2') (.slice a3 n3 c3)) rfl rfl _ _ HR.out (by kernel_rfl) rfl (scr_one _ _ _ _ _ _ _ _ _ _) ?_)
  (try simp only [Exit.inBlock, Exit.then])
  refine bodyPost_ret (v := .tuple #[.agg (scrA s' (.slice a1 n1 c1) (.slice a2 n2 c2') (.slice a3 n3 c3)), .int .i64 er]) ?_ rfl ⟨_, _, _, rfl, ?_, below_setRow HB.out (by omega) _⟩
  · exact Grd.results_row_tmp rfl _ _ (w.heap.size + 1) _ _ _ _ rfl (setRow_heap _ _ _ _ _ _ HR.out) Tryz.underlying32 rfl (by kernel_rfl) _ rfl
  · exact (ScrO.off HO.out HR.out screen_is (by omega) fun k hk => setRow_other _ _ _ _ hk).mono hsz
set_option maxHeartbeats 2000000 in
set_option maxRecDepth 100000 in
theorem dell_calls (s s' : Scr) (cv tv gv : Value) (k : Int) (er : Int) (w0 w : World) (hV : ScrV w0 s cv tv gv) (hM : w0.heap.size ≤ w.heap.size)
    (hC : ∀ W, Below w.heap.size w W → Calls Tryz.prog 37 #[.agg (scrA s cv tv gv), .int .i64 k, .func (.func 38) #[] #[]] W (Made w0 W s' er)) :
    Calls Tryz.prog 15 #[.agg (scrA s cv tv gv), .int .i64 k] w (Made w0 w s' er) := by
  obtain ⟨ca, cc, rfl⟩ := hV.c.shape
  obtain ⟨ta, tc, rfl⟩ := hV.t.slice
  obtain ⟨ga, gc, rfl⟩ := hV.g.slice
  have hkb : Below w.heap.size w ((w.alloc (.cells (scrA s (.slice ca s.cs.length cc) (.slice ta s.tabs.length tc) (.slice ga s.gone.length gc)) 32)).alloc (.cells #[.int .i64 0, .int .i64 0, .slice none 0 0, .int .i64 0, .int .i64 0, .bool false, .int .i64 0, .int .i64 0, .int .i64 0, .int .i64 0, .int .i64 0, .int .i64 0, .slice none 0 0, .int .i64 0, .int .i64 0, .int .i64 0, .int .i64 0, .int .i64 0, .int .i64 0, .int .i32 0, .string ⟨#[]⟩, .slice none 0 0] 32)) := (((Below.refl _ _).alloc (by simp) _).alloc (by simp) _)
  have hx0 : (w.alloc (.cells (scrA s (.slice ca s.cs.length cc) (.slice ta s.tabs.length tc) (.slice ga s.gone.length gc)) 32)).heap[w.heap.size]? = some (.cells (scrA s (.slice ca s.cs.length cc) (.slice ta s.tabs.length tc) (.slice ga s.gone.length gc)) 32 (0, 0)) := by
    have h := heap_alloc_new w (.cells (scrA s (.slice ca s.cs.length cc) (.slice ta s.tabs.length tc) (.slice ga s.gone.length gc)) 32)
    have e : w.heap.size = w.heap.size := by simp
    rw [e] at h
    exact h
  have hx0 := (Below.heap_alloc (w.alloc (.cells (scrA s (.slice ca s.cs.length cc) (.slice ta s.tabs.length tc) (.slice ga s.gone.length gc)) 32)) (.cells #[.int .i64 0, .int .i64 0, .slice none 0 0, .int .i64 0, .int .i64 0, .bool false, .int .i64 0, .int .i64 0, .int .i64 0, .int .i64 0, .int .i64 0, .int .i64 0, .slice none 0 0, .int .i64 0, .int .i64 0, .int .i64 0, .int .i64 0, .int .i64 0, .int .i64 0, .int .i32 0, .string ⟨#[]⟩, .slice none 0 0] 32) _ (heap_lt hx0)).trans hx0
  have hx1 : ((w.alloc (.cells (scrA s (.slice ca s.cs.length cc) (.slice ta s.tabs.length tc) (.slice ga s.gone.length gc)) 32)).alloc (.cells #[.int .i64 0, .int .i64 0, .slice none 0 0, .int .i64 0, .int .i64 0, .bool false, .int .i64 0, .int .i64 0, .int .i64 0, .int .i64 0, .int .i64 0, .int .i64 0, .slice none 0 0, .int .i64 0, .int .i64 0, .int .i64 0, .int .i64 0, .int .i64 0, .int .i64 0, .int .i32 0, .string ⟨#[]⟩, .slice none 0 0] 32)).heap[w.heap.size + 1]? = some (.cells #[.int .i64 0, .int .i64 0, .slice none 0 0, .int .i64 0, .int .i64 0, .bool false, .int .i64 0, .int .i64 0, .int .i64 0, .int .i64 0, .int .i64 0, .int .i64 0, .slice none 0 0, .int .i64 0, .int .i64 0, .int .i64 0, .int .i64 0, .int .i64 0, .int .i64 0, .int .i32 0, .string ⟨#[]⟩, .slice none 0 0] 32 (0, 0)) := by
    have h := heap_alloc_new (w.alloc (.cells (scrA s (.slice ca s.cs.length cc) (.slice ta s.tabs.length tc) (.slice ga s.gone.length gc)) 32)) (.cells #[.int .i64 0, .int .i64 0, .slice none 0 0, .int .i64 0, .int .i64 0, .bool false, .int .i64 0, .int .i64 0, .int .i64 0, .int .i64 0, .int .i64 0, .int .i64 0, .slice none 0 0, .int .i64 0, .int .i64 0, .int .i64 0, .int .i64 0, .int .i64 0, .int .i64 0, .int .i32 0, .string ⟨#[]⟩, .slice none 0 0] 32)
    have e : (w.alloc (.cells (scrA s (.slice ca s.cs.length cc) (.slice ta s.tabs.length tc) (.slice ga s.gone.length gc)) 32)).heap.size = w.heap.size + 1 := by simp
    rw [e] at h
    exact h
  have HX0 : Hid _ := hx0
  have HXR : Hid _ := hx1
  have HKB : Hid _ := hkb
  have HC := hC _ hkb
  have hsz : w.heap.size ≤ ((w.alloc (.cells (scrA s (.slice ca s.cs.length cc) (.slice ta s.tabs.length tc) (.slice ga s.gone.length gc)) 32)).alloc (.cells #[.int .i64 0, .int .i64 0, .slice none 0 0, .int .i64 0, .int .i64 0, .bool false, .int .i64 0, .int .i64 0, .int .i64 0, .int .i64 0, .int .i64 0, .int .i64 0, .slice none 0 0, .int .i64 0, .int .i64 0, .int .i64 0, .int .i64 0, .int .i64 0, .int .i64 0, .int .i32 0, .string ⟨#[]⟩, .slice none 0 0] 32)).heap.size := hkb.size
  clear hkb hV hC hx0 hx1
  go_enter Tryz.func15, Tryz.ntmps15
  go_upto_region 1 with fail
  generalize ((w.alloc (.cells (scrA s (.slice ca s.cs.length cc) (.slice ta s.tabs.length tc) (.slice ga s.gone.length gc)) 32)).alloc (.cells #[.int .i64 0, .int .i64 0, .slice none 0 0, .int .i64 0, .int .i64 0, .bool false, .int .i64 0, .int .i64 0, .int .i64 0, .int .i64 0, .int .i64 0, .int .i64 0, .slice none 0 0, .int .i64 0, .int .i64 0, .int .i64 0, .int .i64 0, .int .i64 0, .int .i64 0, .int .i32 0, .string ⟨#[]⟩, .slice none 0 0] 32)) = X at *
  go_wp2_with (refine wpList_load_row rfl 32 (.tmp 2) rfl w.heap.size rfl _ _ _ _ HX0.out Tryz.underlying32 rfl (by kernel_rfl) ?_)
  refine HC.mono ?_
  rintro e V ⟨cv', tv', gv', rfl, hO, c2⟩
  obtain ⟨a1, n1, c1, a2, n2, c2', a3, n3, c3, rfl, rfl, rfl⟩ := hO.shapes
  have HO : Hid (ScrO V w0.heap.size _ s' _ _ _) := hO
  have HR : Hid (V.heap[w.heap.size + 1]? = _) := Grd.carry HXR.out c2
  have HB : Hid (Below w.heap.size w V) := HKB.out.trans (c2.mono HKB.out.size)
  clear hO c2 HC
  go_wp2_with (refine wpList_store_row rfl 32 (.tmp 4) (.tmp 9) rfl (w.heap.size + 1) (scrA s' (.slice a1 n1 c1) (.slice a2 n2 c2') (.slice a3 n3 c3)) rfl rfl _ _ HR.out (by kernel_rfl) rfl (scr_one _ _ _ _ _ _ _ _ _ _) ?_)
  (try simp only [Exit.inBlock, Exit.then])
  refine bodyPost_ret (v := .tuple #[.agg (scrA s' (.slice a1 n1 c1) (.slice a2 n2 c2') (.slice a3 n3 c3)), .int .i64 er]) ?_ rfl ⟨_, _, _, rfl, ?_, below_setRow HB.out (by omega) _⟩
  · exact Grd.results_row_tmp rfl _ _ (w.heap.size + 1) _ _ _ _ rfl (setRow_heap _ _ _ _ _ _ HR.out) Tryz.underlying32 rfl (by kernel_rfl) _ rfl
  · exact (ScrO.off HO.out HR.out screen_is (by omega) fun k hk => setRow_other _ _ _ _ hk).mono hsz
end Put
end Go.Proofs.YtjmiifegjghliaaGreatDoor

/- Package shift: counted, moveRows; the closures of Up, Down, changeLines. -/
namespace Go.Proofs.YtjmiifegjghliaaGreatDoor
open Go.ChangeShapes Go.WideShapes Go.ChangeAt Go.RowKit
namespace Put
open Grd (C SliceAt CellsAt gridErr z0 nilV flat rowsL)
theorem countedS_any (n : Int) (w : World) : Calls Tryz.prog 70 #[.int .i64 n] w fun e w' => e = .returned (.int .i64 (cnt n)) ∧ w = w' := by
  have h1 := Grd.max2 n 1
  have h2 := Grd.min2 (max n 1) 9999
  go_enter Tryz.func70, Tryz.ntmps70
  go_wp2_with fail
  go_ret
  exact ⟨rfl, rfl⟩
/-- What one step makes of a sheet. -/
def StepAt (F : FuncId) (M N p n top bot hh : Nat) (bk : Int) (f : Scr × List (List C) → Scr × List (List C)) : Prop :=
  ∀ V x, Rolls n bot hh bk x → ShAt 56 V M N p x.1 x.2 → Calls Tryz.prog F #[.pointer (some ⟨p, 0, none⟩), .int .i64 (top : Int)] V fun e V' => e = .returned (.tuple #[]) ∧ ShAt 56 V' M N p (f x).1 (f x).2 ∧ Below N V V'
theorem iterN_rolls {n bot hh : Nat} {bk : Int} {f : Scr × List (List C) → Scr × List (List C)} (hf : ∀ x, Rolls n bot hh bk x → Rolls n bot hh bk (f x)) (x : Scr × List (List C)) (h : Rolls n bot hh bk x) : ∀ j, Rolls n bot hh bk (iterN f j x)
  | 0 => h
  | j + 1 => hf _ (iterN_rolls hf x h j)
set_option maxHeartbeats 4000000 in
set_option maxRecDepth 100000 in
theorem moveRows_any (F : FuncId) (hpl : Plain F) (f : Scr × List (List C) → Scr × List (List C)) (W : World) (M N p n top bot hh K : Nat) (bk k : Int) (s : Scr) (rows : List (List C)) (hS : ShAt 56 W M N p s rows) (hR : Rolls n bot hh bk (s, rows)) (hf : ∀ x, Rolls n bot hh bk x → Rolls n bot hh bk (f x)) (hF : StepAt F M N p n top bot hh bk f) (htb : top ≤ bot) (hbh : bot < hh) (hh60 : hh ≤ 60) (hK : min (cnt k) ((bot : Int) - top + 1) = (K : Int)) :
    Calls Tryz.prog 40 #[.pointer (some ⟨p, 0, none⟩), .int .i64 (top : Int), .int .i64 k, .func (.func F) #[] #[]] W fun e W' => e = .returned (.tuple #[]) ∧ ShAt 56 W' M N p (iterN f K (s, rows)).1 (iterN f K (s, rows)).2 ∧ Below N W W' := by
  obtain ⟨c0, c1, c3, c4, c5, c9, c10, c11, c19, fz⟩ := hS.words
  have hb0 : s.bot = bot := hR.b
  rw [hb0] at c10
  have HCT : Hid (∀ V, Calls Tryz.prog 70 #[.int .i64 k] V fun e w' => e = .returned (.int .i64 (cnt k)) ∧ V = w') := fun V => countedS_any k V
  have hmn := Grd.min2 (cnt k) ((bot : Int) - top + 1)
  rw [hK] at hmn
  have hc := cnt_range k
  have hw1 : IntKind.i64.wrap ((bot : Int) - top) = (bot : Int) - top := wrap_id _ (by omega) (by omega)
  have hw2 : IntKind.i64.wrap ((bot : Int) - top + 1) = (bot : Int) - top + 1 := wrap_id _ (by omega) (by omega)
  have hKl : K ≤ 60 := by omega
  have HS : Hid (ShAt 56 W.drew M N p s rows) := hS.drew
  have HBd : Hid (Below N W W.drew) := (Below.refl _ _).drew
  have HRR : Hid (∀ j, Rolls n bot hh bk (iterN f j (s, rows))) := iterN_rolls hf (s, rows) hR
  have HF : Hid (StepAt F M N p n top bot hh bk f) := hF
  unfold Plain at hpl
  have e0 : W.drew.cell? ⟨p, 10, none⟩ = some (.int .i64 (bot : Int)) := c10
  clear hS hR hf hF hb0 hK c0 c1 c3 c4 c5 c9 c11 c19 fz
  generalize cnt k = ck at *
  go_enter Tryz.func40, Tryz.ntmps40
  go_upto_region 0 with fail
  go_region_held3 (fun w' => w'.cell? ⟨p, 10, none⟩ = some (.int .i64 (bot : Int)))
    (first | exact e0)
    (first | (go_at_call 70; refine (HCT.out _).mono ?_; rintro e V ⟨rfl, hv⟩; subst hv))
  clear c10 e0 hmn HCT hw1 hw2
  generalize W.drew = X at *
  go_wp2_with fail
  go_loopg [19] K (fun q v wr => ∃ j : Nat, v = .int .i64 (j : Int) ∧ j ≤ K ∧ K - j ≤ q ∧ ShAt 56 wr M N p (iterN f j (s, rows)).1 (iterN f j (s, rows)).2 ∧ Below N W wr)
  case atStart => exact ⟨0, rfl, by omega, by omega, HS.out, HBd.out⟩
  case round =>
    obtain ⟨j, rfl, hjK, hq, hSj, hBj⟩ := hrel
    by_cases hlt : j < K
    · have lt1 : (j : Int) < (K : Int) := by omega
      have HST := HF.out wr _ (HRR.out j) hSj
      have HB : Hid (Below N W wr) := hBj
      have HN : Hid (iterN f (j + 1) (s, rows) = f (iterN f j (s, rows))) := rfl
      generalize iterN f j (s, rows) = x at HST HN
      clear hSj hBj HS HBd
      go_wp2_with fail
      refine HST.mono ?_
      rintro e V ⟨rfl, hS2, hB2⟩
      go_wp2_with fail
      go_roundg (K - (j + 1))
      case measure => omega
      case rel => exact ⟨j + 1, by first | rfl | simp, by omega, by omega, by rw [HN.out]; exact hS2, HB.out.trans hB2⟩
    · have lt1 : ¬ (j : Int) < (K : Int) := by omega
      have ej : j = K := by omega
      subst ej
      go_wp2_with fail
      go_end0
      exact ⟨rfl, hSj, hBj⟩
theorem plain_up : Plain 41 := by
  intro args W
  kernel_rfl
theorem plain_down : Plain 35 := by
  intro args W
  kernel_rfl
theorem plain_drop : Plain 38 := by
  intro args W
  kernel_rfl
theorem step_up (M N p n top bot hh : Nat) (bk : Int) (hn1 : 1 ≤ n) (hn2 : n ≤ 120) (htb : top ≤ bot) (hbh : bot < hh) (hh60 : hh ≤ 60) : StepAt 41 M N p n top bot hh bk (rUp n top bot true) := by
  intro V x hR hS
  refine (up_any' V M N p n x.1 x.2 hS top bot hR.b hR.w hn1 hn2 (by have := hR.r; omega) (by have := hR.r; omega) (by have := hR.r; omega) hR.g).mono ?_
  rintro e V' ⟨rfl, h1, h2, -⟩
  refine ⟨rfl, ?_, h2⟩
  have e : rUp n top bot true x = (upS x.1 x.2 top, replR x.2 n x.1.sb top bot) := by
    unfold rUp upS
    simp
  rw [e]
  exact h1
theorem step_down (M N p n top bot hh : Nat) (bk : Int) (hn1 : 1 ≤ n) (hn2 : n ≤ 120) (htb : top ≤ bot) (hbh : bot < hh) (hh60 : hh ≤ 60) : StepAt 35 M N p n top bot hh bk (rDn n top bot) := by
  intro V x hR hS
  refine (down_any' V M N p n x.1 x.2 hS top bot hR.b hR.w hn1 hn2 (by have := hR.r; omega) (by have := hR.r; omega) (by have := hR.r; omega)).mono ?_
  rintro e V' ⟨rfl, h1, h2, -⟩
  exact ⟨rfl, h1, h2⟩
theorem step_drop (M N p n top bot hh : Nat) (bk : Int) (hn1 : 1 ≤ n) (hn2 : n ≤ 120) (htb : top ≤ bot) (hbh : bot < hh) (hh60 : hh ≤ 60) : StepAt 38 M N p n top bot hh bk (rUp n top bot false) := by
  intro V x hR hS
  refine (drop_any V M N p n x.1 x.2 hS top bot hR.b hR.w hn1 hn2 (by have := hR.r; omega) (by have := hR.r; omega) (by have := hR.r; omega)).mono ?_
  rintro e V' ⟨rfl, h1, h2, -⟩
  refine ⟨rfl, ?_, h2⟩
  have e : rUp n top bot false x = (x.1, replR x.2 n x.1.sb top bot) := by
    unfold rUp
    simp
  rw [e]
  exact h1
end Put
end Go.Proofs.YtjmiifegjghliaaGreatDoor

/- Package shift: the closures of Up, Down and changeLines. -/
namespace Go.Proofs.YtjmiifegjghliaaGreatDoor
open Go.ChangeShapes Go.WideShapes Go.ChangeAt Go.RowKit
namespace Put
open Grd (C SliceAt CellsAt gridErr z0 nilV flat rowsL)
/-- How often rows move. -/
def oftK (k : Int) (top bot : Nat) : Nat := (min (cnt k) ((bot : Int) - top + 1)).toNat
theorem oftK_eq (k : Int) (top bot : Nat) (h : top ≤ bot) : min (cnt k) ((bot : Int) - top + 1) = (oftK k top bot : Int) := by
  have := cnt_range k
  unfold oftK
  omega
set_option maxHeartbeats 2000000 in
set_option maxRecDepth 100000 in
theorem upc_does (k : Int) (B1 M : Nat) (w : World) (s : Scr) (rows : List (List C)) (n top bot hh : Nat) (hB1 : w.cell? ⟨B1, 0, none⟩ = some (.int .i64 k)) (hR : Rolls n bot hh s.sb (s, rows)) (ht : s.top = top) (hn1 : 1 ≤ n) (hn2 : n ≤ 120) (htb : top ≤ bot) (hbh : bot < hh) (hh60 : hh ≤ 60) :
    Does 39 #[.pointer (some ⟨B1, 0, none⟩)] M w s (iterN (rUp n top bot true) (oftK k top bot) (s, rows)).1 rows (iterN (rUp n top bot true) (oftK k top bot) (s, rows)).2 := by
  intro W p hb hS
  have b0 : Below w.heap.size W W.drew := (Below.refl _ _).drew
  have q1 := cell_stay (hb.trans b0) hB1
  have hSd : ShAt 56 W.drew M w.heap.size p s rows := hS.drew
  obtain ⟨-, -, -, -, -, c9, -, -, -, -⟩ := hSd.words
  rw [ht] at c9
  have HM := moveRows_any 41 plain_up (rUp n top bot true) W.drew M _ p n top bot hh _ s.sb k s rows hSd hR (fun x hx => hx.up top true (by omega) hbh) (step_up M _ p n top bot hh s.sb hn1 hn2 htb hbh hh60) htb hbh hh60 (oftK_eq k top bot htb)
  have HB : Hid (Below w.heap.size W W.drew) := b0
  generalize iterN (rUp n top bot true) (oftK k top bot) (s, rows) = z at *
  clear hS hSd hB1 hR ht hb b0
  go_enter Tryz.func39, Tryz.ntmps39
  go_upto_region 0 with fail
  go_region_with (first | (go_at_call 40; refine HM.mono ?_; rintro e V ⟨rfl, h1, h2⟩; have h3 := HB.out.trans h2))
  all_goals go_wp2_with fail
  all_goals go_end0
  all_goals exact ⟨rfl, h1, h3⟩
set_option maxHeartbeats 2000000 in
set_option maxRecDepth 100000 in
theorem downc_does (k : Int) (B1 M : Nat) (w : World) (s : Scr) (rows : List (List C)) (n top bot hh : Nat) (hB1 : w.cell? ⟨B1, 0, none⟩ = some (.int .i64 k)) (hR : Rolls n bot hh s.sb (s, rows)) (ht : s.top = top) (hn1 : 1 ≤ n) (hn2 : n ≤ 120) (htb : top ≤ bot) (hbh : bot < hh) (hh60 : hh ≤ 60) :
    Does 42 #[.pointer (some ⟨B1, 0, none⟩)] M w s (iterN (rDn n top bot) (oftK k top bot) (s, rows)).1 rows (iterN (rDn n top bot) (oftK k top bot) (s, rows)).2 := by
  intro W p hb hS
  have b0 : Below w.heap.size W W.drew := (Below.refl _ _).drew
  have q1 := cell_stay (hb.trans b0) hB1
  have hSd : ShAt 56 W.drew M w.heap.size p s rows := hS.drew
  obtain ⟨-, -, -, -, -, c9, -, -, -, -⟩ := hSd.words
  rw [ht] at c9
  have HM := moveRows_any 35 plain_down (rDn n top bot) W.drew M _ p n top bot hh _ s.sb k s rows hSd hR (fun x hx => hx.dn top (by omega) hbh) (step_down M _ p n top bot hh s.sb hn1 hn2 htb hbh hh60) htb hbh hh60 (oftK_eq k top bot htb)
  have HB : Hid (Below w.heap.size W W.drew) := b0
  generalize iterN (rDn n top bot) (oftK k top bot) (s, rows) = z at *
  clear hS hSd hB1 hR ht hb b0
  go_enter Tryz.func42, Tryz.ntmps42
  go_upto_region 0 with fail
  go_region_with (first | (go_at_call 40; refine HM.mono ?_; rintro e V ⟨rfl, h1, h2⟩; have h3 := HB.out.trans h2))
  all_goals go_wp2_with fail
  all_goals go_end0
  all_goals exact ⟨rfl, h1, h3⟩
set_option maxHeartbeats 4000000 in
set_option maxRecDepth 100000 in
theorem lines_does (F : FuncId) (hpl : Plain F) (f : Nat → Scr × List (List C) → Scr × List (List C)) (k : Int) (B1 B2 M : Nat) (w : World) (s : Scr) (rows : List (List C)) (n bot hh : Nat) (hB1 : w.cell? ⟨B1, 0, none⟩ = some (.int .i64 k)) (hB2 : w.cell? ⟨B2, 0, none⟩ = some (.func (.func F) #[] #[])) (hR : Rolls n bot hh s.sb (s, rows)) (hbh : bot < hh) (hh60 : hh ≤ 60)
    (hf : ∀ y, y ≤ bot → ∀ x, Rolls n bot hh s.sb x → Rolls n bot hh s.sb (f y x)) (hF : ∀ y, y ≤ bot → ∀ N p, StepAt F M N p n y bot hh s.sb (f y)) (hy0 : 0 ≤ s.y) (hy1 : s.y ≤ 60) (hb0 : s.bot = bot) :
    Does 69 #[.pointer (some ⟨B1, 0, none⟩), .pointer (some ⟨B2, 0, none⟩)] M w s (if s.top ≤ s.y ∧ s.y ≤ s.bot then (iterN (f s.y.toNat) (oftK k s.y.toNat bot) ({ s with x := 0, late := false }, rows)).1 else s) rows (if s.top ≤ s.y ∧ s.y ≤ s.bot then (iterN (f s.y.toNat) (oftK k s.y.toNat bot) ({ s with x := 0, late := false }, rows)).2 else rows) := by
  intro W p hb hS
  have q1 : ∀ V, Below w.heap.size W V → V.cell? ⟨B1, 0, none⟩ = some (.int .i64 k) := fun V h => cell_stay (hb.trans h) hB1
  have q2 : ∀ V, Below w.heap.size W V → V.cell? ⟨B2, 0, none⟩ = some (.func (.func F) #[] #[]) := fun V h => cell_stay (hb.trans h) hB2
  have Q1 : Hid (∀ V, Below w.heap.size W V → V.cell? ⟨B1, 0, none⟩ = some (.int .i64 k)) := q1
  have Q2 : Hid (∀ V, Below w.heap.size W V → V.cell? ⟨B2, 0, none⟩ = some (.func (.func F) #[] #[])) := q2
  have HSd : Hid (ShAt 56 W.drew M w.heap.size p s rows) := hS.drew
  have HBd : Hid (Below w.heap.size W W.drew) := (Below.refl _ _).drew
  obtain ⟨c0, c1, c3, c4, c5, c9, c10, c11, c19, fz⟩ := hS.words
  by_cases hin : s.top ≤ s.y ∧ s.y ≤ s.bot
  · rw [if_pos hin, if_pos hin]
    obtain ⟨y, hy⟩ := Int.eq_ofNat_of_zero_le hy0
    have hyb : y ≤ bot := by omega
    have l1 : ¬ s.y < s.top := by omega
    have l2 : ¬ s.bot < s.y := by omega
    have HMR : Hid (∀ V, ShAt 56 V M w.heap.size p { s with x := 0, late := false } rows → Calls Tryz.prog 40 #[.pointer (some ⟨p, 0, none⟩), .int .i64 s.y, .int .i64 k, .func (.func F) #[] #[]] V fun e W' => e = .returned (.tuple #[]) ∧ ShAt 56 W' M w.heap.size p (iterN (f s.y.toNat) (oftK k s.y.toNat bot) ({ s with x := 0, late := false }, rows)).1 (iterN (f s.y.toNat) (oftK k s.y.toNat bot) ({ s with x := 0, late := false }, rows)).2 ∧ Below w.heap.size V W') := fun V h => by
      have e : s.y.toNat = y := by omega
      rw [e]
      have key := moveRows_any F hpl (f y) V M _ p n y bot hh _ s.sb k _ rows h ⟨hR.w, hR.b, rfl, hR.r, hR.g⟩ (hf y hyb) (hF y hyb _ p) hyb hbh hh60 (oftK_eq k y bot hyb)
      have e2 : ((y : Nat) : Int) = s.y := by omega
      rw [e2] at key
      exact key
    generalize (iterN (f s.y.toNat) (oftK k s.y.toNat bot) ({ s with x := 0, late := false }, rows)) = z at *
    clear hS hB1 hB2 hR hf hF hin hb q1 q2 hy hb0 c0 c1 c11 c19 fz
    go_enter Tryz.func69, Tryz.ntmps69
    go_upto_region 0 with fail
    go_region
    clear c3 c4 c5 c9 c10
    generalize W.drew = X at *
    obtain ⟨-, -, d3, d4, d5, -, -, -, -, df⟩ := HSd.out.words
    have g3 := df 3
    have g5 := df 5
    have k1 : ShAt 56 (X.setCell ⟨p, 3, none⟩ (.int .i64 0)) M w.heap.size p { s with x := 0 } rows := HSd.out.set sheet_is 3 _ (fun _ _ _ _ => rfl) rfl rfl
    have k2 : ShAt 56 ((X.setCell ⟨p, 3, none⟩ (.int .i64 0)).setCell ⟨p, 5, none⟩ (.bool false)) M w.heap.size p { s with x := 0, late := false } rows := k1.set sheet_is 5 _ (fun _ _ _ _ => rfl) rfl rfl
    have HK2 : Hid (ShAt 56 ((X.setCell ⟨p, 3, none⟩ (.int .i64 0)).setCell ⟨p, 5, none⟩ (.bool false)) M w.heap.size p { s with x := 0, late := false } rows) := k2
    have HB2 : Hid (Below w.heap.size W ((X.setCell ⟨p, 3, none⟩ (.int .i64 0)).setCell ⟨p, 5, none⟩ (.bool false))) := (HBd.out.setCell HSd.out.lo _).setCell HSd.out.lo _
    clear k1 k2 df HSd HBd
    go_upto_region 2 with fail
    clear d3 d4 d5 g3 g5
    generalize ((X.setCell ⟨p, 3, none⟩ (.int .i64 0)).setCell ⟨p, 5, none⟩ (.bool false)) = Y at *
    have HKd : Hid (ShAt 56 Y.drew M w.heap.size p { s with x := 0, late := false } rows) := HK2.out.drew
    have HBe : Hid (Below w.heap.size W Y.drew) := HB2.out.drew
    obtain ⟨-, -, -, d4, -, -, -, -, -, -⟩ := HKd.out.words
    replace d4 : Y.drew.cell? ⟨p, 4, none⟩ = some (.int .i64 s.y) := d4
    have r1 := Q1.out _ HBe.out
    have r2 := Q2.out _ HBe.out
    have HM2 := HMR.out _ HKd.out
    clear HMR HKd HK2
    go_region_with (first | (go_at_call 40; refine HM2.mono ?_; rintro e V ⟨rfl, h1, h2⟩; have h3 := HBe.out.trans h2))
    all_goals go_wp2_with fail
    all_goals go_end0
    all_goals exact ⟨rfl, h1, h3⟩
  · rw [if_neg hin, if_neg hin]
    clear hS hB1 hB2 hR hf hF hb q1 q2 Q1 Q2 hb0 c0 c1 c3 c5 c11 c19 fz
    by_cases l1 : s.y < s.top
    · clear hin
      go_enter Tryz.func69, Tryz.ntmps69
      go_upto_region 0 with fail
      go_region
      all_goals go_wp2_with fail
      all_goals (try simp only [Exit.inBlock, Exit.then])
      all_goals exact bodyPost_ret (v := .tuple #[]) (results_none rfl _ _ _) rfl ⟨rfl, HSd.out, HBd.out⟩
    · have l2 : s.bot < s.y := by omega
      clear hin
      go_enter Tryz.func69, Tryz.ntmps69
      go_upto_region 0 with fail
      go_region
      all_goals go_wp2_with fail
      all_goals (try simp only [Exit.inBlock, Exit.then])
      all_goals exact bodyPost_ret (v := .tuple #[]) (results_none rfl _ _ _) rfl ⟨rfl, HSd.out, HBd.out⟩
end Put
end Go.Proofs.YtjmiifegjghliaaGreatDoor

/- Act: rollup, rolldown, insertlines, deletelines. -/
namespace Go.Proofs.YtjmiifegjghliaaGreatDoor
open Go.ChangeShapes Go.WideShapes Go.ChangeAt Go.RowKit
namespace Put
open Grd (C SliceAt CellsAt gridErr z0 nilV flat rowsL)
theorem oft_up (k : Int) (top bot : Nat) (h : top ≤ bot) : max (-((bot : Int) - top + 1)) (min (cnt k) ((bot : Int) - top + 1)) = (oftK k top bot : Int) := by
  have := cnt_range k
  unfold oftK
  omega
theorem oft_dn (k : Int) (top bot : Nat) (h : top ≤ bot) : max (-((bot : Int) - top + 1)) (min (-(cnt k)) ((bot : Int) - top + 1)) = -(oftK k top bot : Int) := by
  have := cnt_range k
  unfold oftK
  omega
set_option maxHeartbeats 8000000 in
set_option maxRecDepth 100000 in
theorem act_rollup (k m : Int) (s : Scr) (rows : List (List C)) (n top bot hh : Nat) (hR : Rolls n bot hh s.sb (s, rows)) (ht : s.top = top) (hn1 : 1 ≤ n) (hn2 : n ≤ 120) (htb : top ≤ bot) (hbh : bot < hh) (hh60 : hh ≤ 60) : ActMakes ⟨#[114, 111, 108, 108, 117, 112]⟩ k m s (iterN (rUp n top bot true) (oftK k top bot) (s, rows)).1 rows (iterN (rUp n top bot true) (oftK k top bot) (s, rows)).2 := by
  intro N W p hN hD
  have b0 : Below W.heap.size W W.drew := (Below.refl _ _).drew
  have hDd := hD.next b0
  obtain ⟨-, -, -, -, -, c9, -, -, -, -⟩ := hDd.words
  rw [ht] at c9
  have hc := cnt_range k
  have HO : Hid (∀ V, Calls Tryz.prog 59 #[.int .i64 k] V fun e w' => e = .returned (.int .i64 (cnt k)) ∧ V = w') := fun V => often_any k V
  have HRL := roll_up N p n top bot hh (oftK k top bot) s.sb s rows W.drew true (cnt k) hDd hR hn1 hn2 htb hbh hh60 (oft_up k top bot htb)
  have HB : Hid (Below N W W.drew) := (Below.refl _ _).drew
  generalize iterN (rUp n top bot true) (oftK k top bot) (s, rows) = z at *
  clear hD hDd hR ht
  generalize cnt k = ck at *
  go_enter Tryz.func27, Tryz.ntmps27
  go_upto_region 90 with fail
  go_region_with (first
    | (go_at_call 59; refine (HO.out _).mono ?_; rintro e V ⟨rfl, hv⟩; subst hv)
    | (go_at_call 66; refine HRL.mono ?_; rintro e V2 ⟨rfl, h1, h2⟩; have h3 := HB.out.trans h2))
  all_goals go_wp2_with fail
  all_goals go_end0
  all_goals exact ⟨rfl, h1, h3⟩
set_option maxHeartbeats 8000000 in
set_option maxRecDepth 100000 in
theorem act_rolldown (k m : Int) (s : Scr) (rows : List (List C)) (n top bot hh : Nat) (hR : Rolls n bot hh s.sb (s, rows)) (ht : s.top = top) (hn1 : 1 ≤ n) (hn2 : n ≤ 120) (htb : top ≤ bot) (hbh : bot < hh) (hh60 : hh ≤ 60) : ActMakes ⟨#[114, 111, 108, 108, 100, 111, 119, 110]⟩ k m s (iterN (rDn n top bot) (oftK k top bot) (s, rows)).1 rows (iterN (rDn n top bot) (oftK k top bot) (s, rows)).2 := by
  intro N W p hN hD
  have b0 : Below W.heap.size W W.drew := (Below.refl _ _).drew
  have hDd := hD.next b0
  obtain ⟨-, -, -, -, -, c9, -, -, -, -⟩ := hDd.words
  rw [ht] at c9
  have hc := cnt_range k
  have HO : Hid (∀ V, Calls Tryz.prog 59 #[.int .i64 k] V fun e w' => e = .returned (.int .i64 (cnt k)) ∧ V = w') := fun V => often_any k V
  have HRL := roll_dn N p n top bot hh (oftK k top bot) s.sb s rows W.drew true (-(cnt k)) hDd hR hn1 hn2 htb hbh hh60 (oft_dn k top bot htb)
  have HB : Hid (Below N W W.drew) := (Below.refl _ _).drew
  have hwn : IntKind.i64.wrap (-(cnt k)) = -(cnt k) := wrap_id _ (by omega) (by omega)
  generalize iterN (rDn n top bot) (oftK k top bot) (s, rows) = z at *
  clear hD hDd hR ht
  generalize cnt k = ck at *
  go_enter Tryz.func27, Tryz.ntmps27
  go_upto_region 92 with fail
  go_region_with (first
    | (go_at_call 59; refine (HO.out _).mono ?_; rintro e V ⟨rfl, hv⟩; subst hv)
    | (go_at_call 66; refine HRL.mono ?_; rintro e V2 ⟨rfl, h1, h2⟩; have h3 := HB.out.trans h2))
  all_goals go_wp2_with fail
  all_goals go_end0
  all_goals exact ⟨rfl, h1, h3⟩
set_option maxHeartbeats 8000000 in
set_option maxRecDepth 100000 in
theorem act_dellines (k m : Int) (s : Scr) (rows : List (List C)) (n bot hh : Nat) (hR : Rolls n bot hh s.sb (s, rows)) (hn1 : 1 ≤ n) (hn2 : n ≤ 120) (hbh : bot < hh) (hh60 : hh ≤ 60) (hy0 : 0 ≤ s.y) : ActMakes ⟨#[100, 101, 108, 101, 116, 101, 108, 105, 110, 101, 115]⟩ k m s (if s.top ≤ s.y ∧ s.y ≤ s.bot then (iterN (rUp n s.y.toNat bot false) (oftK k s.y.toNat bot) ({ s with x := 0, late := false }, rows)).1 else s) rows (if s.top ≤ s.y ∧ s.y ≤ s.bot then (iterN (rUp n s.y.toNat bot false) (oftK k s.y.toNat bot) ({ s with x := 0, late := false }, rows)).2 else rows) := by
  intro N W p hN hD
  obtain ⟨c0, c1, c3, c4, c5, c9, c10, c11, c19, fz⟩ := hD.words
  have hb0 : s.bot = bot := hR.b
  have HDd : Hid (DkAt W.drew N p s rows) := hD.next ((Below.refl _ _).drew)
  have HBd : Hid (Below N W W.drew) := (Below.refl _ _).drew
  have hc := cnt_range k
  have HLO : Hid (N ≤ p) := hD.lo
  by_cases hin : s.top ≤ s.y ∧ s.y ≤ s.bot
  · rw [if_pos hin, if_pos hin]
    obtain ⟨y, hy⟩ := Int.eq_ofNat_of_zero_le hy0
    have hyb : y ≤ bot := by omega
    have l1 : s.top ≤ s.y := hin.1
    have l2 : s.y ≤ s.bot := hin.2
    have HO : Hid (∀ V, Calls Tryz.prog 59 #[.int .i64 k] V fun e w' => e = .returned (.int .i64 (cnt k)) ∧ V = w') := fun V => often_any k V
    have HRL : Hid (∀ V, DkAt V N p { s with x := 0, late := false } rows → Calls Tryz.prog 66 #[.pointer (some ⟨p, 0, none⟩), .int .i64 s.y, .int .i64 (cnt k), .bool false] V fun e W' => e = .returned (.tuple #[]) ∧ DkAt W' N p (iterN (rUp n s.y.toNat bot false) (oftK k s.y.toNat bot) ({ s with x := 0, late := false }, rows)).1 (iterN (rUp n s.y.toNat bot false) (oftK k s.y.toNat bot) ({ s with x := 0, late := false }, rows)).2 ∧ Below N V W') := fun V h => by
      have e : s.y.toNat = y := by omega
      rw [e]
      have key := roll_up N p n y bot hh (oftK k y bot) s.sb _ rows V false (cnt k) h ⟨hR.w, hR.b, rfl, hR.r, hR.g⟩ hn1 hn2 hyb hbh hh60 (oft_up k y bot hyb)
      have e2 : ((y : Nat) : Int) = s.y := by omega
      rw [e2] at key
      exact key
    generalize (iterN (rUp n s.y.toNat bot false) (oftK k s.y.toNat bot) ({ s with x := 0, late := false }, rows)) = z at *
    generalize cnt k = ck at *
    clear hD hR hin hy hb0 c0 c1 c11 c19 fz
    go_enter Tryz.func27, Tryz.ntmps27
    go_upto_region 83 with fail
    go_region
    clear c3 c4 c5 c9 c10
    generalize W.drew = X at *
    obtain ⟨-, -, d3, d4, d5, -, -, -, -, df⟩ := HDd.out.words
    have g3 := df 3
    have g5 := df 5
    have k1 : DkAt (X.setCell ⟨p, 3, none⟩ (.int .i64 0)) N p { s with x := 0 } rows := HDd.out.set 3 _ (fun _ _ _ _ => rfl) rfl rfl
    have HK2 : Hid (DkAt ((X.setCell ⟨p, 3, none⟩ (.int .i64 0)).setCell ⟨p, 5, none⟩ (.bool false)) N p { s with x := 0, late := false } rows) := k1.set 5 _ (fun _ _ _ _ => rfl) rfl rfl
    have HB2 : Hid (Below N W ((X.setCell ⟨p, 3, none⟩ (.int .i64 0)).setCell ⟨p, 5, none⟩ (.bool false))) := (HBd.out.setCell HLO.out _).setCell HLO.out _
    clear k1 df HDd HBd
    go_wp2_with fail
    refine (HO.out _).mono ?_
    rintro e V ⟨rfl, hv⟩
    subst hv
    clear d3 d4 d5 g3 g5
    generalize ((X.setCell ⟨p, 3, none⟩ (.int .i64 0)).setCell ⟨p, 5, none⟩ (.bool false)) = Y at *
    obtain ⟨-, -, -, d4, -, -, -, -, -, -⟩ := HK2.out.words
    replace d4 : Y.cell? ⟨p, 4, none⟩ = some (.int .i64 s.y) := d4
    have HM2 := HRL.out _ HK2.out
    clear HRL HK2
    go_wp2_with fail
    refine HM2.mono ?_
    rintro e V ⟨rfl, h1, h2⟩
    have h3 := HB2.out.trans h2
    go_wp2_with fail
    go_end0
    exact ⟨rfl, h1, h3⟩
  · rw [if_neg hin, if_neg hin]
    clear hD hR hb0 c0 c1 c3 c5 c11 c19 fz
    by_cases l1 : s.top ≤ s.y
    · have l2 : ¬ s.y ≤ s.bot := by omega
      clear hin
      go_enter Tryz.func27, Tryz.ntmps27
      go_upto_region 83 with fail
      go_region
      all_goals go_wp2_with fail
      all_goals go_end0
      all_goals exact ⟨rfl, HDd.out, HBd.out⟩
    · clear hin
      go_enter Tryz.func27, Tryz.ntmps27
      go_upto_region 83 with fail
      go_region
      all_goals go_wp2_with fail
      all_goals go_end0
      all_goals exact ⟨rfl, HDd.out, HBd.out⟩
set_option maxHeartbeats 8000000 in
set_option maxRecDepth 100000 in
theorem act_inslines (k m : Int) (s : Scr) (rows : List (List C)) (n bot hh : Nat) (hR : Rolls n bot hh s.sb (s, rows)) (hn1 : 1 ≤ n) (hn2 : n ≤ 120) (hbh : bot < hh) (hh60 : hh ≤ 60) (hy0 : 0 ≤ s.y) : ActMakes ⟨#[105, 110, 115, 101, 114, 116, 108, 105, 110, 101, 115]⟩ k m s (if s.top ≤ s.y ∧ s.y ≤ s.bot then (iterN (rDn n s.y.toNat bot) (oftK k s.y.toNat bot) ({ s with x := 0, late := false }, rows)).1 else s) rows (if s.top ≤ s.y ∧ s.y ≤ s.bot then (iterN (rDn n s.y.toNat bot) (oftK k s.y.toNat bot) ({ s with x := 0, late := false }, rows)).2 else rows) := by
  intro N W p hN hD
  obtain ⟨c0, c1, c3, c4, c5, c9, c10, c11, c19, fz⟩ := hD.words
  have hb0 : s.bot = bot := hR.b
  have HDd : Hid (DkAt W.drew N p s rows) := hD.next ((Below.refl _ _).drew)
  have HBd : Hid (Below N W W.drew) := (Below.refl _ _).drew
  have hc := cnt_range k
  have HLO : Hid (N ≤ p) := hD.lo
  by_cases hin : s.top ≤ s.y ∧ s.y ≤ s.bot
  · rw [if_pos hin, if_pos hin]
    obtain ⟨y, hy⟩ := Int.eq_ofNat_of_zero_le hy0
    have hyb : y ≤ bot := by omega
    have l1 : s.top ≤ s.y := hin.1
    have l2 : s.y ≤ s.bot := hin.2
    have HO : Hid (∀ V, Calls Tryz.prog 59 #[.int .i64 k] V fun e w' => e = .returned (.int .i64 (cnt k)) ∧ V = w') := fun V => often_any k V
    have HRL : Hid (∀ V, DkAt V N p { s with x := 0, late := false } rows → Calls Tryz.prog 66 #[.pointer (some ⟨p, 0, none⟩), .int .i64 s.y, .int .i64 (-(cnt k)), .bool false] V fun e W' => e = .returned (.tuple #[]) ∧ DkAt W' N p (iterN (rDn n s.y.toNat bot) (oftK k s.y.toNat bot) ({ s with x := 0, late := false }, rows)).1 (iterN (rDn n s.y.toNat bot) (oftK k s.y.toNat bot) ({ s with x := 0, late := false }, rows)).2 ∧ Below N V W') := fun V h => by
      have e : s.y.toNat = y := by omega
      rw [e]
      have key := roll_dn N p n y bot hh (oftK k y bot) s.sb _ rows V false (-(cnt k)) h ⟨hR.w, hR.b, rfl, hR.r, hR.g⟩ hn1 hn2 hyb hbh hh60 (oft_dn k y bot hyb)
      have e2 : ((y : Nat) : Int) = s.y := by omega
      rw [e2] at key
      exact key
    have hwn : IntKind.i64.wrap (-(cnt k)) = -(cnt k) := wrap_id _ (by omega) (by omega)
    generalize (iterN (rDn n s.y.toNat bot) (oftK k s.y.toNat bot) ({ s with x := 0, late := false }, rows)) = z at *
    generalize cnt k = ck at *
    clear hD hR hin hy hb0 c0 c1 c11 c19 fz
    go_enter Tryz.func27, Tryz.ntmps27
    go_upto_region 83 with fail
    go_region
    clear c3 c4 c5 c9 c10
    generalize W.drew = X at *
    obtain ⟨-, -, d3, d4, d5, -, -, -, -, df⟩ := HDd.out.words
    have g3 := df 3
    have g5 := df 5
    have k1 : DkAt (X.setCell ⟨p, 3, none⟩ (.int .i64 0)) N p { s with x := 0 } rows := HDd.out.set 3 _ (fun _ _ _ _ => rfl) rfl rfl
    have HK2 : Hid (DkAt ((X.setCell ⟨p, 3, none⟩ (.int .i64 0)).setCell ⟨p, 5, none⟩ (.bool false)) N p { s with x := 0, late := false } rows) := k1.set 5 _ (fun _ _ _ _ => rfl) rfl rfl
    have HB2 : Hid (Below N W ((X.setCell ⟨p, 3, none⟩ (.int .i64 0)).setCell ⟨p, 5, none⟩ (.bool false))) := (HBd.out.setCell HLO.out _).setCell HLO.out _
    clear k1 df HDd HBd
    go_wp2_with fail
    refine (HO.out _).mono ?_
    rintro e V ⟨rfl, hv⟩
    subst hv
    clear d3 d4 d5 g3 g5
    generalize ((X.setCell ⟨p, 3, none⟩ (.int .i64 0)).setCell ⟨p, 5, none⟩ (.bool false)) = Y at *
    obtain ⟨-, -, -, d4, -, -, -, -, -, -⟩ := HK2.out.words
    replace d4 : Y.cell? ⟨p, 4, none⟩ = some (.int .i64 s.y) := d4
    have HM2 := HRL.out _ HK2.out
    clear HRL HK2
    go_wp2_with fail
    refine HM2.mono ?_
    rintro e V ⟨rfl, h1, h2⟩
    have h3 := HB2.out.trans h2
    go_wp2_with fail
    go_end0
    exact ⟨rfl, h1, h3⟩
  · rw [if_neg hin, if_neg hin]
    clear hD hR hb0 c0 c1 c3 c5 c11 c19 fz
    by_cases l1 : s.top ≤ s.y
    · have l2 : ¬ s.y ≤ s.bot := by omega
      clear hin
      go_enter Tryz.func27, Tryz.ntmps27
      go_upto_region 83 with fail
      go_region
      all_goals go_wp2_with fail
      all_goals go_end0
      all_goals exact ⟨rfl, HDd.out, HBd.out⟩
    · clear hin
      go_enter Tryz.func27, Tryz.ntmps27
      go_upto_region 83 with fail
      go_region
      all_goals go_wp2_with fail
      all_goals go_end0
      all_goals exact ⟨rfl, HDd.out, HBd.out⟩
end Put
end Go.Proofs.YtjmiifegjghliaaGreatDoor
