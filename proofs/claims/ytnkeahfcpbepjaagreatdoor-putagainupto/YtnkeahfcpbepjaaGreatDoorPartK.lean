/- printRune. -/
import Derived.Test.YtnkeahfcpbepjaaGreatDoorPartI
import Derived.Test.YtnkeahfcpbepjaaGreatDoorPartJ
import Derived.Deep.Cut
import Derived.Deep.CutRange
import Derived.Test.YtnkeahfcpbepjaaGreatDoorPartG
import Derived.Shelf.SlicesE.Delete
import Derived.Lib.OwnBridge
import Derived.Lib.JoinLaws
import Derived.Lib.AppendZeros
import Derived.Lib.Overlaps
import Derived.Laws.Externs
import Derived.Laws.IdiomCopy
import Derived.Shelf.RegionOpenPlain
import Derived.Test.YtnkeahfcpbepjaaGreatDoorPartE
import Derived.Deep.RegionHeld3
import Derived.Test.YtnkeahfcpbepjaaGreatDoorPartH
import Derived.BigRegion
import Derived.Test.YtnkeahfcpbepjaaGreatDoorPartF
import Derived.Maps.AppendAt
namespace Go.Proofs.YtnkeahfcpbepjaaGreatDoor
open Go.ChangeShapes Go.WideShapes Go.ChangeAt Go.RowKit
namespace Put
open Grd (C SliceAt CellsAt gridErr z0 nilV flat rowsL)
open Sty (isSt)
open Txt (wd)
def fitsB (s : Scr) (k : Int) : Bool := decide (k ≤ s.w - s.x)
/-- Does a rune of k cells begin a new row? -/
def brkB (s : Scr) (k : Int) : Bool := s.late || (hasB s.modes 4 && !fitsB s k)
theorem other_int : Other 3 := by unfold Other; decide
theorem plain_fits : Plain 82 := by
  intro args W
  kernel_rfl
set_option maxHeartbeats 1000000 in
theorem fits_any (W : World) (M N p Bw Bp : Nat) (s : Scr) (rows : List (List C)) (k : Int) (hS : ShAt 64 W M N p s rows) (hw : W.cell? ⟨Bw, 0, none⟩ = some (.int .i64 k)) (hp : W.cell? ⟨Bp, 0, none⟩ = some (.pointer (some ⟨p, 0, none⟩))) (h0 : 0 ≤ s.x) (h1 : s.x ≤ 120) (w1 : 1 ≤ s.w) (w2 : s.w ≤ 120) :
    Calls Tryz.prog 82 #[.pointer (some ⟨Bw, 0, none⟩), .pointer (some ⟨Bp, 0, none⟩)] W fun e W' => e = .returned (.bool (fitsB s k)) ∧ W' = W.drew := by
  obtain ⟨c0, c1, c3, c4, c5, c9, c10, c11, c19, f⟩ := hS.words
  clear c1 c4 c5 c9 c10 c11 c19 f hS
  have hwr : IntKind.i64.wrap (s.w - s.x) = s.w - s.x := wrap_id _ (by omega) (by omega)
  unfold fitsB
  go_enter Tryz.func82, Tryz.ntmps82
  go_upto_region 1 with fail
  go_region
  go_wp2_with fail
  go_ret
  exact ⟨rfl, rfl⟩
/-- What printRune's own variables say: where its sheet is, and how wide its rune. -/
structure Own (X : World) (p Bp Bw : Nat) (k : Int) : Prop where
  bp : X.heap[Bp]? = some (.cells #[.pointer (some ⟨p, 0, none⟩)] 57 (0, 0))
  bw : X.heap[Bw]? = some (.cells #[.int .i64 k] 3 (0, 0))
theorem Own.next {X Y : World} {p Bp Bw : Nat} {k : Int} (h : Own X p Bp Bw k) (hf : Framed X Y) : Own Y p Bp Bw k := ⟨hf _ _ h.bp (other_cells other_ptr), hf _ _ h.bw (other_cells other_int)⟩
/-- All that stays true on the way through printRune. -/
structure Way (W X : World) (M N p Bp Bw : Nat) (k : Int) (s : Scr) (rows : List (List C)) : Prop where
  o : Own X p Bp Bw k
  s : ShAt 64 X M N p s rows
  b : Below N W X
  f : Framed W X
theorem Way.ran {W X Y : World} {M N p Bp Bw : Nat} {k : Int} {s s' : Scr} {rows rows' : List (List C)} {e : Ending} (h : Way W X M N p Bp Bw k s rows) (hr : Ran X M N p s' rows' e Y) : Way W Y M N p Bp Bw k s' rows' := ⟨h.o.next hr.2.2.2, hr.2.1, h.b.trans hr.2.2.1, h.f.trans hr.2.2.2⟩
theorem Way.drew {W X : World} {M N p Bp Bw : Nat} {k : Int} {s : Scr} {rows : List (List C)} (h : Way W X M N p Bp Bw k s rows) : Way W X.drew M N p Bp Bw k s rows := ⟨h.o.next (Framed.of_below ((Below.refl _ _).drew)), h.s.drew, h.b.drew, h.f.trans (Framed.of_below ((Below.refl _ _).drew))⟩
theorem Way.cells {W X : World} {M N p Bp Bw : Nat} {k : Int} {s : Scr} {rows : List (List C)} (h : Way W X M N p Bp Bw k s rows) : X.cell? ⟨Bp, 0, none⟩ = some (.pointer (some ⟨p, 0, none⟩)) ∧ X.cell? ⟨Bw, 0, none⟩ = some (.int .i64 k) := ⟨cell_one' h.o.bp, cell_one' h.o.bw⟩
theorem way_start {W W1 : World} {M N p : Nat} {k : Int} {s : Scr} {rows : List (List C)} (hS : ShAt 64 W M N p s rows) (kb : Below W.heap.size W (W.alloc (.cells #[.pointer (some ⟨p, 0, none⟩)] 57))) (hx : (W.alloc (.cells #[.pointer (some ⟨p, 0, none⟩)] 57)).heap[W.heap.size]? = some (.cells #[.pointer (some ⟨p, 0, none⟩)] 57 (0, 0))) (b1 : Below (W.alloc (.cells #[.pointer (some ⟨p, 0, none⟩)] 57)).heap.size (W.alloc (.cells #[.pointer (some ⟨p, 0, none⟩)] 57)) W1) :
    Way W (W1.alloc (.cells #[.int .i64 k] 3)) M N p W.heap.size W1.heap.size k s rows := by
  have hb : Below W.heap.size W (W1.alloc (.cells #[.int .i64 k] 3)) := (kb.trans (b1.mono kb.size)).alloc (kb.trans (b1.mono kb.size)).size _
  have hNW : N ≤ W.heap.size := by
    obtain ⟨cv, tv, gv, rv, gvs, vs, h⟩ := hS
    have := h.lo
    have := heap_lt h.blk
    omega
  refine ⟨⟨?_, heap_alloc_new W1 _⟩, hS.next hb, hb.mono hNW, Framed.of_below hb⟩
  have h1 := Grd.carry hx b1
  exact (Below.heap_alloc W1 _ _ (heap_lt h1)).trans h1
set_option maxHeartbeats 4000000 in
set_option maxRecDepth 100000 in
theorem print_skip (W : World) (M N p : Nat) (s : Scr) (rows : List (List C)) (r : Int) (hT : Txt.Tab W) (hS : ShAt 64 W M N p s rows) (hsk : wd r = 0 ∨ s.w < wd r) :
    Calls Tryz.prog 36 #[.pointer (some ⟨p, 0, none⟩), .int .i32 r] W (Ran W M N p s rows) := by
  have kb : Below W.heap.size W (W.alloc (.cells #[.pointer (some ⟨p, 0, none⟩)] 57)) := (Below.refl _ _).alloc (Nat.le_refl _) _
  have hx0 := heap_alloc_new W (.cells #[.pointer (some ⟨p, 0, none⟩)] 57)
  have HW := Txt.width_any r (W.alloc (.cells #[.pointer (some ⟨p, 0, none⟩)] 57)) (Grd.Tab.next hT kb)
  have HX0 : Hid _ := hx0
  have HKB : Hid _ := kb
  have HS : Hid (ShAt 64 W M N p s rows) := hS
  clear hx0 kb hS hT
  generalize wd r = k at *
  by_cases k0 : k = 0
  · have q0 : (k == 0) = true := by rw [beq_iff_eq]; exact k0
    clear k0 hsk
    go_enter Tryz.func36, Tryz.ntmps36
    go_wp2_with fail
    refine HW.mono ?_
    rintro e W1 ⟨rfl, b1⟩
    have hw := way_start HS.out HKB.out HX0.out b1 (k := k)
    clear HW b1 HX0 HKB
    go_upto_region 2 with fail
    generalize hB : W1.heap.size = Bw at *
    clear hB
    generalize (W1.alloc (.cells #[.int .i64 k] 3)) = X at *
    have HWY : Hid (Way W X M N p W.heap.size Bw k s rows) := hw
    obtain ⟨cp, cw⟩ := hw.cells
    clear hw HS
    go_region
    go_wp2_with fail
    refine bodyPost_ret (v := .tuple #[]) (results_none rfl _ _ _) rfl ?_
    exact ⟨rfl, HWY.out.drew.s, HWY.out.drew.b, HWY.out.drew.f⟩
  · have q0 : (k == 0) = false := by rw [beq_eq_false_iff_ne]; exact k0
    have q1 : s.w < k := by omega
    clear k0 hsk
    go_enter Tryz.func36, Tryz.ntmps36
    go_wp2_with fail
    refine HW.mono ?_
    rintro e W1 ⟨rfl, b1⟩
    have hw := way_start HS.out HKB.out HX0.out b1 (k := k)
    clear HW b1 HX0 HKB
    go_upto_region 2 with fail
    generalize hB : W1.heap.size = Bw at *
    clear hB
    generalize (W1.alloc (.cells #[.int .i64 k] 3)) = X at *
    have HWY : Hid (Way W X M N p W.heap.size Bw k s rows) := hw
    obtain ⟨cp, cw⟩ := hw.cells
    obtain ⟨c0, -⟩ := hw.s.words
    clear hw HS
    go_region
    go_wp2_with fail
    refine bodyPost_ret (v := .tuple #[]) (results_none rfl _ _ _) rfl ?_
    exact ⟨rfl, HWY.out.drew.s, HWY.out.drew.b, HWY.out.drew.f⟩
/-- What a new row gives: nothing, where none is begun. -/
structure Fed (W : World) (M N p : Nat) (k : Int) (s s1 : Scr) (rows rows1 : List (List C)) : Prop where
  go : brkB s k = true → ∀ X, Below N W X → ShAt 64 X M N p { s with x := 0 } rows → Calls Tryz.prog 83 #[.pointer (some ⟨p, 0, none⟩)] X (Ran X M N p s1 rows1)
  no : brkB s k = false → s1 = s ∧ rows1 = rows
  w : s1.w = s.w
  x0 : 0 ≤ s1.x
  x1 : s1.x ≤ 120
set_option maxHeartbeats 8000000 in
set_option maxRecDepth 100000 in
theorem print_main (W : World) (M N p : Nat) (s s1 : Scr) (rows rows1 rows2 rows3 : List (List C)) (r : Int) (hT : Txt.Tab W) (hS : ShAt 64 W M N p s rows) (hk0 : wd r ≠ 0) (hkw : wd r ≤ s.w) (h0 : 0 ≤ s.x) (h1 : s.x ≤ 120) (w1 : 1 ≤ s.w) (w2 : s.w ≤ 120)
    (hF : Fed W M N p (wd r) s s1 rows rows1) (hft : fitsB s1 (wd r) = true)
    (hR : hasB s1.modes 1 = true → ∀ X, Below N W X → ShAt 64 X M N p s1 rows1 → Calls Tryz.prog 84 #[.pointer (some ⟨p, 0, none⟩), .int .i64 (wd r)] X (Ran X M N p s1 rows2)) (hR2 : hasB s1.modes 1 = false → rows2 = rows1)
    (hW : ∀ X, Below N W X → ShAt 64 X M N p s1 rows2 → Calls Tryz.prog 85 #[.pointer (some ⟨p, 0, none⟩), .int .i32 r] X (Ran X M N p s1 rows3)) :
    Calls Tryz.prog 36 #[.pointer (some ⟨p, 0, none⟩), .int .i32 r] W (Ran W M N p { advS s1 (wd r) with last := r } rows3) := by
  have kb : Below W.heap.size W (W.alloc (.cells #[.pointer (some ⟨p, 0, none⟩)] 57)) := (Below.refl _ _).alloc (Nat.le_refl _) _
  have hx0 := heap_alloc_new W (.cells #[.pointer (some ⟨p, 0, none⟩)] 57)
  have HW := Txt.width_any r (W.alloc (.cells #[.pointer (some ⟨p, 0, none⟩)] 57)) (Grd.Tab.next hT kb)
  have HX0 : Hid _ := hx0
  have HKB : Hid _ := kb
  have HS : Hid (ShAt 64 W M N p s rows) := hS
  have hkr := Txt.wd_range r
  have HF : Hid (Fed W M N p (wd r) s s1 rows rows1) := hF
  have HFT : Hid (fitsB s1 (wd r) = true) := hft
  have HR : Hid (hasB s1.modes 1 = true → ∀ X, Below N W X → ShAt 64 X M N p s1 rows1 → Calls Tryz.prog 84 #[.pointer (some ⟨p, 0, none⟩), .int .i64 (wd r)] X (Ran X M N p s1 rows2)) := hR
  have HR2 : Hid (hasB s1.modes 1 = false → rows2 = rows1) := hR2
  have HWT : Hid (∀ X, Below N W X → ShAt 64 X M N p s1 rows2 → Calls Tryz.prog 85 #[.pointer (some ⟨p, 0, none⟩), .int .i32 r] X (Ran X M N p s1 rows3)) := hW
  clear hx0 kb hS hT hF hft hR hR2 hW
  generalize wd r = k at *
  have q0 : (k == 0) = false := by rw [beq_eq_false_iff_ne]; exact hk0
  have q1 : ¬ s.w < k := by omega
  have hpf := plain_fits
  unfold Plain at hpf
  go_enter Tryz.func36, Tryz.ntmps36
  go_wp2_with fail
  refine HW.mono ?_
  rintro e W1 ⟨rfl, b1⟩
  have hw := way_start HS.out HKB.out HX0.out b1 (k := k)
  clear HW b1 HX0 HKB
  go_upto_region 2 with fail
  generalize hB : W1.heap.size = Bw at *
  clear hB
  generalize (W1.alloc (.cells #[.int .i64 k] 3)) = X at *
  have HWY : Hid (Way W X M N p W.heap.size Bw k s rows) := hw
  obtain ⟨cp, cw⟩ := hw.cells
  obtain ⟨c0, -⟩ := hw.s.words
  clear hw HS
  go_region
  have HW2 : Hid (Way W X.drew M N p W.heap.size Bw k s rows) := HWY.out.drew
  clear cp cw c0 HWY
  generalize X.drew = Y at *
  go_upto_region 4 with fail
  go_cut [34] from 6 to 34 (fun c wx => c = .bool (brkB s k) ∧ Way W wx M N p W.heap.size Bw k s rows)
  case first =>
    have hw := HW2.out
    obtain ⟨cp, cw⟩ := hw.cells
    obtain ⟨c0, -, c3, -, c5, -⟩ := hw.s.words
    have HH := has_any 4 Y hw.s
    have HFI := fits_any Y M N p Bw W.heap.size s rows k hw.s cw cp h0 h1 w1 w2
    clear hw
    cases hl : s.late with
    | true =>
      have HB : Hid (brkB s k = true) := by unfold Hid brkB; rw [hl]; rfl
      rw [hl] at c5
      go_wp2_with fail
      go_meet
      exact ⟨by rw [HB.out], HW2.out⟩
    | false =>
      rw [hl] at c5
      cases hb : hasB s.modes 4 with
      | false =>
        have HB : Hid (brkB s k = false) := by unfold Hid brkB; rw [hl, hb]; rfl
        rw [hb] at HH
        go_wp2_with fail
        refine HH.mono ?_
        rintro e V ⟨rfl, hv⟩
        subst hv
        go_wp2_with fail
        go_meet
        exact ⟨by rw [HB.out], HW2.out⟩
      | true =>
        have HB : Hid (brkB s k = !fitsB s k) := by unfold Hid brkB; rw [hl, hb]; rfl
        rw [hb] at HH
        generalize fitsB s k = fb at *
        go_wp2_with fail
        refine HH.mono ?_
        rintro e V ⟨rfl, hv⟩
        subst hv
        go_wp2_with fail
        refine HFI.mono ?_
        rintro e V ⟨rfl, hv⟩
        subst hv
        go_wp2_with fail
        go_meet
        exact ⟨by rw [HB.out], HW2.out.drew⟩
  case rest =>
    obtain ⟨rfl, hw3⟩ := hcut
    have HW3 : Hid (Way W wc M N p W.heap.size Bw k s rows) := hw3
    clear hw3 HW2
    go_upto_if 34 with fail
    go_cut [] from 6 to 40 (fun wx => Way W wx M N p W.heap.size Bw k s1 rows1)
    case first =>
      cases hb : brkB s k with
      | true =>
        obtain ⟨cp, cw⟩ := HW3.out.cells
        obtain ⟨-, -, c3, -, -, -, -, -, -, f⟩ := HW3.out.s.words
        have f3 := f 3
        obtain ⟨hS4, hB4, hF4⟩ := HW3.out.s.put 3 (.int .i64 0) (s' := { s with x := 0 }) (fun _ _ _ _ => rfl) rfl rfl
        have HW4 : Hid (Way W (wc.setCell ⟨p, 3, none⟩ (.int .i64 0)) M N p W.heap.size Bw k { s with x := 0 } rows) := HW3.out.ran (e := .returned (.tuple #[])) ⟨rfl, hS4, hB4, hF4⟩
        have HFE := HF.out.go hb _ HW4.out.b HW4.out.s
        have d1 := HW4.out.cells.1
        clear hS4 hB4 hF4 f cw
        go_wp2_with fail
        refine HFE.mono ?_
        rintro e V hran
        have hrn := hran
        obtain ⟨rfl, -⟩ := hrn
        have HW5 : Hid (Way W V M N p W.heap.size Bw k s1 rows1) := HW4.out.ran hran
        clear hran cp c3 f3 d1
        go_wp2_with fail
        go_meet
        exact HW5.out
      | false =>
        obtain ⟨e1, e2⟩ := HF.out.no hb
        go_wp2_with fail
        go_meet
        rw [e1, e2]
        exact HW3.out
    case rest =>
      have HW5 : Hid (Way W wc M N p W.heap.size Bw k s1 rows1) := hcut
      clear hcut HW3
      have hw5 := HW5.out
      obtain ⟨cp, cw⟩ := hw5.cells
      have x0 := HF.out.x0
      have x1 := HF.out.x1
      have ew := HF.out.w
      have HEW : Hid (s1.w = s.w) := ew
      have HFI := fits_any wc M N p Bw W.heap.size s1 rows1 k hw5.s cw cp x0 x1 (by omega) (by omega)
      rw [HFT.out] at HFI
      clear hw5 cp cw ew
      go_wp2_with fail
      refine HFI.mono ?_
      rintro e V ⟨rfl, hv⟩
      subst hv
      have HW6 : Hid (Way W wc.drew M N p W.heap.size Bw k s1 rows1) := HW5.out.drew
      clear HFI HW5
      generalize wc.drew = Z at *
      have hw6 := HW6.out
      obtain ⟨cp, cw⟩ := hw6.cells
      have HH := has_any 1 Z hw6.s
      clear hw6
      go_wp2_with fail
      refine HH.mono ?_
      rintro e V ⟨rfl, hv⟩
      subst hv
      clear HH
      go_upto_if 45 with fail
      go_cut [] from 6 to 48 (fun wx => Way W wx M N p W.heap.size Bw k s1 rows2)
      case first =>
        cases hb : hasB s1.modes 1 with
        | true =>
          have HRM := HR.out hb _ HW6.out.b HW6.out.s
          go_wp2_with fail
          refine HRM.mono ?_
          rintro e V hran
          have hrn := hran
          obtain ⟨rfl, -⟩ := hrn
          have HW7 : Hid (Way W V M N p W.heap.size Bw k s1 rows2) := HW6.out.ran hran
          clear hran
          go_wp2_with fail
          go_meet
          exact HW7.out
        | false =>
          go_wp2_with fail
          go_meet
          rw [HR2.out hb]
          exact HW6.out
      case rest =>
        have HW7 : Hid (Way W wc M N p W.heap.size Bw k s1 rows2) := hcut
        clear hcut HW6 cp cw
        obtain ⟨cp, cw⟩ := HW7.out.cells
        have HWR := HWT.out _ HW7.out.b HW7.out.s
        go_wp2_with fail
        refine HWR.mono ?_
        rintro e V hran
        have hrn := hran
        obtain ⟨rfl, -⟩ := hrn
        have HW8 : Hid (Way W V M N p W.heap.size Bw k s1 rows3) := HW7.out.ran hran
        clear hran HW7 HWR cp cw
        obtain ⟨cp, cw⟩ := HW8.out.cells
        have HAD := advance_any V M N p s1 rows3 k HW8.out.s x0 x1 (by omega) (by omega) (by have := HEW.out; omega) (by have := HEW.out; omega)
        go_wp2_with fail
        refine HAD.mono ?_
        rintro e V2 hran
        have hrn := hran
        obtain ⟨rfl, -⟩ := hrn
        have HW9 : Hid (Way W V2 M N p W.heap.size Bw k (advS s1 k) rows3) := HW8.out.ran hran
        clear hran HW8 HAD cp cw
        obtain ⟨cp, cw⟩ := HW9.out.cells
        obtain ⟨-, -, -, -, -, -, -, -, c19, f⟩ := HW9.out.s.words
        have f19 := f 19
        obtain ⟨hS4, hB4, hF4⟩ := HW9.out.s.put 19 (.int .i32 r) (s' := { advS s1 k with last := r }) (fun _ _ _ _ => rfl) rfl rfl
        have HWZ : Hid (Way W (V2.setCell ⟨p, 19, none⟩ (.int .i32 r)) M N p W.heap.size Bw k { advS s1 k with last := r } rows3) := HW9.out.ran (e := .returned (.tuple #[])) ⟨rfl, hS4, hB4, hF4⟩
        clear hS4 hB4 hF4 f
        go_wp2_with fail
        go_end0
        exact ⟨rfl, HWZ.out.s, HWZ.out.b, HWZ.out.f⟩
end Put
end Go.Proofs.YtnkeahfcpbepjaaGreatDoor

/- slices.Delete of one row. -/
namespace Go.Proofs.YtnkeahfcpbepjaaGreatDoor
open Go.ChangeShapes Go.WideShapes Go.ChangeAt Go.RowKit
namespace Put
open Grd (C nilV)
def delRen : Go.Shelf.Ren := ⟨fun | 45 => 145 | n => n, fun | 0 => 0 | 3 => 3 | 4 => 4 | 22 => 30 | 23 => 22 | n => n, fun | n => n⟩
theorem delLays : SlLaysE.n45 Tryz.prog delRen := {
  mixed := by kernel_rfl
  f45 := Exists.intro "slices.Delete[[][]trellis/api.Cell,[]trellis/api.Cell]" ⟨by kernel_rfl, Tryz.func145.trans (congrArg some (by kernel_rfl))⟩
  t0 := Tryz.underlying0
  a0 := Tryz.isAgg0
  z0 := Tryz.sizeOf0
  v0 := Tryz.zeroValue0
  t3 := Tryz.underlying3
  a3 := Tryz.isAgg3
  z3 := Tryz.sizeOf3
  v3 := Tryz.zeroValue3
  t4 := Tryz.underlying4
  a4 := Tryz.isAgg4
  z4 := Tryz.sizeOf4
  v4 := Tryz.zeroValue4
  t22 := Tryz.underlying30
  a22 := Tryz.isAgg30
  z22 := Tryz.sizeOf30
  v22 := Tryz.zeroValue30
  a23 := Tryz.isAgg22
  z23 := Tryz.sizeOf22 }
/-- A slice's words. -/
abbrev Sl := Option Addr × Nat × Nat
def encS (x : Sl) : Value := .slice x.1 x.2.1 x.2.2
theorem encS_one : OneCell encS := fun _ => rfl
def IsSl (v : Value) : Prop := ∃ x : Sl, v = encS x
theorem sls_of : ∀ (vs : List Value), (∀ v, v ∈ vs → IsSl v) → ∃ zs : List Sl, vs = zs.map encS
  | [], _ => ⟨[], rfl⟩
  | v :: vs, h => by
    obtain ⟨x, hx⟩ := h v (by simp)
    obtain ⟨zs, hz⟩ := sls_of vs fun u hu => h u (by simp [hu])
    exact ⟨x :: zs, by rw [hx, hz]; rfl⟩
theorem info_rows1 : (Tryz.prog.info? 22).map (·.size) = some 1 := by kernel_rfl
theorem putRow_other {w : World} {g q k : Nat} {d : Array Sl} (h : k ≠ g) : (Sort.putRow encS (Sort.ahead w q) g 0 d).heap[k]? = w.heap[k]? := by
  simp [Sort.putRow, Sort.mapBlock, Sort.ahead, Array.getElem?_modify, Ne.symm h]
/-- One row goes. -/
theorem delete_own (N g n cap i : Nat) (vs : List Value) (w : World) (h : w.ownsRow N 22 1 (.slice (some ⟨g, 0, none⟩) n cap) n vs) (hv : ∀ v, v ∈ vs → IsSl v) (hi : i < n) :
    Calls Tryz.prog 145 #[.slice (some ⟨g, 0, none⟩) n cap, .int .i64 (i : Int), .int .i64 ((i + 1 : Nat) : Int)] w fun e w' => e = .returned (.slice (some ⟨g, 0, none⟩) (n - 1) cap) ∧ w'.ownsRow N 22 1 (.slice (some ⟨g, 0, none⟩) (n - 1) cap) (n - 1) (vs.eraseIdx i) ∧ (∀ k, k ≠ g → w'.heap[k]? = w.heap[k]?) ∧ Below g w w' := by
  obtain ⟨zs, rfl⟩ := sls_of vs hv
  obtain ⟨g', cap', e0, -, -, h1, h2, hl, hH⟩ := Lib.holds_of_ownsRow h (by intro e; cases e)
  injection e0 with e1 _ e3
  injection e1 with e1
  injection e1 with e1
  subst e1 e3
  obtain ⟨i0, hi0, hz⟩ := Option.map_eq_some_iff.1 info_rows1
  have key := AnyE.slices_Delete delLays encS encS_one (none, 0, 0) Tryz.zeroValue22 i0 hi0 hz g 0 cap i (i + 1) zs.toArray w hH (by simpa [hl] using h1) (by unfold maxLen at h2; omega) (by omega) (by simp; omega)
  have hsz : zs.toArray.size = n := by simp [hl]
  rw [hsz, Nat.add_sub_cancel_left] at key
  refine Calls.mono key ?_
  rintro e w' ⟨rfl, q, rfl⟩
  refine ⟨rfl, ?_, fun k hk => putRow_other hk, Lib.below_putRow (Below.refl _ _) (Nat.le_refl _)⟩
  have hlen : (zs.take i ++ zs.drop (i + 1) ++ List.replicate 1 ((none, 0, 0) : Sl)).length = n := by simp; omega
  have := Lib.ownsRow_putRow (q := q) (k := n - 1) h hlen (by omega)
  have e : (zs.take i ++ zs.drop (i + 1) ++ List.replicate 1 ((none, 0, 0) : Sl)).take (n - 1) = zs.eraseIdx i := by
    rw [List.eraseIdx_eq_take_drop_succ, List.take_left' (by simp; omega)]
  rw [e] at this
  have e2 : (zs.map encS).eraseIdx i = (zs.eraseIdx i).map encS := by rw [List.eraseIdx_eq_take_drop_succ, List.eraseIdx_eq_take_drop_succ, List.map_append, List.map_take, List.map_drop]
  rw [e2]
  exact this
end Put
end Go.Proofs.YtnkeahfcpbepjaaGreatDoor

/- slices.Insert of one row, where there is room. -/
namespace Go.Proofs.YtnkeahfcpbepjaaGreatDoor
open Go.ChangeShapes Go.WideShapes Go.ChangeAt Go.RowKit
namespace Put
open Grd (C nilV)
theorem wp_copyR {P : Program} (w : World) {o : Oper} {a : Act} {K : Act → World → Prop} {Q : Exit → Act → World → Prop} (d s : Operand) (t t' : TypeId)
    (ho : o.op = .call { callee := .builtin .copy, args := #[d, s], argTypes := #[t, t'] }) (v u : Value) (hd : a.eval d = v) (hs : a.eval s = u) {v' : Value} {w' : World}
    (hr : (Builtin.copy_ #[t, t'] o.type #[v, u]).run P w = .ok v' w') (h : K (a.put o.dst v') w') : o.wp P a w K Q := by
  unfold Oper.wp execOp
  simp only [ho, resolve, invoke, builtin, Sem.run_bind, Sem.run_pure, Result.andThen_ok, List.map_toArray, List.map_cons, List.map_nil, hd, hs, hr]
  exact h
theorem wpList_copyR {P : Program} (w : World) {ops : Array Oper} {rest : List Oper} {o : Oper} {a : Act} {Q : Exit → Act → World → Prop} (hgd : o.guard = none) (d s : Operand) (t t' : TypeId)
    (ho : o.op = .call { callee := .builtin .copy, args := #[d, s], argTypes := #[t, t'] }) (v u : Value) (hd : a.eval d = v) (hs : a.eval s = u) {v' : Value} {w' : World}
    (hr : (Builtin.copy_ #[t, t'] o.type #[v, u]).run P w = .ok v' w') (h : wpList P ops Q rest (a.put o.dst v') w') : wpList P ops Q (o :: rest) a w :=
  wpList_plain hgd fun _ hK => wp_copyR w d s t t' ho v u hd hs hr (hK _ _ h)
theorem step_copyR {P : Program} {ops : Array Oper} {o : Oper} {a : Act} {w : World} {K : Act → World → Prop} {Q : Exit → Act → World → Prop} {E : Prop}
    (hg : o.guard = none) (d x : Operand) (dT sT : TypeId) (hop : o.op = Op.call { callee := Callee.builtin Builtin.copy, args := #[d, x], argTypes := #[dT, sT] })
    (v u : Value) (hd : a.eval d = v) (hx : a.eval x = u) {v' : Value} {w' : World} (hr : (Builtin.copy_ #[dT, sT] o.type #[v, u]).run P w = .ok v' w') (hK : K (a.put o.dst v') w') :
    if Region.wanted o (yielded ops a.tmps) = true then Oper.wp P o a w K Q else E := by
  have hw : Region.wanted o (yielded ops a.tmps) = true := by simp [Region.wanted, hg]
  rw [if_pos hw]
  unfold Oper.wp
  simp [execOp, hop, resolve, invoke, builtin, hd, hx, hr, Result.andThen]
  exact hK
/-- Words set one behind the other. -/
def setL (cur : Array Value) (o : Nat) : List Value → Array Value
  | [] => cur
  | v :: r => setL (cur.setIfInBounds o v) (o + 1) r
theorem setL_size : ∀ (xs : List Value) (cur : Array Value) (o : Nat), (setL cur o xs).size = cur.size
  | [], _, _ => rfl
  | v :: r, cur, o => by
    show (setL (cur.setIfInBounds o v) (o + 1) r).size = _
    rw [setL_size r]
    simp
theorem setL_at : ∀ (xs : List Value) (cur : Array Value) (o j : Nat), j < cur.size → (setL cur o xs)[j]? = if o ≤ j ∧ j < o + xs.length then xs[j - o]? else cur[j]?
  | [], cur, o, j, h => by
    rw [if_neg (by simp)]
    rfl
  | v :: r, cur, o, j, h => by
    show (setL (cur.setIfInBounds o v) (o + 1) r)[j]? = _
    rw [setL_at r _ _ j (by simpa using h)]
    by_cases h1 : o + 1 ≤ j ∧ j < o + 1 + r.length
    · rw [if_pos h1, if_pos (by simp; omega), show j - o = (j - (o + 1)) + 1 by omega]
      rfl
    · rw [if_neg h1]
      by_cases h2 : j = o
      · subst h2
        rw [if_pos (by simp)]
        simp [h]
      · rw [if_neg (by simp; omega), Array.getElem?_setIfInBounds_ne (Ne.symm h2)]
theorem setL_heap (g : Nat) (e : TypeId) : ∀ (xs : List Value) (w : World) (o : Nat) (cur : Array Value), w.heap[g]? = some (.cells cur e (0, 0)) → (w.setCells g o xs).heap[g]? = some (.cells (setL cur o xs) e (0, 0))
  | [], _, _, _, h => h
  | v :: r, w, o, cur, h => setL_heap g e r _ _ _ (heap_setCell_same w g o cur e v h)
/-- One row more. -/
theorem ins_list (cur : Array Value) (vs : List Value) (n i : Nat) (v : Value) (hl : vs.length = n) (hi : i ≤ n) (hs : n + 1 ≤ cur.size) (ht : cur.toList.take n = vs) : (setL (setL cur (i + 1) (vs.drop i)) i [v]).toList.take (n + 1) = vs.insertIdx i v := by
  apply List.ext_getElem?
  intro j
  have hc : ∀ k, k < n → cur[k]? = vs[k]? := fun k hk => by rw [← ht, List.getElem?_take_of_lt hk, Array.getElem?_toList]
  by_cases hj : j < n + 1
  · rw [List.getElem?_take_of_lt hj, Array.getElem?_toList, setL_at _ _ _ _ (by rw [setL_size]; omega), List.getElem?_insertIdx]
    by_cases h1 : j < i
    · rw [if_neg (by simp; omega), setL_at _ _ _ _ (by omega), if_neg (by simp; omega), if_pos h1, hc j (by omega)]
    · rw [if_neg h1]
      by_cases h2 : j = i
      · subst h2
        rw [if_pos (by simp), if_pos rfl, if_pos (by omega)]
        simp
      · rw [if_neg (by simp; omega), setL_at _ _ _ _ (by omega), if_pos (by simp; omega), if_neg h2, List.getElem?_drop]
        congr 1
        omega
  · rw [List.getElem?_eq_none (by simp; omega), List.getElem?_eq_none (by rw [List.length_insertIdx]; split <;> omega)]
theorem ins_end (cur : Array Value) (vs : List Value) (n : Nat) (v : Value) (hl : vs.length = n) (hs : n + 1 ≤ cur.size) (ht : cur.toList.take n = vs) : (setL cur n [v]).toList.take (n + 1) = vs.insertIdx n v := by
  have := ins_list cur vs n n v hl (Nat.le_refl _) hs ht
  rw [List.drop_of_length_le (by omega)] at this
  exact this
theorem heap_setCells_off (g k : Nat) (h : k ≠ g) : ∀ (xs : List Value) (o : Nat) (w : World), (w.setCells g o xs).heap[k]? = w.heap[k]? := fun xs o w => Grd.heap_setCells_ne _ k h xs o w
set_option maxHeartbeats 4000000 in
set_option maxRecDepth 100000 in
theorem insert_end (N g n cap vb vc : Nat) (vs : List Value) (v : Value) (w : World) (h : w.ownsRow N 22 1 (.slice (some ⟨g, 0, none⟩) n cap) n vs) (hsv : IsSl v) (hroom : n + 1 ≤ cap) (hvb : w.cell? ⟨vb, 0, none⟩ = some v) :
    Calls Tryz.prog 144 #[.slice (some ⟨g, 0, none⟩) n cap, .int .i64 (n : Int), .slice (some ⟨vb, 0, none⟩) 1 vc] w fun e w' => e = .returned (.slice (some ⟨g, 0, none⟩) (n + 1) cap) ∧ w'.ownsRow N 22 1 (.slice (some ⟨g, 0, none⟩) (n + 1) cap) (n + 1) (vs.insertIdx n v) ∧ (∀ k, k ≠ g → w'.heap[k]? = w.heap[k]?) ∧ Below g w w' := by
  obtain ⟨h0, ⟨h1, -⟩ | ⟨g', cap', cur, hv, hb, hg, hn, hm, hs, ht⟩⟩ := h
  · injection h1 with h1
    cases h1
  injection hv with e1 _ e3
  injection e1 with e1
  injection e1 with e1
  subst e1 e3
  rw [Nat.mul_one] at h0 hs ht
  obtain ⟨x, rfl⟩ := hsv
  have hc63 : cap ≤ 9223372036854775807 := by unfold maxLen at hm; omega
  obtain ⟨i0, hi0, hz⟩ := Option.map_eq_some_iff.1 info_rows1
  have hsrc : Src Tryz.prog 1 30 (.slice (some ⟨vb, 0, none⟩) 1 vc) 1 [encS x] w := Src.ofSlice w und_rows ⟨vb, 0, none⟩ 1 vc [encS x] (by simp) (fun j u hj => by
    rw [Addr.add_lit]
    match j, hj with
    | 0, hj => rw [← Option.some.inj hj]; exact hvb) (by simp [encS, Value.oneCell'])
  have hcell : ∀ j, j < 1 → (w.cell? ⟨g, 0 + n + j, none⟩).isSome = true := fun j hj => by
    simp only [World.cell?, hg]
    simp only [Option.isSome_none, Bool.false_eq_true, if_false]
    rw [Array.getElem?_eq_getElem (by omega)]
    rfl
  have hfz : ∀ j, j < 1 → w.frozen? ⟨g, 0 + n + j, none⟩ = false := fun j _ => by simp [World.frozen?, hg]
  have HE : Hid ((w.setCells g n [encS x]).ownsRow N 22 1 (.slice (some ⟨g, 0, none⟩) (n + 1) cap) (n + 1) (vs.insertIdx n (encS x)) ∧ (∀ k, k ≠ g → (w.setCells g n [encS x]).heap[k]? = w.heap[k]?) ∧ Below g w (w.setCells g n [encS x])) := by
    refine ⟨⟨by rw [List.length_insertIdx, if_pos (by omega)]; omega, .inr ⟨g, cap, _, rfl, hb, setL_heap g _ [encS x] w n cur hg, hroom, hm, by rw [setL_size]; omega, ?_⟩⟩, fun k hk => heap_setCells_off g k hk _ _ _, Grd.below_cells (Nat.le_refl _) _ _ _ (Below.refl _ _)⟩
    rw [Nat.mul_one]
    exact ins_end cur vs n (encS x) h0 (by omega) ht
  clear hg ht hs
  go_enter Tryz.func144, Tryz.ntmps144
  go_wp2_with (at_builtin; refine wpList_append_room1 _ rfl _ _ 30 30 rfl 22 _ _ und_rows info_rows g 0 n cap rfl _ rfl 1 [encS x] hsrc hroom (by simpa using hcell) (by simpa using hfz) ?_)
  go_ret
  exact ⟨rfl, HE.out⟩
theorem isSome_setC (b : Nat) (vs : List Value) (o : Nat) (w : World) (h : ∀ j, j < vs.length → (w.cell? ⟨b, o + j, none⟩).isSome = true) (k : Nat) (hk : (w.cell? ⟨b, k, none⟩).isSome = true) : ((w.setCells b o vs).cell? ⟨b, k, none⟩).isSome = true := by
  by_cases hin : o ≤ k ∧ k < o + vs.length
  · have := World.cell?_setCells_in b vs o w h (k - o) (by omega)
    rw [show o + (k - o) = k by omega] at this
    rw [this]
    simp
  · rw [World.cell?_setCells_out b vs o w ⟨b, k, none⟩ (fun _ _ => by show k < o ∨ o + vs.length ≤ k; omega)]
    exact hk
set_option maxHeartbeats 4000000 in
set_option maxRecDepth 100000 in
theorem insert_shift (N g n cap i vb vc : Nat) (vs : List Value) (v : Value) (w : World) (h : w.ownsRow N 22 1 (.slice (some ⟨g, 0, none⟩) n cap) n vs) (hvs : ∀ u, u ∈ vs → IsSl u) (hsv : IsSl v) (hi : i < n) (hroom : n + 1 ≤ cap) (hvb : w.heap[vb]? = some (.cells #[v] 22 (0, 0))) (hne : vb ≠ g) :
    Calls Tryz.prog 144 #[.slice (some ⟨g, 0, none⟩) n cap, .int .i64 (i : Int), .slice (some ⟨vb, 0, none⟩) 1 vc] w fun e w' => e = .returned (.slice (some ⟨g, 0, none⟩) (n + 1) cap) ∧ w'.ownsRow N 22 1 (.slice (some ⟨g, 0, none⟩) (n + 1) cap) (n + 1) (vs.insertIdx i v) ∧ (∀ k, k ≠ g → w'.heap[k]? = w.heap[k]?) ∧ Below g w w' := by
  obtain ⟨h0, ⟨h1, -⟩ | ⟨g', cap', cur, hv, hb, hg, hn, hm, hs, ht⟩⟩ := h
  · injection h1 with h1
    cases h1
  injection hv with e1 _ e3
  injection e1 with e1
  injection e1 with e1
  subst e1 e3
  rw [Nat.mul_one] at h0 hs ht
  have hsv1 : v.oneCell' = true := by obtain ⟨x, rfl⟩ := hsv; rfl
  have hv1 : ∀ u, u ∈ vs → u.oneCell' = true := fun u hu => by obtain ⟨x, rfl⟩ := hvs u hu; rfl
  have hc63 : cap ≤ 9223372036854775807 := by unfold maxLen at hm; omega
  have hcell : ∀ (W : World), W.heap[g]? = w.heap[g]? → ∀ j, j < cap → (W.cell? ⟨g, 0 + j, none⟩).isSome = true := fun W hW j hj => by
    simp only [World.cell?, hW, hg]
    simp only [Option.isSome_none, Bool.false_eq_true, if_false]
    rw [Array.getElem?_eq_getElem (by omega)]
    rfl
  have hfz : ∀ j, w.frozen? ⟨g, j, none⟩ = false := fun j => by simp [World.frozen?, hg]
  have hcs : ∀ j u, vs[j]? = some u → w.cell? ⟨g, 0 + j, none⟩ = some u := fun j u hj => by
    have hlt := (List.getElem?_eq_some_iff.1 hj).1
    simp only [World.cell?, hg]
    simp only [Option.isSome_none, Bool.false_eq_true, if_false]
    rw [← hj, ← ht, List.getElem?_take_of_lt (by omega), Array.getElem?_toList, Nat.zero_add]
  have hvc : w.cell? ⟨vb, 0, none⟩ = some v := by simp [World.cell?, hvb]
  have hsa : w.shape? vb = some (22, 1) := by simp [World.shape?, hvb]
  have hsb : w.shape? g = some (22, cur.size) := by simp [World.shape?, hg]
  have hov : ∀ lb cb, (callFunc 163 #[.slice (some ⟨vb, 0, none⟩) 1 vc, .slice (some ⟨g, i + 1, none⟩) lb cb]).run Tryz.prog w = .ok (.value (.bool false)) w := fun lb cb => by
    rw [run_callFunc_extern Tryz.func163 (by kernel_rfl) (by kernel_rfl) (by kernel_rfl) (e := Extern.SlicesOverlaps.overlaps #[30, 30] #[4]) (by kernel_rfl),
      Lib.run_overlaps_apart w 30 4 22 und_rows 1 Tryz.sizeOf22 ⟨vb, 0, none⟩ ⟨g, i + 1, none⟩ 1 vc lb cb hne _ _ _ _ hsa hsb (by omega) (by simp [World.frozen?, hvb]) (by simp [World.frozen?, hvb])]
    rfl
  have hdl : (vs.drop i).length = n - i := by rw [List.length_drop, h0]
  have hcp1 : ∀ ty dc sc, (Builtin.copy_ #[30, 30] ty #[.slice (some ⟨g, i + 1, none⟩) (n - i) dc, .slice (some ⟨g, i, none⟩) (n + 1 - i) sc]).run Tryz.prog w.drew = .ok (goInt (vs.drop i).length) (w.drew.setCells g (i + 1) (vs.drop i)) := fun ty dc sc =>
    run_copy_cells w.drew _ _ ty 22 g (i + 1) (n - i) dc ⟨g, i, none⟩ (n + 1 - i) sc (vs.drop i) und_rows info_rows1 (by rw [hdl]; simp only [Nat.min_def]; split <;> omega)
      (fun j u hj => by rw [Addr.add_lit, ← Nat.zero_add (i + j)]; exact hcs (i + j) u (by rwa [List.getElem?_drop] at hj))
      (fun j hj => by rw [← Nat.zero_add (i + 1 + j)]; exact hcell w.drew rfl _ (by omega)) (fun j hj => hfz _) (fun u hu => hv1 u (List.mem_of_mem_drop hu))
  obtain ⟨W1, hW1⟩ : ∃ W1, W1 = w.drew.setCells g (i + 1) (vs.drop i) := ⟨_, rfl⟩
  have hg1 : W1.heap[g]? = some (.cells (setL cur (i + 1) (vs.drop i)) 22 (0, 0)) := by
    rw [hW1]
    exact setL_heap g _ (vs.drop i) w.drew (i + 1) cur hg
  have ho1 : ∀ k, k ≠ g → W1.heap[k]? = w.heap[k]? := fun k hk => by rw [hW1]; exact heap_setCells_off g k hk _ _ _
  have hb1 : Below g w W1 := by rw [hW1]; exact Grd.below_cells (Nat.le_refl _) _ _ _ ((Below.refl _ _).drew)
  have hcp2 : ∀ (W : World), W.heap = W1.heap → ∀ ty dc, (Builtin.copy_ #[30, 30] ty #[.slice (some ⟨g, i, none⟩) (n + 1 - i) dc, .slice (some ⟨vb, 0, none⟩) 1 vc]).run Tryz.prog W = .ok (goInt [v].length) (W.setCells g i [v]) := fun W hWh ty dc =>
    run_copy_cells W _ _ ty 22 g i (n + 1 - i) dc ⟨vb, 0, none⟩ 1 vc [v] und_rows info_rows1 (by simp only [List.length_singleton, Nat.min_def]; split <;> omega)
      (fun j u hj => by
        rw [Addr.add_lit]
        match j, hj with
        | 0, hj =>
          rw [← Option.some.inj hj]
          simp only [World.cell?, hWh, ho1 vb hne, hvb]
          rfl)
      (fun j hj => by
        simp only [World.cell?, hWh, hg1]
        simp only [Option.isSome_none, Bool.false_eq_true, if_false]
        rw [Array.getElem?_eq_getElem (by rw [setL_size]; simp at hj; omega)]
        rfl) (fun j hj => by simp [World.frozen?, hWh, hg1]) (by simpa using hsv1)
  have HE : Hid (∀ W : World, W.heap = W1.heap → Below g w W → (W.setCells g i [v]).ownsRow N 22 1 (.slice (some ⟨g, 0, none⟩) (n + 1) cap) (n + 1) (vs.insertIdx i v) ∧ (∀ k, k ≠ g → (W.setCells g i [v]).heap[k]? = w.heap[k]?) ∧ Below g w (W.setCells g i [v])) := fun W hW hbW => by
    refine ⟨⟨by rw [List.length_insertIdx, if_pos (by omega)]; omega, .inr ⟨g, cap, _, rfl, hb, setL_heap g _ [v] W i _ (by rw [hW]; exact hg1), hroom, hm, by rw [setL_size, setL_size]; omega, ?_⟩⟩, fun k hk => (heap_setCells_off g k hk _ _ _).trans (by rw [hW]; exact ho1 k hk), Grd.below_cells (Nat.le_refl _) _ _ _ hbW⟩
    rw [Nat.mul_one]
    exact ins_list cur vs n i v h0 (by omega) (by omega) ht
  have HB1 : Hid (Below g w W1) := hb1
  rw [← hW1] at hcp1
  clear hg ht hs hW1 hcs hcell hfz hvb hvc hg1 ho1 hb1 hsa hsb hv1 hvs hsv hsv1 hdl
  have mixed : Tryz.prog.follows .mixedOrders = true := by kernel_rfl
  have hz2 : ¬ ((i : Int) = (n : Int)) := by omega
  have hw1 : IntKind.i64.wrap ((i : Int) + 1) = (i : Int) + 1 := by rw [IntKind.wrap_i64]; omega
  have hb1 : (0 : Int) ≤ (i : Int) + 1 := by omega
  have htn : ((i : Int) + 1).toNat = i + 1 := by omega
  have hb2 : ¬ (cap = i + 1) := by omega
  have hb3 : (i : Int) ≤ (n : Int) + 1 := by omega
  have hb4 : ¬ (cap = i) := by omega
  have hin : i ≤ n := by omega
  go_enter Tryz.func144, Tryz.ntmps144
  go_wp2_with (simp only [hov])
  go_region_law_o (refine step_copyR rfl _ _ 30 30 rfl _ _ (by simp [Act.eval, Act.put]) (by simp [Act.eval, Act.put]) (hcp1 _ _ _) ?_)
  go_wp2_with (at_builtin; refine wpList_copyR _ rfl _ _ 30 30 rfl _ _ rfl rfl (hcp2 _ rfl _ _) ?_)
  go_ret
  exact ⟨rfl, HE.out _ rfl HB1.out⟩
/-- A row is put in, where there is room. -/
theorem insert_own (N g n cap i vb vc : Nat) (vs : List Value) (v : Value) (w : World) (h : w.ownsRow N 22 1 (.slice (some ⟨g, 0, none⟩) n cap) n vs) (hvs : ∀ u, u ∈ vs → IsSl u) (hsv : IsSl v) (hi : i ≤ n) (hroom : n + 1 ≤ cap) (hvb : w.heap[vb]? = some (.cells #[v] 22 (0, 0))) (hne : vb ≠ g) :
    Calls Tryz.prog 144 #[.slice (some ⟨g, 0, none⟩) n cap, .int .i64 (i : Int), .slice (some ⟨vb, 0, none⟩) 1 vc] w fun e w' => e = .returned (.slice (some ⟨g, 0, none⟩) (n + 1) cap) ∧ w'.ownsRow N 22 1 (.slice (some ⟨g, 0, none⟩) (n + 1) cap) (n + 1) (vs.insertIdx i v) ∧ (∀ k, k ≠ g → w'.heap[k]? = w.heap[k]?) ∧ Below g w w' := by
  rcases Nat.lt_or_eq_of_le hi with hlt | rfl
  · exact insert_shift N g n cap i vb vc vs v w h hvs hsv hlt hroom hvb hne
  · exact insert_end N g i cap vb vc vs v w h hsv hroom (by simp [World.cell?, hvb])
end Put
end Go.Proofs.YtnkeahfcpbepjaaGreatDoor

/- (*sheet.Sheet).blanks, replace, Drop, Down: a row goes, and a blank one comes. -/
namespace Go.Proofs.YtnkeahfcpbepjaaGreatDoor
open Go.ChangeShapes Go.WideShapes Go.ChangeAt Go.RowKit
namespace Put
open Grd (C SliceAt CellsAt gridErr z0 nilV flat rowsL OwnG RowB)
theorem getD_erase {α : Type} (l : List α) (i j : Nat) (d : α) : (l.eraseIdx i).getD j d = if j < i then l.getD j d else l.getD (j + 1) d := by
  simp only [List.getD, List.getElem?_eraseIdx]
  split <;> rfl
theorem getD_insert {α : Type} (l : List α) (i j : Nat) (x d : α) (hi : i ≤ l.length) : (l.insertIdx i x).getD j d = if j < i then l.getD j d else if j = i then x else l.getD (j - 1) d := by
  simp only [List.getD, List.getElem?_insertIdx]
  by_cases h1 : j < i
  · rw [if_pos h1, if_pos h1]
  · rw [if_neg h1, if_neg h1]
    by_cases h2 : j = i
    · subst h2
      rw [if_pos rfl, if_pos rfl, if_pos hi]
      rfl
    · rw [if_neg h2, if_neg h2]
theorem RowsIn.erase {W : World} {N : Nat} {vs : List Value} {rows : List (List C)} (h : RowsIn W N vs rows) (i : Nat) (hi : i < rows.length) : RowsIn W N (vs.eraseIdx i) (rows.eraseIdx i) := by
  have hl := h.1
  refine ⟨by rw [List.length_eraseIdx_of_lt (by omega), List.length_eraseIdx_of_lt hi, hl], fun j hj => ?_⟩
  rw [List.length_eraseIdx_of_lt hi] at hj
  rw [getD_erase, getD_erase]
  split
  · exact h.2 j (by omega)
  · exact h.2 (j + 1) (by omega)
theorem RowsIn.insert {W : World} {N : Nat} {vs : List Value} {rows : List (List C)} (h : RowsIn W N vs rows) (i : Nat) (hi : i ≤ rows.length) (v : Value) (row : List C) (hr : RowIn W N v row) : RowsIn W N (vs.insertIdx i v) (rows.insertIdx i row) := by
  have hl := h.1
  refine ⟨by rw [List.length_insertIdx_of_le_length (by omega), List.length_insertIdx_of_le_length hi, hl], fun j hj => ?_⟩
  rw [List.length_insertIdx_of_le_length hi] at hj
  rw [getD_insert _ _ _ _ _ (by omega), getD_insert _ _ _ _ _ hi]
  split
  · exact h.2 j (by omega)
  · split
    · exact hr
    · exact h.2 (j - 1) (by omega)
theorem RowsIn.sls {W : World} {N : Nat} {vs : List Value} {rows : List (List C)} (h : RowsIn W N vs rows) : ∀ v, v ∈ vs → IsSl v := by
  intro v hv
  obtain ⟨i, hi, rfl⟩ := List.mem_iff_getElem.1 hv
  obtain ⟨a, c, e⟩ := (h.2 i (by rw [← h.1]; exact hi)).shape
  have e2 : vs.getD i nilV = vs[i] := by simp [List.getD, hi]
  rw [e2] at e
  exact ⟨(a, _, c), e⟩
theorem sl_in {W : World} {N : Nat} {v : Value} {row : List C} (h : RowIn W N v row) : IsSl v := by
  obtain ⟨a, c, e⟩ := h.shape
  exact ⟨(a, _, c), e⟩
theorem ShA.keptR {W V : World} {M N p : Nat} {s : Scr} {rows : List (List C)} {cv tv gv rv : Value} {gvs vs : List Value} {rb : Nat} (h : ShA 64 W M N p s rows cv tv gv rv gvs vs) (hrb : rv.ownBlock = some rb) (ho : ∀ k, k < W.heap.size → k ≠ rb → V.heap[k]? = W.heap[k]?) : Kept M W V := fun k hk hS => ho k hk fun e => by
  obtain ⟨hlo, A, f, hA⟩ := owns_block h.rws rb hrb
  subst e
  rcases hS with hS | ⟨B, f', hS⟩
  · have := h.ml
    omega
  · rw [hA] at hS
    injection hS with hS
    injection hS with _ hS _
    exact absurd hS (by decide)
/-- Other rows in the same block. -/
theorem ShA.rowsNew {W V : World} {M N p : Nat} {s : Scr} {rows rows' : List (List C)} {cv tv gv rv rv' : Value} {gvs vs vs' : List Value} {rb : Nat} (h : ShA 64 W M N p s rows cv tv gv rv gvs vs) (hrb : rv.ownBlock = some rb) (hrb' : rv'.ownBlock = some rb)
    (ho : ∀ k, k < W.heap.size → k ≠ rb → V.heap[k]? = W.heap[k]?) (hw : V.ownsRow N 22 1 rv' rows'.length vs') (hr : RowsIn V M vs' rows') :
    ShA 64 (V.setCell ⟨p, 22, none⟩ rv') M N p s rows' cv tv gv rv' gvs vs' := by
  obtain ⟨hlo, A, f, hA⟩ := owns_block h.rws rb hrb
  have hpr : p ≠ rb := by
    intro e
    rw [← e, h.blk] at hA
    injection hA with hA
    injection hA with _ hA _
    exact absurd hA (by decide)
  have hp : V.heap[p]? = some (.cells (shA s cv tv gv rv) 64 (0, 0)) := (ho p (heap_lt h.blk) hpr).trans h.blk
  have hk1 : Kept M W V := fun k hk hS => ho k hk fun e => by
    subst e
    rcases hS with hS | ⟨B, f', hS⟩
    · have := h.ml
      omega
    · rw [hA] at hS
      injection hS with hS
      injection hS with _ hS _
      exact absurd hS (by decide)
  have hk2 : Kept M V (V.setCell ⟨p, 22, none⟩ rv') := Kept.store hp (by decide) (Nat.le_trans h.ml h.lo)
  have hof : ∀ {e : TypeId} {v : Value} {n : Nat} {xs : List Value}, e ≠ 64 → (∀ k, v.ownBlock = some k → k ≠ rb) → W.ownsRow N e 1 v n xs → (V.setCell ⟨p, 22, none⟩ rv').ownsRow N e 1 v n xs := fun hte hn hw => by
    refine own_off (owns_kept hw fun g hg => ?_) hp (Ne.symm hte)
    obtain ⟨-, B, f', hB⟩ := owns_block hw g hg
    exact ho g (heap_lt hB) (hn g hg)
  have hnb : ∀ k, tv.ownBlock = some k → k ≠ rb := fun k hk e => by
    subst e
    obtain ⟨-, B, f', hB⟩ := owns_block h.tabs k hk
    rw [hA] at hB
    injection hB with hB
    injection hB with _ hB _
    exact absurd hB (by decide)
  have hng : ∀ k, gv.ownBlock = some k → k ≠ rb := fun k hk e => h.two rb hrb (by rw [hk, e])
  refine ⟨store_at hp rfl, h.lo, h.ml, h.cvs, hof (by decide) hnb h.tabs, hof (by decide) hng h.gone, (h.gin.keep hk1).keep hk2, own_off hw hp (by decide), hr.keep hk2, fun k hk e => ?_⟩
  rw [hrb'] at hk
  exact hng k e (Option.some.inj hk).symm
theorem one4w (a : Int) (b c d : Int) : (#[.int .i32 a, .int .i64 b, .int .i64 c, .int .i64 d] : Array Value).all (·.oneCell') = true := by simp [Value.oneCell']
set_option maxHeartbeats 2000000 in
theorem blankS_any (p : Nat) (bk : Int) (V : World) (h : V.cell? ⟨p, 7, none⟩ = some (.int .i64 bk)) : Calls Tryz.prog 148 #[.pointer (some ⟨p, 0, none⟩)] V fun e V' => e = .returned (.agg #[.int .i32 32, .int .i64 0, .int .i64 bk, .int .i64 0]) ∧ Below V.heap.size V V' := by
  have x0 := heap_alloc_new V (.cells #[.int .i32 0, .int .i64 0, .int .i64 0, .int .i64 0] 91)
  have kb : Below V.heap.size V (V.alloc (.cells #[.int .i32 0, .int .i64 0, .int .i64 0, .int .i64 0] 91)) := (Below.refl _ _).alloc (Nat.le_refl _) _
  have h1 := cell_stay kb h
  have HX0 : Hid _ := x0
  have HKB : Hid _ := kb
  clear x0 kb h
  go_enter Tryz.func148, Tryz.ntmps148
  go_upto_region 1 with fail
  generalize V.alloc (.cells #[.int .i32 0, .int .i64 0, .int .i64 0, .int .i64 0] 91) = Y at *
  go_wp2_with (refine wpList_store_row rfl 91 (.tmp 2) _ rfl V.heap.size #[.int .i32 32, .int .i64 0, .int .i64 bk, .int .i64 0] rfl rfl _ _ HX0.out (by kernel_rfl) rfl (one4w _ _ _ _) ?_)
  (try simp only [Exit.inBlock, Exit.then])
  refine bodyPost_ret (v := .agg #[.int .i32 32, .int .i64 0, .int .i64 bk, .int .i64 0]) ?_ rfl ⟨rfl, below_setRow HKB.out (Nat.le_refl _) _⟩
  exact results_cell_row rfl _ _ V.heap.size _ _ _ _ rfl (setRow_heap _ _ _ _ _ _ HX0.out) Tryz.underlying91 rfl (by kernel_rfl)
theorem cells_one (V : World) (c : C) : CellsAt (V.alloc (.cells #[.int .i32 c.1, .int .i64 c.2.1, .int .i64 c.2.2.1, .int .i64 c.2.2.2] 91)) V.heap.size 0 [c] := fun j hj => by
  have h := heap_alloc_new V (.cells #[.int .i32 c.1, .int .i64 c.2.1, .int .i64 c.2.2.1, .int .i64 c.2.2.2] 91)
  generalize V.alloc (.cells #[.int .i32 c.1, .int .i64 c.2.1, .int .i64 c.2.2.1, .int .i64 c.2.2.2] 91) = X at *
  match j, hj with
  | 0, _ => exact ⟨by simp [World.cell?, h], by simp [World.cell?, h], by simp [World.cell?, h], by simp [World.cell?, h]⟩
set_option maxHeartbeats 2000000 in
theorem blanks_any (p n : Nat) (bk : Int) (W : World) (h7 : W.cell? ⟨p, 7, none⟩ = some (.int .i64 bk)) (hn1 : 1 ≤ n) (hn2 : n ≤ 120) :
    Calls Tryz.prog 109 #[.pointer (some ⟨p, 0, none⟩), .int .i64 (n : Int)] W fun e W' => ∃ a c g, e = .returned (.slice a n c) ∧ W.heap.size ≤ g ∧ RowB W' g (.slice a n c) (List.replicate n (32, 0, bk, 0)) ∧ Below W.heap.size W W' := by
  have HB := blankS_any p bk W h7
  have HRP : Hid (∀ V : World, Calls Tryz.prog 98 #[.slice (some ⟨V.heap.size, 0, none⟩) 1 1, .int .i64 (n : Int)] (V.alloc (.cells #[.int .i32 32, .int .i64 0, .int .i64 bk, .int .i64 0] 91)) fun e w' => ∃ v', e = .returned v' ∧ OwnG w' (V.alloc (.cells #[.int .i32 32, .int .i64 0, .int .i64 bk, .int .i64 0] 91)).heap.size v' (List.replicate n (32, 0, bk, 0)) ∧ Below (V.alloc (.cells #[.int .i32 32, .int .i64 0, .int .i64 bk, .int .i64 0] 91)).heap.size (V.alloc (.cells #[.int .i32 32, .int .i64 0, .int .i64 bk, .int .i64 0] 91)) w') := fun V => Grd.repeat_one V.heap.size 0 1 n (32, 0, bk, 0) _ (cells_one V (32, 0, bk, 0)) hn1 (by omega)
  clear h7
  go_enter Tryz.func109, Tryz.ntmps109
  go_wp2_with fail
  refine HB.mono ?_
  rintro e V1 ⟨rfl, b1⟩
  clear HB
  go_wp2_with fail
  refine (HRP.out V1).mono ?_
  rintro e V2 ⟨v2, rfl, ho, b2⟩
  have q2 := b1.alloc b1.size (.cells #[.int .i32 32, .int .i64 0, .int .i64 bk, .int .i64 0] 91)
  have q3 := q2.trans (b2.mono q2.size)
  obtain ⟨g, hg1, hr⟩ := own_rowB ho
  obtain ⟨cap, rest, hv, hc1, hc2, hh⟩ := hr
  subst hv
  go_wp2_with fail
  go_ret
  refine ⟨_, cap, g, rfl, by have := q2.size; omega, ⟨cap, rest, by rw [List.length_replicate], hc1, hc2, hh⟩, q3⟩
set_option maxHeartbeats 2000000 in
theorem blanks_zero (p : Nat) (bk : Int) (W : World) (h7 : W.cell? ⟨p, 7, none⟩ = some (.int .i64 bk)) :
    Calls Tryz.prog 109 #[.pointer (some ⟨p, 0, none⟩), .int .i64 0] W fun e W' => ∃ a c g, e = .returned (.slice a 0 c) ∧ W.heap.size ≤ g ∧ RowB W' g (.slice a 0 c) [] ∧ Below W.heap.size W W' := by
  have HB := blankS_any p bk W h7
  have HRP : Hid (∀ V : World, Calls Tryz.prog 98 #[.slice (some ⟨V.heap.size, 0, none⟩) 1 1, .int .i64 0] (V.alloc (.cells #[.int .i32 32, .int .i64 0, .int .i64 bk, .int .i64 0] 91)) fun e w' => ∃ v', e = .returned v' ∧ OwnG w' (V.alloc (.cells #[.int .i32 32, .int .i64 0, .int .i64 bk, .int .i64 0] 91)).heap.size v' [] ∧ Below (V.alloc (.cells #[.int .i32 32, .int .i64 0, .int .i64 bk, .int .i64 0] 91)).heap.size (V.alloc (.cells #[.int .i32 32, .int .i64 0, .int .i64 bk, .int .i64 0] 91)) w') := fun V => Grd.repeat_zero _ 0 1 (32, 0, bk, 0) _ (cells_one V (32, 0, bk, 0))
  clear h7
  go_enter Tryz.func109, Tryz.ntmps109
  go_wp2_with fail
  refine HB.mono ?_
  rintro e V1 ⟨rfl, b1⟩
  clear HB
  go_wp2_with fail
  refine (HRP.out V1).mono ?_
  rintro e V2 ⟨v2, rfl, ho, b2⟩
  have q2 := b1.alloc b1.size (.cells #[.int .i32 32, .int .i64 0, .int .i64 bk, .int .i64 0] 91)
  have q3 := q2.trans (b2.mono q2.size)
  obtain ⟨g, hg1, hr⟩ := own_rowB ho
  obtain ⟨cap, rest, hv, hc1, hc2, hh⟩ := hr
  subst hv
  go_wp2_with fail
  go_ret
  exact ⟨_, cap, g, rfl, by have := q2.size; omega, ⟨cap, rest, rfl, hc1, hc2, hh⟩, q3⟩
theorem blanks_all (p n : Nat) (bk : Int) (W : World) (h7 : W.cell? ⟨p, 7, none⟩ = some (.int .i64 bk)) (hn2 : n ≤ 120) :
    Calls Tryz.prog 109 #[.pointer (some ⟨p, 0, none⟩), .int .i64 (n : Int)] W fun e W' => ∃ a c g, e = .returned (.slice a n c) ∧ W.heap.size ≤ g ∧ RowB W' g (.slice a n c) (List.replicate n (32, 0, bk, 0)) ∧ Below W.heap.size W W' := by
  rcases Nat.eq_zero_or_pos n with rfl | h
  · exact blanks_zero p bk W h7
  · exact blanks_any p n bk W h7 h hn2
/-- A row goes, and a blank one comes. -/
def replR (rows : List (List C)) (n : Nat) (bk : Int) (gone fresh : Nat) : List (List C) := (rows.eraseIdx gone).insertIdx fresh (List.replicate n (32, 0, bk, 0))
theorem replR_len (rows : List (List C)) (n : Nat) (bk : Int) (gone fresh : Nat) (hg : gone < rows.length) (hf : fresh < rows.length) : (replR rows n bk gone fresh).length = rows.length := by
  unfold replR
  rw [List.length_insertIdx_of_le_length (by rw [List.length_eraseIdx_of_lt hg]; omega), List.length_eraseIdx_of_lt hg]
  omega
theorem replR_row (rows : List (List C)) (n : Nat) (bk : Int) (gone fresh : Nat) (hg : gone < rows.length) (hf : fresh < rows.length) (hn : ∀ i, i < rows.length → (rows.getD i []).length = n) (i : Nat) (hi : i < rows.length) : ((replR rows n bk gone fresh).getD i []).length = n := by
  have hl : (rows.eraseIdx gone).length = rows.length - 1 := List.length_eraseIdx_of_lt hg
  have he : ∀ j, j < rows.length - 1 → ((rows.eraseIdx gone).getD j []).length = n := fun j hj => by
    rw [getD_erase]
    split
    · exact hn j (by omega)
    · exact hn (j + 1) (by omega)
  unfold replR
  rw [getD_insert _ _ _ _ _ (by omega)]
  split
  · exact he i (by omega)
  · split
    · simp
    · exact he (i - 1) (by omega)
set_option linter.unusedSimpArgs false in
set_option maxHeartbeats 4000000 in
set_option maxRecDepth 100000 in
theorem replace_any (W : World) (M N p n : Nat) (s : Scr) (rows : List (List C)) (hS : ShAt 64 W M N p s rows) (gone fresh : Nat) (hw : s.w = n) (hn1 : 1 ≤ n) (hn2 : n ≤ 120) (hg : gone < rows.length) (hf : fresh < rows.length) (hrl : rows.length ≤ 60) :
    Calls Tryz.prog 168 #[.pointer (some ⟨p, 0, none⟩), .int .i64 (gone : Int), .int .i64 (fresh : Int)] W (Ran W M N p s (replR rows n s.sb gone fresh)) := by
  obtain ⟨cv, tv, gv, rv, gvs, vs, hS⟩ := hS
  obtain ⟨rb, rc, hrv, hrb, hrc1, hrc2, hvl, hrcell, A, hrA⟩ := own_cells hS.rws (by omega)
  subst hrv
  have HD := delete_own N rb rows.length rc gone vs W hS.rws hS.rin.sls hg
  obtain ⟨⟨c0, -⟩, ⟨-, -, -, -, -, -, -, -, -, -, -, c22⟩, f⟩ := sh_cells hS.blk
  have hpr : p ≠ rb := by
    intro e
    rw [← e, hS.blk] at hrA
    injection hrA with hrA
    injection hrA with _ hrA _
    exact absurd hrA (by decide)
  have hlo := hS.lo
  have hwg : IntKind.i64.wrap ((gone : Int) + 1) = ((gone + 1 : Nat) : Int) := by rw [wrap_id _ (by omega) (by omega)]; omega
  have HS : Hid (ShA 64 W M N p s rows cv tv gv (.slice (some ⟨rb, 0, none⟩) rows.length rc) gvs vs) := hS
  clear hS hrcell hvl f c0
  go_enter Tryz.func168, Tryz.ntmps168
  go_wp2_with fail
  refine HD.mono ?_
  rintro e V1 ⟨rfl, hO1, hk1, hb1⟩
  have hpV := (hk1 p hpr).trans HS.out.blk
  have c22' := (sh_cells hpV).2.1.2.2.2.2.2.2.2.2.2.2.2
  have f22 := (sh_cells hpV).2.2 22
  go_upto_region 1 with fail
  have hS1 : ShA 64 (V1.setCell ⟨p, 22, none⟩ (.slice (some ⟨rb, 0, none⟩) (rows.length - 1) rc)) M N p s (rows.eraseIdx gone) cv tv gv (.slice (some ⟨rb, 0, none⟩) (rows.length - 1) rc) gvs (vs.eraseIdx gone) :=
    HS.out.rowsNew (rb := rb) rfl rfl (fun k _ hk => hk1 k hk) (by rw [List.length_eraseIdx_of_lt hg]; exact hO1) ((HS.out.rin.erase gone hg).keep (HS.out.keptR (rb := rb) rfl fun k _ hk => hk1 k hk))
  have hB1 : Below N W (V1.setCell ⟨p, 22, none⟩ (.slice (some ⟨rb, 0, none⟩) (rows.length - 1) rc)) := (hb1.mono hrb).setCell hlo _
  have hF1 : Framed W (V1.setCell ⟨p, 22, none⟩ (.slice (some ⟨rb, 0, none⟩) (rows.length - 1) rc)) := fun k o hk ho => by
    have e1 : k ≠ rb := by
      intro e
      rw [e, hrA] at hk
      injection hk with hk
      exact not_other_rows (ho A _ _ hk.symm)
    exact Framed.store hpV not_other_sheet k o ((hk1 k e1).trans hk) ho
  have HS1 : Hid _ := hS1
  have HB1 : Hid _ := hB1
  have HF1 : Hid _ := hF1
  clear hS1 hB1 hF1 hO1 hk1 hb1 hpV c22' f22 c22 hrA HS HD
  generalize V1.setCell ⟨p, 22, none⟩ (.slice (some ⟨rb, 0, none⟩) (rows.length - 1) rc) = X at *
  have hX := HS1.out
  obtain ⟨⟨c0, -, -, -, -, -, -, c7, -⟩, ⟨-, -, -, -, -, -, -, -, -, -, -, c22⟩, -⟩ := sh_cells hX.blk
  rw [hw] at c0
  have b0 : Below X.heap.size X X.drew := (Below.refl _ _).drew
  have hNX : N ≤ X.heap.size := Nat.le_trans hlo (Nat.le_of_lt (heap_lt hX.blk))
  have HBL := blanks_any p n s.sb X.drew (cell_stay b0 c7) hn1 hn2
  have HIN : Hid (∀ (V2 : World) (a : Option Addr) (c g : Nat), Below X.heap.size X V2 → RowB V2 g (.slice a n c) (List.replicate n (32, 0, s.sb, 0)) → Calls Tryz.prog 144 #[.slice (some ⟨rb, 0, none⟩) (rows.length - 1) rc, .int .i64 (fresh : Int), .slice (some ⟨V2.heap.size, 0, none⟩) 1 1] (V2.alloc (.cells #[.slice a n c] 22)) fun e V3 => e = .returned (.slice (some ⟨rb, 0, none⟩) (rows.length - 1 + 1) rc) ∧ V3.cell? ⟨p, 22, none⟩ = some (.slice (some ⟨rb, 0, none⟩) (rows.length - 1) rc) ∧ V3.frozen? ⟨p, 22, none⟩ = false ∧ Hid (Ran W M N p s (replR rows n s.sb gone fresh) (.returned (.tuple #[])) (V3.setCell ⟨p, 22, none⟩ (.slice (some ⟨rb, 0, none⟩) (rows.length - 1 + 1) rc)))) := fun V2 a c g q1 hR => by
    have q2 := q1.alloc q1.size (.cells #[.slice a n c] 22)
    have hS2 := hX.next q2
    have hal := heap_alloc_new V2 (.cells #[.slice a n c] 22)
    have hri : RowIn V2 M (.slice a n c) (List.replicate n (32, 0, s.sb, 0)) := rowIn_rowB hR
    have hle : (rows.eraseIdx gone).length = rows.length - 1 := List.length_eraseIdx_of_lt hg
    obtain ⟨-, B, f', hB⟩ := owns_block hX.rws rb rfl
    have hne : V2.heap.size ≠ rb := by have h1 := heap_lt hB; have h2 := q1.size; omega
    have key := insert_own N rb (rows.length - 1) rc fresh V2.heap.size 1 (vs.eraseIdx gone) (.slice a n c) _ (by have := hS2.rws; rwa [hle] at this) hS2.rin.sls (sl_in hri) (by omega) (by omega) hal hne
    refine Calls.mono key ?_
    rintro e V3 ⟨rfl, hO3, hk3, hb3⟩
    have hp3 : V3.heap[p]? = _ := (hk3 p hpr).trans hS2.blk
    have hri3 : RowIn V3 M (.slice a n c) (List.replicate n (32, 0, s.sb, 0)) := (hri.keep (Kept.of_below ((Below.refl _ _).alloc (Nat.le_refl _) _))).keep (hS2.keptR (rb := rb) rfl fun k _ hk => hk3 k hk)
    have hS3 := hS2.rowsNew (rb := rb) (rv' := .slice (some ⟨rb, 0, none⟩) (rows.length - 1 + 1) rc) (rows' := replR rows n s.sb gone fresh) (vs' := (vs.eraseIdx gone).insertIdx fresh (.slice a n c)) rfl rfl (fun k _ hk => hk3 k hk) (by rw [replR_len rows n s.sb gone fresh hg hf, show rows.length = rows.length - 1 + 1 by omega]; exact hO3) ((hS2.rin.keep (hS2.keptR (rb := rb) rfl fun k _ hk => hk3 k hk)).insert fresh (by omega) _ _ hri3)
    refine ⟨rfl, (sh_cells hp3).2.1.2.2.2.2.2.2.2.2.2.2.2, (sh_cells hp3).2.2 22, rfl, ⟨_, _, _, _, _, _, hS3⟩, ((HB1.out.trans (q2.mono hNX)).trans (hb3.mono hrb)).setCell hlo _, ?_⟩
    refine (Framed.trans HF1.out (Framed.of_below q2)).trans ?_
    intro k o hk ho
    have e1 : k ≠ rb := by
      intro e
      have hB2 := Grd.carry hB q2
      rw [e, hB2] at hk
      injection hk with hk
      exact not_other_rows (ho B _ _ hk.symm)
    exact Framed.store hp3 not_other_sheet k o ((hk3 k e1).trans hk) ho
  have HC22 : Hid (∀ V, Below X.heap.size X V → V.cell? ⟨p, 22, none⟩ = some (.slice (some ⟨rb, 0, none⟩) (rows.length - 1) rc)) := fun V h => cell_stay h c22
  clear hX c7 HS1 HB1 HF1 hw
  generalize rows.length - 1 = m at *
  generalize replR rows n s.sb gone fresh = rows' at *
  go_region_with (first
    | (go_at_call 109; refine HBL.mono ?_; rintro e V2 ⟨a, c, g, rfl, hg2, hR, b2⟩; have q1 := b0.trans (b2.mono b0.size); have d22 := HC22.out _ q1; have e22 := HC22.out _ (q1.alloc q1.size (.cells #[.slice a n c] 22)); have hI := HIN.out V2 a c g q1 hR; clear hR b2)
    | (go_at_call 144; refine hI.mono ?_; rintro e V3 ⟨rfl, z22, zf, HE⟩))
  all_goals go_wp2_with fail
  all_goals go_end0
  all_goals exact HE.out
end Put
end Go.Proofs.YtnkeahfcpbepjaaGreatDoor

/- Package sheet: Insert's closure: a row with blanks put in. -/
namespace Go.Proofs.YtnkeahfcpbepjaaGreatDoor
open Go.ChangeShapes Go.WideShapes Go.ChangeAt Go.RowKit
namespace Put
open Grd (C SliceAt CellsAt gridErr z0 nilV flat rowsL RowB OwnG)
/-- A row with n blanks put in at x; what leaves it goes. -/
def insR (row : List C) (x n : Nat) (bk : Int) : List C := row.take x ++ (List.replicate n (32, 0, bk, 0) ++ (row.drop x).take (row.length - n - x))
theorem insR_len (row : List C) (x n : Nat) (bk : Int) (h : x + n ≤ row.length) : (insR row x n bk).length = row.length := by
  unfold insR
  rw [List.length_append, List.length_append, List.length_replicate, List.length_take, List.length_take, List.length_drop]
  omega
set_option maxHeartbeats 8000000 in
set_option maxRecDepth 100000 in
theorem ins1_any (W : World) (p Bp Bn rb ro c x n : Nat) (bk : Int) (row : List C) (hp : W.cell? ⟨Bp, 0, none⟩ = some (.pointer (some ⟨p, 0, none⟩))) (hn : W.cell? ⟨Bn, 0, none⟩ = some (.int .i64 (n : Int))) (hx : W.cell? ⟨p, 3, none⟩ = some (.int .i64 (x : Int))) (h7 : W.cell? ⟨p, 7, none⟩ = some (.int .i64 bk)) (hC : CellsAt W rb ro row) (hc : row.length ≤ c) (hn1 : 1 ≤ n) (hxn : x + n ≤ row.length) (hl : row.length ≤ 120) :
    Calls Tryz.prog 138 #[.slice (some ⟨rb, ro, none⟩) row.length c, .pointer (some ⟨Bp, 0, none⟩), .pointer (some ⟨Bn, 0, none⟩)] W fun e W' => ∃ v', e = .returned v' ∧ W'.ownsRow W.heap.size 91 4 v' row.length (flat (insR row x n bk)) ∧ Below W.heap.size W W' := by
  have SK : Hid (∀ V, Below W.heap.size W V → V.cell? ⟨Bp, 0, none⟩ = some (.pointer (some ⟨p, 0, none⟩)) ∧ V.cell? ⟨Bn, 0, none⟩ = some (.int .i64 (n : Int)) ∧ V.cell? ⟨p, 3, none⟩ = some (.int .i64 (x : Int))) := fun V h => ⟨cell_stay h hp, cell_stay h hn, cell_stay h hx⟩
  have HBL : Hid (∀ V, Below W.heap.size W V → Calls Tryz.prog 109 #[.pointer (some ⟨p, 0, none⟩), .int .i64 (n : Int)] V fun e W' => ∃ a c g, e = .returned (.slice a n c) ∧ V.heap.size ≤ g ∧ RowB W' g (.slice a n c) (List.replicate n (32, 0, bk, 0)) ∧ Below V.heap.size V W') := fun V h => blanks_any p n bk V (cell_stay h h7) hn1 (by omega)
  have HCC : Hid (CellsAt W rb ro row) := hC
  obtain ⟨L, hL⟩ : ∃ L, L = row.length := ⟨_, rfl⟩
  obtain ⟨k, hk⟩ : ∃ k, k = L - n - x := ⟨_, rfl⟩
  obtain ⟨m, hm⟩ : ∃ m, m = x + k := ⟨_, rfl⟩
  have hwr : IntKind.i64.wrap ((L : Int) - (n : Int)) = (m : Int) := by
    rw [wrap_id _ (by omega) (by omega)]
    omega
  have HLR : Hid (row.length = L) := hL.symm
  have HIR : Hid (insR row x n bk = row.take x ++ (List.replicate n (32, 0, bk, 0) ++ (row.drop x).take k)) := by
    unfold Hid insR
    rw [← hL, ← hk]
  have HCN : Hid (∀ (V : World) (a : Option Addr) (vc g : Nat), Below W.heap.size W V → RowB V g (.slice a n vc) (List.replicate n (32, 0, bk, 0)) → Calls Tryz.prog 97 #[.slice (some ⟨V.heap.size, 0, none⟩) 3 3] (V.alloc (.cells #[.slice (some ⟨rb, ro, none⟩) x c, .slice a n vc, .slice (some ⟨rb, ro + x * 4, none⟩) k (c - x)] 22)) fun e w' => ∃ v', e = .returned v' ∧ w'.ownsRow (V.alloc (.cells #[.slice (some ⟨rb, ro, none⟩) x c, .slice a n vc, .slice (some ⟨rb, ro + x * 4, none⟩) k (c - x)] 22)).heap.size 91 4 v' L (flat (insR row x n bk)) ∧ Below (V.alloc (.cells #[.slice (some ⟨rb, ro, none⟩) x c, .slice a n vc, .slice (some ⟨rb, ro + x * 4, none⟩) k (c - x)] 22)).heap.size (V.alloc (.cells #[.slice (some ⟨rb, ro, none⟩) x c, .slice a n vc, .slice (some ⟨rb, ro + x * 4, none⟩) k (c - x)] 22)) w') := fun V a vc g hV hB => by
    have kb : Below V.heap.size V (V.alloc (.cells #[.slice (some ⟨rb, ro, none⟩) x c, .slice a n vc, .slice (some ⟨rb, ro + x * 4, none⟩) k (c - x)] 22)) := (Below.refl _ _).alloc (Nat.le_refl _) _
    have hnew := heap_alloc_new V (.cells #[.slice (some ⟨rb, ro, none⟩) x c, .slice a n vc, .slice (some ⟨rb, ro + x * 4, none⟩) k (c - x)] 22)
    have hCV := (HCC.out.below hV).below kb
    have hC1 := hCV.part 0 x (by omega)
    have hC2 := hCV.part x k (by omega)
    have hB2 := hB.below kb
    obtain ⟨bc, brest, hbv, -⟩ := hB
    rw [List.length_replicate] at hbv
    injection hbv with ha _ _
    have hcell : ∀ (j : Nat) (v : Value), (#[.slice (some ⟨rb, ro, none⟩) x c, .slice a n vc, .slice (some ⟨rb, ro + x * 4, none⟩) k (c - x)] : Array Value)[j]? = some v → (V.alloc (.cells #[.slice (some ⟨rb, ro, none⟩) x c, .slice a n vc, .slice (some ⟨rb, ro + x * 4, none⟩) k (c - x)] 22)).cell? ⟨V.heap.size, j, none⟩ = some v := fun j v h => by
      unfold World.cell?
      rw [hnew]
      exact h
    have hfl : ([row.take x, List.replicate n (32, 0, bk, 0), (row.drop x).take k] : List (List C)).flatten = insR row x n bk := by
      rw [HIR.out]
      simp
    have hVV : ∀ j, j < ([row.take x, List.replicate n (32, 0, bk, 0), (row.drop x).take k] : List (List C)).length → ∃ b' o' c', (V.alloc (.cells #[.slice (some ⟨rb, ro, none⟩) x c, .slice a n vc, .slice (some ⟨rb, ro + x * 4, none⟩) k (c - x)] 22)).cell? ⟨V.heap.size, 0 + j, none⟩ = some (.slice (some ⟨b', o', none⟩) (([row.take x, List.replicate n (32, 0, bk, 0), (row.drop x).take k] : List (List C)).getD j []).length c') ∧ CellsAt (V.alloc (.cells #[.slice (some ⟨rb, ro, none⟩) x c, .slice a n vc, .slice (some ⟨rb, ro + x * 4, none⟩) k (c - x)] 22)) b' o' (([row.take x, List.replicate n (32, 0, bk, 0), (row.drop x).take k] : List (List C)).getD j []) := fun j hj => by
      have e1 : (row.take x).length = x := by rw [List.length_take]; omega
      have e3 : ((row.drop x).take k).length = k := by rw [List.length_take, List.length_drop]; omega
      match j, hj with
      | 0, _ =>
        refine ⟨rb, ro, c, ?_, ?_⟩
        · show World.cell? _ ⟨V.heap.size, 0, none⟩ = some (.slice _ (row.take x).length c)
          rw [e1]
          exact hcell 0 _ rfl
        · have h := hC1
          rw [Nat.zero_mul, Nat.add_zero, List.drop_zero] at h
          exact h
      | 1, _ =>
        refine ⟨g, 0, vc, ?_, hB2.cells⟩
        show World.cell? _ ⟨V.heap.size, 1, none⟩ = some (.slice _ (List.replicate n ((32, 0, bk, 0) : C)).length vc)
        rw [List.length_replicate, ← ha]
        exact hcell 1 _ rfl
      | 2, _ =>
        refine ⟨rb, ro + x * 4, c - x, ?_, hC2⟩
        show World.cell? _ ⟨V.heap.size, 2, none⟩ = some (.slice _ ((row.drop x).take k).length (c - x))
        rw [e3]
        exact hcell 2 _ rfl
    have := concat_any V.heap.size 0 3 [row.take x, List.replicate n (32, 0, bk, 0), (row.drop x).take k] (V.alloc (.cells #[.slice (some ⟨rb, ro, none⟩) x c, .slice a n vc, .slice (some ⟨rb, ro + x * 4, none⟩) k (c - x)] 22)) hVV (insR row x n bk) hfl (by rw [insR_len _ _ _ _ hxn]; omega) (by simp)
    rw [insR_len _ _ _ _ hxn, HLR.out] at this
    exact this
  have b0 : Below W.heap.size W W.drew := (Below.refl _ _).drew
  have hx1 : (x : Int) ≤ (c : Int) := by omega
  have hx2 : (x : Int) ≤ (m : Int) := by omega
  have hx3 : (m : Int) ≤ (c : Int) := by omega
  have hx4 : x < c := by omega
  have hx6 : (x : Int) < (c : Int) := by omega
  have hx5 : m - x = k := by omega
  rw [← hL]
  clear hp hn hx h7 hC hc hn1 hxn hl hL hk HCC hm
  generalize insR row x n bk = res at *
  go_enter Tryz.func138, Tryz.ntmps138
  go_upto_region 1 with fail
  go_region_held3 (fun w' => w'.cell? ⟨Bp, 0, none⟩ = some (.pointer (some ⟨p, 0, none⟩)) ∧ w'.cell? ⟨Bn, 0, none⟩ = some (.int .i64 (n : Int)) ∧ w'.cell? ⟨p, 3, none⟩ = some (.int .i64 (x : Int)))
    (first | exact SK.out _ q3 | exact SK.out _ q2 | exact SK.out _ q1 | exact SK.out _ b0)
    (first
      | (go_at_call 109; refine (HBL.out _ b0).mono ?_; rintro e V1 ⟨a, vc, g, rfl, hg, hB, b1⟩; have q1 : Below W.heap.size W V1 := b0.trans (b1.mono b0.size); have q2 := q1.alloc q1.size (.cells #[.slice (some ⟨rb, ro, none⟩) x c, .slice a n vc, .slice (some ⟨rb, ro + x * 4, none⟩) k (c - x)] 22); have HC1 := HCN.out V1 a vc g q1 hB)
      | (go_at_call 97; (try rw [hx5]); refine HC1.mono ?_; rintro e V2 ⟨v', rfl, hO, b2⟩; have q3 : Below W.heap.size W V2 := q2.trans (b2.mono q2.size); have HFI : Hid _ := And.intro (Grd.ownsRow_mono hO q2.size) q3; obtain ⟨za, zc, hzv⟩ := own_slice hO; subst hzv))
  all_goals go_wp2_with fail
  all_goals go_ret
  all_goals exact ⟨_, rfl, HFI.out.1, HFI.out.2⟩
end Put
end Go.Proofs.YtnkeahfcpbepjaaGreatDoor

/- Package sheet: Insert. -/
namespace Go.Proofs.YtnkeahfcpbepjaaGreatDoor
open Go.ChangeShapes Go.WideShapes Go.ChangeAt Go.RowKit
namespace Put
open Grd (C SliceAt CellsAt gridErr z0 nilV flat rowsL RowB OwnG mendL)
theorem insR_at (row : List C) (x n : Nat) (bk : Int) (h : x + n ≤ row.length) (i : Nat) (hi : i < row.length) : (insR row x n bk).getD i z0 = if i < x then row.getD i z0 else if i < x + n then (32, 0, bk, 0) else row.getD (i - n) z0 := by
  have e1 : (row.take x).length = x := by rw [List.length_take]; omega
  unfold insR
  by_cases h1 : i < x
  · rw [if_pos h1]
    simp only [List.getD]
    rw [List.getElem?_append_left (by omega), List.getElem?_take_of_lt h1]
  · rw [if_neg h1]
    simp only [List.getD]
    rw [List.getElem?_append_right (by omega), e1]
    by_cases h2 : i < x + n
    · rw [if_pos h2, List.getElem?_append_left (by rw [List.length_replicate]; omega), List.getElem?_replicate, if_pos (by omega)]
      rfl
    · rw [if_neg h2, List.getElem?_append_right (by rw [List.length_replicate]; omega), List.length_replicate, List.getElem?_take_of_lt (by omega), List.getElem?_drop, show x + (i - x - n) = i - n by omega]
theorem ins_meant {row : List C} (hr : Grd.Meant row) (x n : Nat) (bk : Int) (hn : 1 ≤ n) (hx : x + n ≤ row.length) (hs : Sty.isSt (0, bk, 0) = true) : Grd.Meant (insR row x n bk) := fun i hi => by
  rw [insR_len _ _ _ _ hx] at hi
  rw [insR_at _ _ _ _ hx i hi]
  by_cases h1 : i < x
  · rw [if_pos h1]
    refine ⟨(hr i hi).1, (hr i hi).2.1, fun h0 hp hw => ?_⟩
    rw [insR_at _ _ _ _ hx (i - 1) (by omega), if_pos (by omega)] at hw ⊢
    exact (hr i hi).2.2 h0 hp hw
  · rw [if_neg h1]
    by_cases h2 : i < x + n
    · rw [if_pos h2]
      exact ⟨fun _ => by dsimp only; rw [Grd.wd32]; decide, hs, fun h => absurd h (by simp)⟩
    · rw [if_neg h2]
      have hi2 : i - n < row.length := by omega
      refine ⟨(hr _ hi2).1, (hr _ hi2).2.1, fun h0 hp hw => ?_⟩
      rw [insR_at _ _ _ _ hx (i - 1) (by omega), if_neg (by omega)] at hw ⊢
      by_cases h3 : i - 1 < x + n
      · rw [if_pos h3] at hw
        dsimp only at hw
        rw [Grd.wd32] at hw
        exact absurd hw (by decide)
      · rw [if_neg h3] at hw ⊢
        rw [show i - 1 - n = i - n - 1 by omega] at hw ⊢
        exact (hr _ hi2).2.2 h0 (by omega) hw
theorem plain_ins : Plain 138 := by
  intro args W
  kernel_rfl
set_option maxHeartbeats 4000000 in
set_option maxRecDepth 100000 in
theorem insert_any (X : World) (M N p : Nat) (s : Scr) (rows : List (List C)) (hS : ShAt 64 X M N p s rows) (hT : Txt.Tab X) (y x n : Nat) (hsy : s.y = y) (hsx : s.x = x) (hy : y < rows.length) (hn1 : 1 ≤ n) (hxn : x + n ≤ (rows.getD y []).length) (hl : (rows.getD y []).length ≤ 120) (hm : Grd.Meant (rows.getD y [])) (hst : Sty.isSt (0, s.sb, 0) = true) :
    Calls Tryz.prog 84 #[.pointer (some ⟨p, 0, none⟩), .int .i64 (n : Int)] X (Ran X M N p s (rows.set y (mendL (insR (rows.getD y []) x n s.sb)))) := by
  have kb : Below X.heap.size X ((X.alloc (.cells #[.pointer (some ⟨p, 0, none⟩)] 57)).alloc (.cells #[.int .i64 (n : Int)] 3)) := ((Below.refl _ _).alloc (Nat.le_refl _) _).alloc (by simp) _
  have h0 : (X.alloc (.cells #[.pointer (some ⟨p, 0, none⟩)] 57)).heap[X.heap.size]? = some (.cells #[.pointer (some ⟨p, 0, none⟩)] 57 (0, 0)) := heap_alloc_new X _
  have h0 := (Below.heap_alloc (X.alloc (.cells #[.pointer (some ⟨p, 0, none⟩)] 57)) (.cells #[.int .i64 (n : Int)] 3) _ (heap_lt h0)).trans h0
  have h1 : ((X.alloc (.cells #[.pointer (some ⟨p, 0, none⟩)] 57)).alloc (.cells #[.int .i64 (n : Int)] 3)).heap[X.heap.size + 1]? = some (.cells #[.int .i64 (n : Int)] 3 (0, 0)) := by
    have h := heap_alloc_new (X.alloc (.cells #[.pointer (some ⟨p, 0, none⟩)] 57)) (.cells #[.int .i64 (n : Int)] 3)
    have e : (X.alloc (.cells #[.pointer (some ⟨p, 0, none⟩)] 57)).heap.size = X.heap.size + 1 := by simp
    rw [e] at h
    exact h
  have q0 : ((X.alloc (.cells #[.pointer (some ⟨p, 0, none⟩)] 57)).alloc (.cells #[.int .i64 (n : Int)] 3)).cell? ⟨X.heap.size, 0, none⟩ = some (.pointer (some ⟨p, 0, none⟩)) := by
    unfold World.cell?
    rw [h0]
    rfl
  have q1 : ((X.alloc (.cells #[.pointer (some ⟨p, 0, none⟩)] 57)).alloc (.cells #[.int .i64 (n : Int)] 3)).cell? ⟨X.heap.size + 1, 0, none⟩ = some (.int .i64 (n : Int)) := by
    unfold World.cell?
    rw [h1]
    rfl
  obtain ⟨cv, tv, gv, rv, gvs, vs, hA⟩ := hS
  have hA2 := ShA.next hA kb
  have hlen := insR_len (rows.getD y []) x n s.sb hxn
  have HRL : Hid (∀ V, Below (((X.alloc (.cells #[.pointer (some ⟨p, 0, none⟩)] 57)).alloc (.cells #[.int .i64 (n : Int)] 3))).heap.size ((X.alloc (.cells #[.pointer (some ⟨p, 0, none⟩)] 57)).alloc (.cells #[.int .i64 (n : Int)] 3)) V → Calls Tryz.prog 107 #[.pointer (some ⟨p, 0, none⟩), .int .i64 (y : Int), .func (.func 138) #[] #[.pointer (some ⟨X.heap.size, 0, none⟩), .pointer (some ⟨X.heap.size + 1, 0, none⟩)]] V (Ran V M N p s (rows.set y (mendL (insR (rows.getD y []) x n s.sb))))) := fun V hV => relay_any V M N p s rows cv tv gv rv gvs vs (ShA.next hA2 hV) (Grd.Tab.next (Grd.Tab.next hT kb) hV) y hy 138 plain_ins #[.pointer (some ⟨X.heap.size, 0, none⟩), .pointer (some ⟨X.heap.size + 1, 0, none⟩)] (insR (rows.getD y []) x n s.sb) (fun W1 hW0 => by
    have hW1 := hV.trans (hW0.mono hV.size)
    have hri := (ShA.next hA2 hW1).rin.2 y hy
    obtain ⟨⟨-, -, -, c3, -, -, -, c7, -⟩, -, -⟩ := sh_cells (ShA.next hA2 hW1).blk
    rw [hsx] at c3
    rcases hri with ⟨he, -⟩ | ⟨hne, b, o, c, hv, hc1, hc2, hC, -⟩
    · have h5 := congrArg List.length he
      rw [List.length_nil] at h5
      omega
    · rw [hv]
      refine (ins1_any W1 p X.heap.size (X.heap.size + 1) b o c x n s.sb (rows.getD y []) (cell_stay hW1 q0) (cell_stay hW1 q1) c3 c7 hC hc1 hn1 hxn hl).mono ?_
      rintro e W2 ⟨v', rfl, hO, b2⟩
      have hO2 : W2.ownsRow W1.heap.size 91 4 v' (insR (rows.getD y []) x n s.sb).length (flat (insR (rows.getD y []) x n s.sb)) := by rw [hlen]; exact hO
      rcases OwnC.of hO2 with ⟨he, -⟩ | ⟨g, cap, rest, ⟨t, ht⟩, hv', hg1, hg2, hg3, hg4⟩
      · have h5 := congrArg List.length he
        rw [hlen, List.length_nil] at h5
        omega
      · subst ht
        rw [hv']
        exact ⟨g, cap, rest, rfl, hg1, hg2, hg3, hg4, b2⟩) (ins_meant hm x n s.sb hn1 hxn hst).alike (by rw [hlen]; omega)
  have HKB : Hid (Below X.heap.size X ((X.alloc (.cells #[.pointer (some ⟨p, 0, none⟩)] 57)).alloc (.cells #[.int .i64 (n : Int)] 3))) := kb
  have hNX : N ≤ X.heap.size := Nat.le_trans hA.lo (Nat.le_of_lt (heap_lt hA.blk))
  have c4 : ((X.alloc (.cells #[.pointer (some ⟨p, 0, none⟩)] 57)).alloc (.cells #[.int .i64 (n : Int)] 3)).cell? ⟨p, 4, none⟩ = some (.int .i64 (y : Int)) := by
    obtain ⟨⟨-, -, -, -, c4, -⟩, -, -⟩ := sh_cells hA2.blk
    rw [hsy] at c4
    exact c4
  clear hA hA2 h0 h1 kb hm hst hsy hsx hlen hT
  generalize mendL (insR (rows.getD y []) x n s.sb) = row2 at *
  go_enter Tryz.func84, Tryz.ntmps84
  go_upto_region 1 with fail
  generalize ((X.alloc (.cells #[.pointer (some ⟨p, 0, none⟩)] 57)).alloc (.cells #[.int .i64 (n : Int)] 3)) = Z at *
  have b0 : Below Z.heap.size Z Z.drew := (Below.refl _ _).drew
  clear q1
  go_region_with (first | (go_at_call 107; refine (HRL.out _ b0).mono ?_; rintro e V ⟨rfl, hV, bV, fV⟩))
  all_goals go_wp2_with fail
  all_goals go_end0
  all_goals exact ⟨rfl, hV, ((HKB.out.trans (b0.mono HKB.out.size)).mono hNX).trans bV, ((Framed.of_below HKB.out).trans (Framed.of_below b0)).trans fV⟩
end Put
end Go.Proofs.YtnkeahfcpbepjaaGreatDoor

/- (*sheet.Sheet).keep, Up: a row goes behind all that is gone. -/
namespace Go.Proofs.YtnkeahfcpbepjaaGreatDoor
open Go.ChangeShapes Go.WideShapes Go.ChangeAt Go.RowKit
namespace Put
open Grd (C SliceAt CellsAt gridErr z0 nilV flat rowsL OwnG RowB)
/-- What is gone, and one row more. -/
def keepG (g : List (List C)) (row : List C) : List (List C) := if g.length < 50 then g ++ [row] else (g ++ [row]).eraseIdx 0
theorem keepG_len (g : List (List C)) (row : List C) (h : g.length ≤ 50) : (keepG g row).length ≤ 50 := by
  unfold keepG
  split
  · rw [List.length_append, List.length_singleton]
    omega
  · rw [List.length_eraseIdx_of_lt (by simp), List.length_append, List.length_singleton]
    omega
theorem RowsIn.push {W : World} {N : Nat} {vs : List Value} {rows : List (List C)} (h : RowsIn W N vs rows) (v : Value) (row : List C) (hr : RowIn W N v row) : RowsIn W N (vs ++ [v]) (rows ++ [row]) := by
  have hl := h.1
  refine ⟨by simp [hl], fun i hi => ?_⟩
  rw [List.length_append, List.length_singleton] at hi
  simp only [List.getD]
  by_cases e : i < rows.length
  · rw [List.getElem?_append_left (by omega), List.getElem?_append_left e]
    exact h.2 i e
  · have e2 : i = rows.length := by omega
    subst e2
    rw [List.getElem?_append_right (by omega), List.getElem?_append_right (Nat.le_refl _), hl]
    simpa using hr
theorem cell_news (W : World) (v : Value) (t : TypeId) : ∀ j u, [v][j]? = some u → (W.alloc (.cells #[v] t)).cell? ((⟨W.heap.size, 0, none⟩ : Addr).add j) = some u := fun j u hj => by
  have h := heap_alloc_new W (.cells #[v] t)
  generalize W.alloc (.cells #[v] t) = X at *
  rw [Addr.add_lit]
  match j, hj with
  | 0, hj =>
    rw [← Option.some.inj hj]
    simp [World.cell?, h]
/-- Another list of what is gone. -/
theorem ShA.goneNew {W V : World} {M N p : Nat} {s s' : Scr} {rows : List (List C)} {cv tv gv gv' rv : Value} {gvs vs gvs' : List Value} (h : ShA 64 W M N p s rows cv tv gv rv gvs vs) (hs' : { s with gone := s'.gone } = s')
    (ho : ∀ k, k < W.heap.size → some k ≠ gv.ownBlock → V.heap[k]? = W.heap[k]?) (hw : V.ownsRow N 22 1 gv' s'.gone.length gvs') (hr : RowsIn V M gvs' s'.gone) (hat : gv'.ownBlock = gv.ownBlock ∨ ∃ k, gv'.ownBlock = some k ∧ W.heap.size ≤ k) :
    ShA 64 (V.setCell ⟨p, 21, none⟩ gv') M N p s' rows cv tv gv' rv gvs' vs := by
  have hgb : ∀ k A t, W.heap[k]? = some (.cells A t (0, 0)) → t ≠ 22 → some k ≠ gv.ownBlock := fun k A t hk ht e => by
    obtain ⟨-, B, f, hB⟩ := owns_block h.gone k e.symm
    rw [hk] at hB
    injection hB with hB
    injection hB with _ hB _
    exact ht hB
  have hp : V.heap[p]? = some (.cells (shA s cv tv gv rv) 64 (0, 0)) := (ho p (heap_lt h.blk) (hgb p _ _ h.blk (by decide))).trans h.blk
  have hk1 : Kept M W V := fun k hk hS => ho k hk fun e => by
    obtain ⟨hlo, B, f, hB⟩ := owns_block h.gone k e.symm
    rcases hS with hS | ⟨A, f', hS⟩
    · have := h.ml
      omega
    · rw [hB] at hS
      injection hS with hS
      injection hS with _ hS _
      exact absurd hS (by decide)
  have hk2 : Kept M V (V.setCell ⟨p, 21, none⟩ gv') := Kept.store hp (by decide) (Nat.le_trans h.ml h.lo)
  have hof : ∀ {e : TypeId} {v : Value} {n : Nat} {xs : List Value}, e ≠ 64 → (∀ k, v.ownBlock = some k → some k ≠ gv.ownBlock) → W.ownsRow N e 1 v n xs → (V.setCell ⟨p, 21, none⟩ gv').ownsRow N e 1 v n xs := fun hte hn hw => by
    refine own_off (owns_kept hw fun g hg => ?_) hp (Ne.symm hte)
    obtain ⟨-, B, f', hB⟩ := owns_block hw g hg
    exact ho g (heap_lt hB) (hn g hg)
  have htb : s'.tabs = s.tabs := by rw [← hs']
  refine ⟨store_at hp ?_, h.lo, h.ml, h.cvs, ?_, own_off hw hp (by decide), hr.keep hk2, hof (by decide) (fun k hk e => h.two k hk e.symm) h.rws, (h.rin.keep hk1).keep hk2, fun k hk e => ?_⟩
  · rw [← hs']
    rfl
  · rw [htb]
    refine hof (by decide) (fun k hk e => ?_) h.tabs
    obtain ⟨-, B, f, hB⟩ := owns_block h.tabs k hk
    obtain ⟨-, A, f', hA⟩ := owns_block h.gone k e.symm
    rw [hA] at hB
    injection hB with hB
    injection hB with _ hB _
    exact absurd hB (by decide)
  · rcases hat with hat | ⟨q, hq, hlt⟩
    · rw [hat] at e
      exact h.two k hk e
    · rw [hq] at e
      obtain ⟨-, B, f, hB⟩ := owns_block h.rws k hk
      have := heap_lt hB
      have := Option.some.inj e
      omega
theorem ShA.keptG {W V : World} {M N p : Nat} {s : Scr} {rows : List (List C)} {cv tv gv rv : Value} {gvs vs : List Value} (h : ShA 64 W M N p s rows cv tv gv rv gvs vs) (ho : ∀ k, k < W.heap.size → some k ≠ gv.ownBlock → V.heap[k]? = W.heap[k]?) : Kept M W V := fun k hk hS => ho k hk fun e => by
  obtain ⟨hlo, B, f, hB⟩ := owns_block h.gone k e.symm
  rcases hS with hS | ⟨A, f', hS⟩
  · have := h.ml
    omega
  · rw [hB] at hS
    injection hS with hS
    injection hS with _ hS _
    exact absurd hS (by decide)
theorem ShA.framedG {W V : World} {M N p : Nat} {s : Scr} {rows : List (List C)} {cv tv gv rv gv' : Value} {gvs vs : List Value} (h : ShA 64 W M N p s rows cv tv gv rv gvs vs) (ho : ∀ k, k < W.heap.size → some k ≠ gv.ownBlock → V.heap[k]? = W.heap[k]?) (hp : V.heap[p]? = some (.cells (shA s cv tv gv rv) 64 (0, 0))) : Framed W (V.setCell ⟨p, 21, none⟩ gv') := fun k o hk hO => by
  refine Framed.store hp not_other_sheet k o ((ho k (heap_lt hk) fun e => ?_).trans hk) hO
  obtain ⟨-, B, f, hB⟩ := owns_block h.gone k e.symm
  rw [hk] at hB
  injection hB with hB
  exact not_other_rows (hO B _ _ hB)
theorem grown_below {W V : World} {N : Nat} {row : Option Nat} (h : W.grownBy V row) (hr : ∀ k, row = some k → N ≤ k) (hN : N ≤ W.heap.size) : Below N W V :=
  ⟨h.os, h.tape, h.output, h.size, fun k hk => h.block k (by omega) fun e => by have := hr k e.symm; omega⟩
set_option maxHeartbeats 4000000 in
set_option maxRecDepth 100000 in
theorem keep_any (W : World) (M N p : Nat) (s : Scr) (rows : List (List C)) (hS : ShAt 64 W M N p s rows) (v : Value) (row : List C) (hv : RowIn W M v row) (hgl : s.gone.length ≤ 50) :
    Calls Tryz.prog 159 #[.pointer (some ⟨p, 0, none⟩), v] W (Ran W M N p { s with gone := keepG s.gone row } rows) := by
  obtain ⟨cv, tv, gv, rv, gvs, vs, hS⟩ := hS
  obtain ⟨va, vc, rfl⟩ := hv.shape
  obtain ⟨ga, gc, rfl⟩ := own_slice hS.gone
  obtain ⟨i0, hi, hzz⟩ := Option.map_eq_some_iff.1 info_rows
  simp only [Prod.mk.injEq] at hzz
  obtain ⟨hz0, hz1, hz2⟩ := hzz
  have hlo := hS.lo
  have hNW : N ≤ W.heap.size := Nat.le_trans hlo (Nat.le_of_lt (heap_lt hS.blk))
  have c21 := (sh_cells hS.blk).2.1.2.2.2.2.2.2.2.2.2.2.1
  have k0 : Below W.heap.size W (W.alloc (.cells #[.slice va row.length vc] 22)) := (Below.refl _ _).alloc (Nat.le_refl _) _
  have hown : (W.alloc (.cells #[.slice va row.length vc] 22)).ownsRow N 22 1 (.slice ga s.gone.length gc) s.gone.length gvs := hS.gone.alloc _
  have HNW : Hid (∀ j u, [Value.slice va row.length vc][j]? = some u → (W.alloc (.cells #[.slice va row.length vc] 22)).cell? ((⟨W.heap.size, 0, none⟩ : Addr).add j) = some u) := cell_news W _ _
  have hal := heap_alloc_new W (.cells #[.slice va row.length vc] 22)
  have HS0 : Hid (ShA 64 (W.alloc (.cells #[.slice va row.length vc] 22)) M N p s rows cv tv (.slice ga s.gone.length gc) rv gvs vs) := hS.next k0
  have HRI : Hid (RowIn (W.alloc (.cells #[.slice va row.length vc] 22)) M (.slice va row.length vc) row) := hv.keep (Kept.of_below k0)
  have HK0 : Hid _ := k0
  have c21a := cell_stay k0 c21
  have hszW : (W.alloc (.cells #[.slice va row.length vc] 22)).heap.size = W.heap.size + 1 := by simp
  clear hS hv k0 hal
  go_enter Tryz.func159, Tryz.ntmps159
  go_upto_region 1 with (at_builtin; refine wpList_append_own_at _ rfl _ _ 30 rfl N 22 i0 (.slice none 0 0) 1 24 und_rows hi hz0 hz1 hz2 rfl (by decide) (.slice ga s.gone.length gc) s.gone.length gvs rfl hown ⟨W.heap.size, 0, none⟩ 1 1 [.slice va row.length vc] rfl rfl HNW.out (by intro u hu; simp at hu; rw [hu]; rfl) (by unfold maxLen; omega) (by omega) (by omega) ?_; intro gv' W2 hown' hgr hnil hat; obtain ⟨ga', gc', rfl⟩ := own_slice hown'; have hp2 := (hgr.block p (heap_lt HS0.out.blk) (fun e => (by obtain ⟨-, B, f, hB⟩ := owns_block HS0.out.gone p e.symm; rw [HS0.out.blk] at hB; injection hB with hB; injection hB with _ hB _; exact absurd hB (by decide)))).trans HS0.out.blk; have z21 := (sh_cells hp2).2.1.2.2.2.2.2.2.2.2.2.2.1; have f21 := (sh_cells hp2).2.2 21; clear hnil)
  have hho : ∀ k, k < (W.alloc (.cells #[.slice va row.length vc] 22)).heap.size → some k ≠ (Value.slice ga s.gone.length gc).ownBlock → W2.heap[k]? = (W.alloc (.cells #[.slice va row.length vc] 22)).heap[k]? := fun k hk hne => hgr.block k hk hne
  have hS2 : ShA 64 (W2.setCell ⟨p, 21, none⟩ (.slice ga' (s.gone.length + 1) gc')) M N p { s with gone := s.gone ++ [row] } rows cv tv (.slice ga' (s.gone.length + 1) gc') rv (gvs ++ [.slice va row.length vc]) vs :=
    HS0.out.goneNew (s' := { s with gone := s.gone ++ [row] }) rfl hho (by simpa using hown') ((HS0.out.gin.push _ _ HRI.out).keep (HS0.out.keptG hho)) (hat.imp id fun h => ⟨_, h, Nat.le_refl _⟩)
  have hB2 : Below N W (W2.setCell ⟨p, 21, none⟩ (.slice ga' (s.gone.length + 1) gc')) := ((HK0.out.mono hNW).trans (grown_below hgr (fun k e => (owns_block HS0.out.gone k e).1) (by omega))).setCell hlo _
  have hF2 : Framed W (W2.setCell ⟨p, 21, none⟩ (.slice ga' (s.gone.length + 1) gc')) := (Framed.of_below HK0.out).trans (HS0.out.framedG hho hp2)
  have HS2 : Hid _ := hS2
  have HB2 : Hid _ := hB2
  have HF2 : Hid (Framed W (W2.setCell ⟨p, 21, none⟩ (.slice ga' (s.gone.length + 1) gc'))) := hF2
  have d21 := (sh_cells hS2.blk).2.1.2.2.2.2.2.2.2.2.2.2.1
  clear hS2 hB2 hF2 hho hat hown' hgr hp2 z21 f21 HS0 HK0 HRI HNW hown c21 c21a hszW hi hz0 hz1 hz2
  generalize W2.setCell ⟨p, 21, none⟩ (.slice ga' (s.gone.length + 1) gc') = X at *
  by_cases hlt : s.gone.length < 50
  · have HE : Hid (keepG s.gone row = s.gone ++ [row]) := by unfold Hid keepG; rw [if_pos hlt]
    have hl1 : ¬ ((50 : Int) < (s.gone.length : Int) + 1) := by omega
    go_wp2_with fail
    go_end0
    refine ⟨rfl, ?_, HB2.out, HF2.out⟩
    rw [HE.out]
    exact ⟨_, _, _, _, _, _, HS2.out⟩
  · have HE : Hid (keepG s.gone row = (s.gone ++ [row]).eraseIdx 0) := by unfold Hid keepG; rw [if_neg hlt]
    have hl1 : (50 : Int) < (s.gone.length : Int) + 1 := by omega
    have hX := HS2.out
    have hgo := hX.gone
    have hlen : (s.gone ++ [row]).length = s.gone.length + 1 := by simp
    rw [hlen] at hgo
    obtain ⟨g, cap, hgv, hgN, -, -, -, -, A, hA⟩ := own_cells hgo (by omega)
    injection hgv with e1 _ e3
    subst e1 e3
    have HDel := delete_own N g (s.gone.length + 1) gc' 0 _ X hgo hX.gin.sls (by omega)
    have hpg : p ≠ g := by
      intro e
      rw [← e, hX.blk] at hA
      injection hA with hA
      injection hA with _ hA _
      exact absurd hA (by decide)
    have HEND : Hid (∀ V3 : World, V3.ownsRow N 22 1 (.slice (some ⟨g, 0, none⟩) (s.gone.length + 1 - 1) gc') (s.gone.length + 1 - 1) ((gvs ++ [Value.slice va row.length vc]).eraseIdx 0) → (∀ k, k ≠ g → V3.heap[k]? = X.heap[k]?) → Below g X V3 → V3.cell? ⟨p, 21, none⟩ = some (.slice (some ⟨g, 0, none⟩) (s.gone.length + 1) gc') ∧ V3.frozen? ⟨p, 21, none⟩ = false ∧ Hid (Ran W M N p { s with gone := keepG s.gone row } rows (.returned (.tuple #[])) (V3.setCell ⟨p, 21, none⟩ (.slice (some ⟨g, 0, none⟩) (s.gone.length + 1 - 1) gc')))) := fun V3 hO3 hk3 hb3 => by
      have hho : ∀ k, k < X.heap.size → some k ≠ (Value.slice (some ⟨g, 0, none⟩) (s.gone.length + 1) gc').ownBlock → V3.heap[k]? = X.heap[k]? := fun k _ hne => hk3 k fun e => hne (by rw [e]; rfl)
      have hp3 := (hk3 p hpg).trans hX.blk
      have hl2 : (keepG s.gone row).length = s.gone.length + 1 - 1 := by rw [HE.out, List.length_eraseIdx_of_lt (by omega), hlen]
      have hS3 := hX.goneNew (V := V3) (s' := { s with gone := keepG s.gone row }) (gv' := .slice (some ⟨g, 0, none⟩) (s.gone.length + 1 - 1) gc') (gvs' := (gvs ++ [Value.slice va row.length vc]).eraseIdx 0) rfl hho (by show V3.ownsRow N _ 1 _ (keepG s.gone row).length _; rw [hl2]; exact hO3) (by show RowsIn V3 M _ (keepG s.gone row); rw [HE.out]; exact (hX.gin.keep (hX.keptG hho)).erase 0 (by simp)) (.inl rfl)
      exact ⟨(sh_cells hp3).2.1.2.2.2.2.2.2.2.2.2.2.1, (sh_cells hp3).2.2 21, rfl, ⟨_, _, _, _, _, _, hS3⟩, (HB2.out.trans (hb3.mono hgN)).setCell hlo _, HF2.out.trans (hX.framedG hho hp3)⟩
    clear hX hgo hlen hA HS2 HB2 HF2 HE
    go_wp2_with fail
    refine HDel.mono ?_
    rintro e V3 ⟨rfl, hO3, hk3, hb3⟩
    obtain ⟨z21, f21, HR⟩ := HEND.out V3 hO3 hk3 hb3
    clear HEND HDel hO3 hk3 hb3
    go_wp2_with fail
    go_end0
    exact HR.out
set_option maxHeartbeats 1000000 in
theorem drop_any (W : World) (M N p n : Nat) (s : Scr) (rows : List (List C)) (hS : ShAt 64 W M N p s rows) (top bot : Nat) (hb : s.bot = bot) (hw : s.w = n) (hn1 : 1 ≤ n) (hn2 : n ≤ 120) (hg : top < rows.length) (hf : bot < rows.length) (hrl : rows.length ≤ 60) :
    Calls Tryz.prog 160 #[.pointer (some ⟨p, 0, none⟩), .int .i64 (top : Int)] W (Ran W M N p s (replR rows n s.sb top bot)) := by
  have H := replace_any W M N p n s rows hS top bot hw hn1 hn2 hg hf hrl
  obtain ⟨c0, c1, c3, c4, c5, c9, c10, c11, c19, f⟩ := hS.words
  rw [hb] at c10
  clear hS c0 c1 c3 c4 c5 c9 c11 c19 f
  go_enter Tryz.func160, Tryz.ntmps160
  go_wp2_with fail
  refine H.mono ?_
  rintro e V ⟨rfl, hS1, hB1, hF1⟩
  go_wp2_with fail
  go_end0
  exact ⟨rfl, hS1, hB1, hF1⟩
/-- Rows move up, once. -/
def upS (s : Scr) (rows : List (List C)) (top : Nat) : Scr := if top = 0 then { s with gone := keepG s.gone (rows.getD 0 []) } else s
set_option maxHeartbeats 2000000 in
theorem up_any' (W : World) (M N p n : Nat) (s : Scr) (rows : List (List C)) (hS : ShAt 64 W M N p s rows) (top bot : Nat) (hb : s.bot = bot) (hw : s.w = n) (hn1 : 1 ≤ n) (hn2 : n ≤ 120) (hg : top < rows.length) (hf : bot < rows.length) (hrl : rows.length ≤ 60) (hgl : s.gone.length ≤ 50) :
    Calls Tryz.prog 137 #[.pointer (some ⟨p, 0, none⟩), .int .i64 (top : Int)] W (Ran W M N p (upS s rows top) (replR rows n s.sb top bot)) := by
  by_cases h0 : top = 0
  · subst h0
    have HU : Hid (upS s rows 0 = { s with gone := keepG s.gone (rows.getD 0 []) }) := rfl
    obtain ⟨cv, tv, gv, rv, gvs, vs, hA⟩ := hS
    obtain ⟨rb, rc, hrv, hrb, hrc1, hrc2, hvl, hrcell, A, hrA⟩ := own_cells hA.rws (by omega)
    subst hrv
    have c22 := (sh_cells hA.blk).2.1.2.2.2.2.2.2.2.2.2.2.2
    have d0 := hrcell 0 (by omega)
    have hri := hA.rin.2 0 (by omega)
    obtain ⟨va, vc, hsh⟩ := hri.shape
    rw [hsh] at d0 hri
    have HK := keep_any W M N p s rows ⟨_, _, _, _, _, _, hA⟩ _ _ hri hgl
    have HDR : Hid (∀ V, ShAt 64 V M N p { s with gone := keepG s.gone (rows.getD 0 []) } rows → Calls Tryz.prog 160 #[.pointer (some ⟨p, 0, none⟩), .int .i64 ((0 : Nat) : Int)] V (Ran V M N p { s with gone := keepG s.gone (rows.getD 0 []) } (replR rows n s.sb 0 bot))) := fun V h => drop_any V M N p n _ rows h 0 bot hb hw hn1 hn2 hg hf hrl
    have hl0 : (0 : Int) < (rows.length : Int) := by omega
    clear hA hrA hrcell hvl hsh hri
    generalize rows.getD 0 [] = row at *
    generalize replR rows n s.sb 0 bot = rows' at *
    go_enter Tryz.func137, Tryz.ntmps137
    go_wp2_with fail
    refine HK.mono ?_
    rintro e V ⟨rfl, hS1, hB1, hF1⟩
    have HD2 := HDR.out V hS1
    clear HK HDR c22 d0
    go_wp2_with fail
    refine HD2.mono ?_
    rintro e V2 ⟨rfl, hS2, hB2, hF2⟩
    go_wp2_with fail
    go_end0
    rw [HU.out]
    exact ⟨rfl, hS2, hB1.trans hB2, hF1.trans hF2⟩
  · have HU : Hid (upS s rows top = s) := by unfold Hid upS; rw [if_neg h0]
    have HD2 := drop_any W M N p n s rows hS top bot hb hw hn1 hn2 hg hf hrl
    have hz : ((top : Int) == 0) = false := by simp only [beq_eq_false_iff_ne, ne_eq]; omega
    clear hS
    go_enter Tryz.func137, Tryz.ntmps137
    go_wp2_with fail
    refine HD2.mono ?_
    rintro e V2 ⟨rfl, hS2, hB2, hF2⟩
    go_wp2_with fail
    go_end0
    rw [HU.out]
    exact ⟨rfl, hS2, hB2, hF2⟩
end Put
end Go.Proofs.YtnkeahfcpbepjaaGreatDoor

/- shift.change: a screen is checked, and changed. -/
namespace Go.Proofs.YtnkeahfcpbepjaaGreatDoor
set_option linter.unusedVariables false
open Go.ChangeShapes Go.WideShapes Go.ChangeAt Go.RowKit
namespace Put
open Grd (C SliceAt CellsAt gridErr z0 nilV flat rowsL)
end Put
end Go.Proofs.YtnkeahfcpbepjaaGreatDoor

/- Package shift: the calls that hand a closure on. (Written by gen_call.py.) -/
namespace Go.Proofs.YtnkeahfcpbepjaaGreatDoor
set_option linter.unusedVariables false
open Go.ChangeShapes Go.WideShapes Go.ChangeAt Go.RowKit
namespace Put
open Grd (C)
theorem cell_ones {W : World} {R : Nat} {v : Value} {t : TypeId} (h : W.heap[R]? = some (.cells #[v] t (0, 0))) : W.cell? ⟨R, 0, none⟩ = some v := by simp [World.cell?, h]
end Put
end Go.Proofs.YtnkeahfcpbepjaaGreatDoor

/- A screen that came in, where it lies. -/
namespace Go.Proofs.YtnkeahfcpbepjaaGreatDoor
open Go.ChangeShapes Go.WideShapes Go.ChangeAt Go.RowKit
namespace Put
/-- A screen that came in, where it lies. -/
structure Met (w0 w : World) (s : Scr) (cv tv gv : Value) : Prop where
  t : Txt.Tab w
  v : ScrV w0 s cv tv gv
  b : Below w0.heap.size w0 w
  f : Fits s
theorem Met.next {w0 w W : World} {s : Scr} {cv tv gv : Value} (h : Met w0 w s cv tv gv) (hb : Below w.heap.size w W) : Met w0 W s cv tv gv := ⟨Grd.Tab.next h.t hb, h.v, h.b.trans (hb.mono h.b.size), h.f⟩
end Put
end Go.Proofs.YtnkeahfcpbepjaaGreatDoor
