/- The reference's CheckScreen.  -/
import Derived.Test.YtnkeahfcpbepjaaGreatDoorPartG
import Derived.Test.YtnkeahfcpbepjaaGreatDoorPartP
import Derived.Laws.IdiomStrings
import Derived.Lib.QuietBelow
import Derived.BigQuiet
import Derived.Deep.RegionWith
import Derived.Deep.RegionHeld3
import Derived.Deep.Cut
import Derived.Deep.CutRange
import Derived.Test.YtnkeahfcpbepjaaGreatDoorPartI
import Derived.Test.YtnkeahfcpbepjaaGreatDoorPartE
import Derived.BigRegion
import Derived.Test.YtnkeahfcpbepjaaGreatDoorPartK
import Derived.Test.YtnkeahfcpbepjaaGreatDoorPartL
namespace Go.Proofs.YtnkeahfcpbepjaaGreatDoor
open Go.ChangeShapes Go.WideShapes Go.ChangeAt Go.RowKit Go.Sort
namespace Put
open Grd (C SliceAt CellsAt gridErr z0)
open Sty (isSt)
open Txt (wd)
/-- The world behind a text that was turned into runes. -/
def runesW (W : World) (t : ByteArray) : World := W.drew.alloc (.cells (Conv.runesFrom t t.size 0 #[] ++ Array.replicate (grownCap W (Conv.runesFrom t t.size 0 #[]).size 0 21 - (Conv.runesFrom t t.size 0 #[]).size) (.int .i32 0)) 21)
theorem runes_size (t : ByteArray) : ∀ (f i : Nat) (acc : Array Value), (Conv.runesFrom t f i acc).size = acc.size + Lib.runeCountFrom t f i
  | 0, _, acc => by simp [Conv.runesFrom, Lib.runeCountFrom]
  | f + 1, i, acc => by
    unfold Conv.runesFrom Lib.runeCountFrom
    split
    · rw [runes_size t f]
      simp
      omega
    · simp
theorem runes_conv (t : ByteArray) (ht : t.size ≤ 1048576) (W : World) : (convert 9 52 (.string t)).run Tryz.prog W = .ok (.slice (some ⟨W.heap.size, 0, none⟩) (Lib.runeCount t) (grownCap W (Conv.runesFrom t t.size 0 #[]).size 0 21)) (runesW W t) := by
  have hs : (Conv.runesFrom t t.size 0 #[]).size = Lib.runeCount t := by rw [runes_size]; simp [Lib.runeCount]
  have h := run_runes_of_string (P := Tryz.prog) W 9 52 21 t (by kernel_rfl) (by kernel_rfl) (by kernel_rfl) (by rw [hs]; have := Lib.runeCountFrom_le t t.size 0; unfold Lib.runeCount; omega)
  rw [h]
  unfold runesW
  rw [hs]
theorem below_runesW (W : World) (t : ByteArray) : Below W.heap.size W (runesW W t) := ((Below.refl _ W).drew).alloc (Nat.le_refl _) _
set_option maxHeartbeats 2000000 in
theorem within_any (a h x y : Int) (R : Nat) (W : World) (c0 : W.cell? ⟨R, 0, none⟩ = some (.int .i64 a)) (c1 : W.cell? ⟨R, 1, none⟩ = some (.int .i64 h)) : Calls Tryz.prog 122 #[.int .i64 x, .int .i64 y, .pointer (some ⟨R, 0, none⟩)] W fun e w' => e = .returned (.bool (hasC a h x y)) ∧ W = w' := by
  go_enter Tryz.func122, Tryz.ntmps122
  go_wp2
  all_goals (go_ret; refine ⟨ret_bool ?_, rfl⟩; clear c0 c1)
  all_goals (unfold hasC; rw [Bool.eq_iff_iff]; simp; try omega)
theorem checkRow_any (row : List C) (v : Value) (w : World) (hS : SliceAt w v row) : Calls Tryz.prog 124 #[v] w fun e w' => e = .returned (.bool (decide (gridErr row.length 1 row = 0))) ∧ Below w.heap.size w w' := by
  obtain ⟨ra, rc, hrv⟩ := hS.shape
  have H := Grd.ref_any (row.length : Int) 1 v row w hS
  subst hrv
  clear hS
  generalize gridErr row.length 1 row = ge at *
  go_enter Tryz.func124, Tryz.ntmps124
  go_wp2_with fail
  refine H.mono ?_
  rintro e W1 ⟨rfl, b1⟩
  go_wp2_with fail
  go_ret
  refine ⟨ret_bool ?_, b1⟩
  rw [Bool.eq_iff_iff]
  simp
theorem start13 {w W : World} {R : Nat} {t : TypeId} {s : Scr} {cv tv gv : Value} (hb : Below w.heap.size w W) (h : W.heap[R]? = some (.cells (scrA s cv tv gv) t (0, 0))) : Below w.heap.size w W ∧ W.heap[R]? = some (.cells (scrA s cv tv gv) t (0, 0)) ∧ W.cell? ⟨R, 0, none⟩ = some (.int .i64 s.w) ∧ W.cell? ⟨R, 12, none⟩ = some tv ∧ W.cell? ⟨R, 19, none⟩ = some (.int .i32 s.last) ∧ W.cell? ⟨R, 20, none⟩ = some (.string s.title) := by
  obtain ⟨⟨c0, -⟩, ⟨-, c12, -, -, -, -, -, -, c19, c20, -⟩, -⟩ := scr_cells h
  exact ⟨hb, h, c0, c12, c19, c20⟩
theorem next13 {w W V : World} {R : Nat} {t : TypeId} {s : Scr} {cv tv gv : Value} (h : Below w.heap.size w W ∧ W.heap[R]? = some (.cells (scrA s cv tv gv) t (0, 0)) ∧ W.cell? ⟨R, 0, none⟩ = some (.int .i64 s.w) ∧ W.cell? ⟨R, 12, none⟩ = some tv ∧ W.cell? ⟨R, 19, none⟩ = some (.int .i32 s.last) ∧ W.cell? ⟨R, 20, none⟩ = some (.string s.title)) (b : Below W.heap.size W V) : Below w.heap.size w V ∧ V.heap[R]? = some (.cells (scrA s cv tv gv) t (0, 0)) ∧ V.cell? ⟨R, 0, none⟩ = some (.int .i64 s.w) ∧ V.cell? ⟨R, 12, none⟩ = some tv ∧ V.cell? ⟨R, 19, none⟩ = some (.int .i32 s.last) ∧ V.cell? ⟨R, 20, none⟩ = some (.string s.title) :=
  start13 (h.1.trans (b.mono h.1.size)) (Grd.carry h.2.1 b)
theorem fin13 {w W : World} {R : Nat} {t : TypeId} {s : Scr} {cv tv gv c d : Value} (h : Below w.heap.size w W ∧ W.heap[R]? = some (.cells (scrA s cv tv gv) t (0, 0)) ∧ W.cell? ⟨R, 0, none⟩ = some (.int .i64 s.w) ∧ W.cell? ⟨R, 12, none⟩ = some tv ∧ W.cell? ⟨R, 19, none⟩ = some (.int .i32 s.last) ∧ W.cell? ⟨R, 20, none⟩ = some (.string s.title)) (e : c = d) : c = d ∧ Below w.heap.size w W ∧ W.heap[R]? = some (.cells (scrA s cv tv gv) t (0, 0)) := ⟨e, h.1, h.2.1⟩
/-- An operation of a region that draws, taken first: the operation itself is named by what is left of the list. -/
theorem heldTake {P : Program} {md : Region.Mode} {l : List Oper} {Q : Exit → Act → World → Prop} {S : World → Prop} {i : Nat} {oi : Oper} {rest : List Oper} {v : Value} {fuel : Nat} {listed : Array Bool} {a : Act} {w : World} (hi : l.drop i = oi :: rest)
    (hs : Region.noSelect l.toArray = true) (hf : Region.free md l.toArray listed i = true) (hr : (Region.ready md l.toArray listed).contains i = true)
    (hQ : ∀ c a w, Q (.panic c) (a.put oi.dst v) w → Q (.panic c) a w) (hy : YieldsIf P l.toArray S oi v a) (hS : S w)
    (h : wpAnyH P md l.toArray Q S fuel (listed.setIfInBounds i true) (a.put oi.dst v) w) : wpAnyH P md l.toArray Q S (fuel + 1) listed a w :=
  wpAnyH_take (by
    have h1 : l[i]? = some oi := by rw [← List.head?_drop, hi]; rfl
    simpa using h1) hs hf hr hQ hy hS h
theorem heldCons {P : Program} {md : Region.Mode} {l : List Oper} {Q : Exit → Act → World → Prop} {S : World → Prop} {fuel : Nat} {listed : Array Bool} {a : Act} {w : World} {i : Nat} {o : Oper} {rest : List Oper} {rs : List Nat} (hi : l.drop i = o :: rest)
    (h : ∀ K' : Act → World → Prop, Shut (∀ a w, S w → (S w → wpAnyH P md l.toArray Q S fuel (listed.setIfInBounds i true) a w) → K' a w) → if Region.wanted o (yielded l.toArray a.tmps) = true then Oper.wp P o a w K' Q else K' (a.put o.dst undef) w)
    (hs : AllReadyH P md l.toArray Q S fuel listed a w rs) : AllReadyH P md l.toArray Q S fuel listed a w (i :: rs) :=
  AllReadyH.cons (by
    have h1 : l[i]? = some o := by rw [← List.head?_drop, hi]; rfl
    simpa using h1) h hs
set_option linter.unusedSimpArgs false in
set_option maxHeartbeats 32000000 in
set_option maxRecDepth 100000 in
theorem checkScreen_any (s : Scr) (cv tv gv : Value) (w : World) (hV : ScrV w s cv tv gv) (hF : Fits s) :
    Calls Tryz.prog 65 #[.agg (scrA s cv tv gv)] w fun e w' => e = .returned (.int .i64 (scrErr s)) ∧ Below w.heap.size w w' := by
  obtain ⟨ca, cc, hcv⟩ := hV.c.shape
  obtain ⟨ta, tc, htv⟩ := hV.t.slice
  obtain ⟨ga, gc, hgv⟩ := hV.g.slice
  subst hcv htv hgv
  have x0 := heap_alloc_new w (.cells (scrA s (.slice ca s.cs.length cc) (.slice ta s.tabs.length tc) (.slice ga s.gone.length gc)) 32)
  have kb : Below w.heap.size w (w.alloc (.cells (scrA s (.slice ca s.cs.length cc) (.slice ta s.tabs.length tc) (.slice ga s.gone.length gc)) 32)) := (Below.refl _ _).alloc (Nat.le_refl _) _
  have HB0 : Hid _ := kb
  have HX0 : Hid _ := x0
  have HV : Hid (ScrV w s _ _ _) := hV
  have HF : Hid (Fits s) := hF
  obtain ⟨res, hres⟩ : ∃ res, scrErr s = res := ⟨_, rfl⟩
  rw [hres]
  have HC : Hid (scrErr s = res) := hres
  obtain ⟨⟨c0, c1, c2, c3, c4, c5, c6, c7, c8, c9, c10⟩, ⟨c11, c12, c13, c14, c15, c16, c17, c18, c19, c20, c21⟩, -⟩ := scr_cells x0
  have HGC := Grd.ref_any s.w s.h _ s.cs _ (HV.out.c.below HB0.out)
  clear x0 kb hV hF hres
  by_cases hz : gridErr s.w s.h s.cs = 0
  case neg =>
    have hzb : (gridErr s.w s.h s.cs != 0) = true := by simp [bne, hz]
    have HR : Hid (gridErr s.w s.h s.cs = res) := by
      unfold Hid
      rw [← HC.out]
      unfold scrErr
      rw [if_pos hz]
    clear hz
    generalize gridErr s.w s.h s.cs = ge at *
    go_enter Tryz.func65, Tryz.ntmps65
    go_wp2_with fail
    refine HGC.mono ?_
    rintro e W1 ⟨rfl, b⟩
    clear c0 c1 c2 c3 c4 c5 c6 c7 c8 c9 c10 c11 c12 c13 c14 c15 c16 c17 c18 c19 c20 c21
    go_wp2_with fail
    go_ret
    exact ⟨ret_int HR.out, HB0.out.trans (b.mono HB0.out.size)⟩
  obtain ⟨w1, w2, w3, w4⟩ := grid_size hz
  rw [hz] at HGC
  have HZ : Hid (gridErr s.w s.h s.cs = 0) := hz
  clear hz
  go_enter Tryz.func65, Tryz.ntmps65
  go_wp2_with fail
  refine HGC.mono ?_
  rintro e W1 ⟨rfl, b⟩
  have HX1 : Hid (W1.heap[w.heap.size]? = _) := Grd.carry HX0.out b
  have HB1 : Hid (Below w.heap.size w W1) := HB0.out.trans (b.mono HB0.out.size)
  clear c0 c1 c2 c3 c4 c5 c6 c7 c8 c9 c10 c11 c12 c13 c14 c15 c16 c17 c18 c19 c20 c21 b HGC
  go_upto_region 5 with fail
  go_cut [31] from 14 to 31 (fun c wx => c = .bool (!(hasC s.w s.h s.x s.y && hasC s.w s.h s.kx s.ky)) ∧ wx = W1)
  case first =>
    obtain ⟨⟨c0, c1, c2, c3, c4, c5, c6, c7, c8, c9, c10⟩, ⟨c11, c12, c13, c14, c15, c16, c17, c18, c19, c20, c21⟩, -⟩ := scr_cells HX1.out
    have H1 := within_any s.w s.h s.x s.y w.heap.size W1 c0 c1
    have H2 := within_any s.w s.h s.kx s.ky w.heap.size W1 c0 c1
    generalize hasC s.w s.h s.x s.y = b1 at *
    generalize hasC s.w s.h s.kx s.ky = b2 at *
    cases b1 with
    | false =>
      go_wp2_with fail
      refine H1.mono ?_
      rintro e V ⟨rfl, hv⟩
      subst hv
      go_wp2_with fail
      go_meet
      exact ⟨rfl, rfl⟩
    | true =>
      go_wp2_with fail
      refine H1.mono ?_
      rintro e V ⟨rfl, hv⟩
      subst hv
      go_wp2_with fail
      refine H2.mono ?_
      rintro e V ⟨rfl, hv⟩
      subst hv
      cases b2 with
      | false =>
        go_wp2_with fail
        go_meet
        exact ⟨rfl, rfl⟩
      | true =>
        go_wp2_with fail
        go_meet
        exact ⟨rfl, rfl⟩
  case rest =>
    obtain ⟨rfl, hwx⟩ := hcut
    subst hwx
    cases h12 : (hasC s.w s.h s.x s.y && hasC s.w s.h s.kx s.ky) with
    | false =>
      have HR : Hid (4 = res) := by
        unfold Hid
        rw [← HC.out]
        unfold scrErr placeOk
        rw [HZ.out, ← Bool.and_assoc, h12]
        simp
      go_wp2_with fail
      go_ret
      exact ⟨ret_int HR.out, HB1.out⟩
    | true =>
      have HH : Hid ((hasC s.w s.h s.x s.y && hasC s.w s.h s.kx s.ky) = true) := h12
      clear h12
      go_upto_region 7 with fail
      go_cut [62] from 32 to 62 (fun c wx => c = .bool (!regionOk s.h s.top s.bot) ∧ wx = wc)
      case first =>
        obtain ⟨⟨c0, c1, c2, c3, c4, c5, c6, c7, c8, c9, c10⟩, ⟨c11, c12, c13, c14, c15, c16, c17, c18, c19, c20, c21⟩, -⟩ := scr_cells HX1.out
        generalize hro : regionOk s.h s.top s.bot = ro at *
        have HRO : Hid (regionOk s.h s.top s.bot = ro) := hro
        clear hro
        go_wp2_with fail
        all_goals go_meet
        all_goals refine ⟨congrArg Value.bool ?_, rfl⟩
        all_goals (rw [← HRO.out]; unfold regionOk; rw [Bool.eq_iff_iff]; simp at *; try omega)
      case rest =>
        obtain ⟨rfl, hwx⟩ := hcut
        subst hwx
        cases h3 : regionOk s.h s.top s.bot with
        | false =>
          have HR : Hid (4 = res) := by
            unfold Hid
            rw [← HC.out]
            unfold scrErr placeOk
            rw [HZ.out, h3]
            simp
          go_wp2_with fail
          go_ret
          exact ⟨ret_int HR.out, HB1.out⟩
        | true =>
          have HP : Hid (placeOk s = true) := by
            unfold Hid placeOk
            rw [← Bool.and_assoc, HH.out, h3]
            rfl
          clear h3 HH
          go_upto_region 9 with fail
          go_cut [80] from 63 to 80 (fun c wx => c = .bool (lateBad s) ∧ wx = wc)
          case first =>
            obtain ⟨⟨c0, c1, c2, c3, c4, c5, c6, c7, c8, c9, c10⟩, ⟨c11, c12, c13, c14, c15, c16, c17, c18, c19, c20, c21⟩, -⟩ := scr_cells HX1.out
            cases hl : s.late with
            | false =>
              have HLT : Hid (lateBad s = false) := by unfold Hid lateBad; rw [hl]; rfl
              go_wp2_with fail
              go_meet
              exact ⟨by rw [HLT.out], rfl⟩
            | true =>
              by_cases hx : s.x = s.w - 1
              case neg =>
                have hxb : (s.x == s.w - 1) = false := by rw [beq_eq_false_iff_ne]; exact hx
                have HLT : Hid (lateBad s = true) := by unfold Hid lateBad; rw [hl, decide_eq_false hx]; rfl
                clear hx
                go_wp2_with fail
                go_meet
                exact ⟨by rw [HLT.out], rfl⟩
              have hxb : (s.x == s.w - 1) = true := by rw [beq_iff_eq]; exact hx
              by_cases hm4 : bits .and .i64 s.modes 4 = 0
              · have hmb : (bits .and .i64 s.modes 4 != 0) = false := by rw [bne_eq_false_iff_eq]; exact hm4
                have HLT : Hid (lateBad s = true) := by unfold Hid lateBad; rw [hl, decide_eq_true hm4]; simp
                clear hx hm4
                go_wp2_with fail
                go_meet
                exact ⟨by rw [HLT.out], rfl⟩
              · have hmb : (bits .and .i64 s.modes 4 != 0) = true := by rw [bne_iff_ne]; exact hm4
                have HLT : Hid (lateBad s = false) := by unfold Hid lateBad; rw [hl, decide_eq_false hm4, decide_eq_true hx]; rfl
                clear hx hm4
                go_wp2_with fail
                go_meet
                exact ⟨by rw [HLT.out], rfl⟩
          case rest =>
            obtain ⟨rfl, hwx⟩ := hcut
            subst hwx
            cases h4 : lateBad s with
            | true =>
              have HR : Hid (5 = res) := by
                unfold Hid
                rw [← HC.out]
                simp [scrErr, HZ.out, HP.out, h4]
              go_wp2_with fail
              go_ret
              exact ⟨ret_int HR.out, HB1.out⟩
            | false =>
              have HLT : Hid (lateBad s = false) := h4
              clear h4
              go_upto_region 11 with fail
              go_cut [120] from 81 to 120 (fun c wx => c = .bool (!looksOk s) ∧ Below w.heap.size w wx ∧ wx.heap[w.heap.size]? = some (.cells (scrA s (.slice ca s.cs.length cc) (.slice ta s.tabs.length tc) (.slice ga s.gone.length gc)) 32 (0, 0)))
              case first =>
                obtain ⟨⟨c0, c1, c2, c3, c4, c5, c6, c7, c8, c9, c10⟩, ⟨c11, c12, c13, c14, c15, c16, c17, c18, c19, c20, c21⟩, -⟩ := scr_cells HX1.out
                have HLO : Hid (looksOk s = (isSt (s.sf, s.sb, s.sx) && (isSt (s.kf, s.kb, s.kbits) && (decide (0 ≤ s.modes ∧ s.modes ≤ 63) && keptOk s.km)))) := rfl
                have H5 := Sty.isStyle_any s.sf s.sb s.sx wc
                have H6 : Hid (∀ W, Calls Tryz.prog 123 #[.agg #[.int .i64 s.kf, .int .i64 s.kb, .int .i64 s.kbits]] W fun e w' => e = .returned (.bool (isSt (s.kf, s.kb, s.kbits))) ∧ Below W.heap.size W w') := fun W => Sty.isStyle_any _ _ _ W
                generalize isSt (s.sf, s.sb, s.sx) = s1 at *
                generalize isSt (s.kf, s.kb, s.kbits) = s2 at *
                generalize looksOk s = lo at *
                go_wp2_with fail
                refine H5.mono ?_
                rintro e V ⟨rfl, b⟩
                have HXV : Hid (V.heap[w.heap.size]? = _) := Grd.carry HX1.out b
                have HBV : Hid (Below w.heap.size w V) := HB1.out.trans (b.mono HB1.out.size)
                clear c0 c1 c2 c3 c4 c5 c6 c7 c8 c9 c10 c11 c12 c13 c14 c15 c16 c17 c18 c19 c20 c21 b H5
                obtain ⟨⟨c0, c1, c2, c3, c4, c5, c6, c7, c8, c9, c10⟩, ⟨c11, c12, c13, c14, c15, c16, c17, c18, c19, c20, c21⟩, -⟩ := scr_cells HXV.out
                cases s1 with
                | false =>
                  go_wp2_with fail
                  go_meet
                  exact ⟨by rw [HLO.out]; rfl, HBV.out, HXV.out⟩
                | true =>
                  go_wp2_with fail
                  refine (H6.out V).mono ?_
                  rintro e V2 ⟨rfl, b⟩
                  have HXV2 : Hid (V2.heap[w.heap.size]? = _) := Grd.carry HXV.out b
                  have HBV2 : Hid (Below w.heap.size w V2) := HBV.out.trans (b.mono HBV.out.size)
                  clear c0 c1 c2 c3 c4 c5 c6 c7 c8 c9 c10 c11 c12 c13 c14 c15 c16 c17 c18 c19 c20 c21 b H6
                  obtain ⟨⟨c0, c1, c2, c3, c4, c5, c6, c7, c8, c9, c10⟩, ⟨c11, c12, c13, c14, c15, c16, c17, c18, c19, c20, c21⟩, -⟩ := scr_cells HXV2.out
                  cases s2 with
                  | false =>
                    go_wp2_with fail
                    go_meet
                    exact ⟨by rw [HLO.out]; rfl, HBV2.out, HXV2.out⟩
                  | true =>
                    by_cases m0 : s.modes < 0
                    · go_wp2_with fail
                      go_meet
                      exact ⟨by rw [HLO.out, decide_eq_false (by omega)]; rfl, HBV2.out, HXV2.out⟩
                    by_cases m1 : 63 < s.modes
                    · go_wp2_with fail
                      go_meet
                      exact ⟨by rw [HLO.out, decide_eq_false (by omega)]; rfl, HBV2.out, HXV2.out⟩
                    by_cases k0 : s.km < 0
                    · have hkk : keptOk s.km = false := by
                        cases h : keptOk s.km with
                        | false => rfl
                        | true => have := kept_range _ h; omega
                      have HLN : Hid ((!lo) = true) := by unfold Hid; rw [HLO.out, hkk]; simp
                      clear hkk
                      go_wp2_with fail
                      go_meet
                      exact ⟨by rw [HLN.out], HBV2.out, HXV2.out⟩
                    by_cases k1 : bits .and .i64 s.km 57 = 0
                    case neg =>
                      have k1b : (bits .and .i64 s.km 57 != 0) = true := by rw [bne_iff_ne]; exact k1
                      have hkk : keptOk s.km = false := by
                        cases h : keptOk s.km with
                        | false => rfl
                        | true => have h2 := kept_range _ h; exact absurd ((kept_ref _ h2.1 h2.2).2 h) k1
                      have HLN : Hid ((!lo) = true) := by unfold Hid; rw [HLO.out, hkk]; simp
                      clear hkk k1
                      go_wp2_with fail
                      go_meet
                      exact ⟨by rw [HLN.out], HBV2.out, HXV2.out⟩
                    have k1b : (bits .and .i64 s.km 57 != 0) = false := by rw [bne_eq_false_iff_eq]; exact k1
                    by_cases k2 : 63 < s.km
                    · have hkk : keptOk s.km = false := by
                        cases h : keptOk s.km with
                        | false => rfl
                        | true => have := kept_range _ h; omega
                      have HLN : Hid ((!lo) = true) := by unfold Hid; rw [HLO.out, hkk]; simp
                      clear hkk k1
                      go_wp2_with fail
                      go_meet
                      exact ⟨by rw [HLN.out], HBV2.out, HXV2.out⟩
                    have hkk : keptOk s.km = true := (kept_ref _ (by omega) (by omega)).1 k1
                    have HLN : Hid ((!lo) = false) := by unfold Hid; rw [HLO.out, hkk, decide_eq_true ⟨by omega, by omega⟩]; rfl
                    clear hkk k1
                    go_wp2_with fail
                    go_meet
                    exact ⟨by rw [HLN.out]; refine congrArg Value.bool ?_; simp; omega, HBV2.out, HXV2.out⟩
              case rest =>
                obtain ⟨rfl, hBw, hXw⟩ := hcut
                cases h5 : looksOk s with
                | false =>
                  have HR : Hid (4 = res) := by
                    unfold Hid
                    rw [← HC.out]
                    simp [scrErr, HZ.out, HP.out, HLT.out, h5]
                  go_wp2_with fail
                  go_ret
                  exact ⟨ret_int HR.out, hBw⟩
                | true =>
                  have HLK : Hid (looksOk s = true) := h5
                  have HBW : Hid (Below w.heap.size w wc) := hBw
                  have HXW : Hid (wc.heap[w.heap.size]? = _) := hXw
                  clear h5 hBw hXw
                  go_upto_region 13 with fail
                  go_cut [153] from 121 to 153 (fun c wx => c = .bool (!restOk s) ∧ Below w.heap.size w wx ∧ wx.heap[w.heap.size]? = some (.cells (scrA s (.slice ca s.cs.length cc) (.slice ta s.tabs.length tc) (.slice ga s.gone.length gc)) 32 (0, 0)))
                  case first =>
                    obtain ⟨⟨c0, c1, c2, c3, c4, c5, c6, c7, c8, c9, c10⟩, ⟨c11, c12, c13, c14, c15, c16, c17, c18, c19, c20, c21⟩, -⟩ := scr_cells HXW.out
                    have htb := HF.out.bl
                    have z0 : ∀ d os, (grow (redrawn wc d) os).cell? ⟨w.heap.size, 0, none⟩ = some (.int .i64 s.w) := fun d os => cell_regrown c0 d os
                    have z12 : ∀ d os, (grow (redrawn wc d) os).cell? ⟨w.heap.size, 12, none⟩ = some (.slice ta s.tabs.length tc) := fun d os => cell_regrown c12 d os
                    have z19 : ∀ d os, (grow (redrawn wc d) os).cell? ⟨w.heap.size, 19, none⟩ = some (.int .i32 s.last) := fun d os => cell_regrown c19 d os
                    have z20 : ∀ d os, (grow (redrawn wc d) os).cell? ⟨w.heap.size, 20, none⟩ = some (.string s.title) := fun d os => cell_regrown c20 d os
                    have HRE : Hid (restOk s = (decide ((s.tabs.length : Int) = s.w) && ((decide (s.last = 0) || !decide (wd s.last = 0)) && ((s.title.toList == (Txt.bs (Txt.cleanL (Txt.runes s.title))).toList) && decide (Lib.runeCount s.title ≤ 20))))) := rfl
                    have HCU : Hid (∀ W, Calls Tryz.prog 30 #[.string s.title] W fun e w' => e = .returned (.string (Txt.bs (Txt.cleanL (Txt.runes s.title)))) ∧ Below W.heap.size W w') := fun W => Txt.cleanOf_any s.title W (by have := HF.out.tl; omega)
                    have HCG : Hid (∀ d os, Calls Tryz.prog 30 #[.string s.title] (grow (redrawn wc d) os) fun r w'' => r = .returned (.string (Txt.bs (Txt.cleanL (Txt.runes s.title)))) ∧ ∃ p : Regrown, w'' = grow (redrawn wc p.d) p.os) := fun d os => Calls.regrown_of (HCU.out _)
                    have HWG : Hid (∀ d os, Calls Tryz.prog 69 #[.int .i32 s.last] (grow (redrawn wc d) os) fun r w'' => r = .returned (.int .i64 (wd s.last)) ∧ ∃ p : Regrown, w'' = grow (redrawn wc p.d) p.os) := fun d os => Calls.regrown_of (Grd.widthOf_to s.last _ _ rfl)
                    generalize Txt.bs (Txt.cleanL (Txt.runes s.title)) = u at *
                    generalize restOk s = rb at *
                    by_cases t1 : (s.tabs.length : Int) = s.w
                    case neg =>
                      have t1b : ((s.tabs.length : Int) != s.w) = true := by rw [bne_iff_ne]; exact t1
                      have HRB : Hid (rb = false) := by unfold Hid; rw [HRE.out, decide_eq_false t1]; rfl
                      clear t1
                      refine wp_region_quiet_below (by kernel_rfl) (by kernel_rfl) ?_
                      repeat (first | go_big_quiet_skip | quiet_step (fail))
                      refine wpQuiet_nil ?_
                      intro _ hw'
                      obtain ⟨⟨dq, os⟩, hw''⟩ := hw'
                      subst hw''
                      go_wp2_with fail
                      go_meet
                      exact ⟨by rw [HRB.out]; rfl, HBW.out.trans ((below_regrown wc dq os).mono HBW.out.size), Grd.carry HXW.out (below_regrown wc dq os)⟩
                    have t1b : ((s.tabs.length : Int) != s.w) = false := by rw [bne_eq_false_iff_eq]; exact t1
                    have HRB1 : Hid (rb = ((decide (s.last = 0) || !decide (wd s.last = 0)) && ((s.title.toList == u.toList) && decide (Lib.runeCount s.title ≤ 20)))) := by unfold Hid; rw [HRE.out, decide_eq_true t1]; rfl
                    clear t1 HRE
                    by_cases l0 : s.last = 0
                    · have l0b : (s.last != 0) = false := by rw [bne_eq_false_iff_eq]; exact l0
                      have HRB0 : Hid (rb = ((s.title.toList == u.toList) && decide (Lib.runeCount s.title ≤ 20))) := by unfold Hid; rw [HRB1.out, decide_eq_true l0]; rfl
                      clear l0 HRB1
                      cases hq : (u.toList == s.title.toList) with
                      | false =>
                        have HRB : Hid (rb = false) := by
                          unfold Hid
                          rw [HRB0.out, show (s.title.toList == u.toList) = false by rw [beq_eq_false_iff_ne]; intro h; rw [h] at hq; simp at hq]
                          simp
                        refine wp_region_quiet_below (by kernel_rfl) (by kernel_rfl) ?_
                        repeat (first | go_big_quiet_skip | quiet_step (first | (go_at_call 30; exact HCG.out _ _)))
                        refine wpQuiet_nil ?_
                        intro _ hw'
                        obtain ⟨⟨dq, os⟩, hw''⟩ := hw'
                        subst hw''
                        go_wp2_with fail
                        go_meet
                        exact ⟨by rw [HRB.out]; rfl, HBW.out.trans ((below_regrown wc dq os).mono HBW.out.size), Grd.carry HXW.out (below_regrown wc dq os)⟩
                      | true =>
                        have HEQ : Hid ((s.title.toList == u.toList) = true) := by
                          unfold Hid
                          have hq2 := eq_of_beq hq
                          rw [hq2]
                          simp
                        have hcv := runes_conv s.title HF.out.tl
                        clear z0 z12 z19 z20
                        have HRB : Hid (rb = decide (Lib.runeCount s.title ≤ 20)) := by unfold Hid; rw [HRB0.out, HEQ.out, Bool.true_and]
                        have hrc : Lib.runeCount s.title ≤ 9223372036854775807 := by have := Lib.runeCountFrom_le s.title s.title.size 0; have := HF.out.tl; unfold Lib.runeCount; omega
                        have hst := start13 HBW.out HXW.out
                        clear c0 c1 c2 c3 c4 c5 c6 c7 c8 c9 c10 c11 c12 c13 c14 c15 c16 c17 c18 c19 c20 c21 HCG HWG
                        refine wp_region_held_drew (S := (fun wx => Below w.heap.size w wx ∧ wx.heap[w.heap.size]? = some (.cells (scrA s (.slice ca s.cs.length cc) (.slice ta s.tabs.length tc) (.slice ga s.gone.length gc)) 32 (0, 0)) ∧ wx.cell? ⟨w.heap.size, 0, none⟩ = some (.int .i64 s.w) ∧ wx.cell? ⟨w.heap.size, 12, none⟩ = some (.slice ta s.tabs.length tc) ∧ wx.cell? ⟨w.heap.size, 19, none⟩ = some (.int .i32 s.last) ∧ wx.cell? ⟨w.heap.size, 20, none⟩ = some (.string s.title))) (by kernel_rfl) (next13 hst ((Below.refl _ _).drew)) (fun hHeld => ?_)
                        refine heldTake (i := 0) (v := ?_) rfl (by kernel_rfl) (by kernel_rfl) (by kernel_rfl) (fun _ _ _ h => h) (Or.inl ⟨by rfl, ?_⟩) hHeld ?_
                        rotate_left
                        · (intro wq hSw; obtain ⟨-, -, e0, e12, e19, e20⟩ := hSw; go_simp; try with_reducible rfl)
                        try simp only [Act.put, List.setIfInBounds_toArray, List.set_cons_zero, List.set_cons_succ]
                        refine heldTake (i := 1) (v := ?_) rfl (by kernel_rfl) (by kernel_rfl) (by kernel_rfl) (fun _ _ _ h => h) (Or.inl ⟨by rfl, ?_⟩) hHeld ?_
                        rotate_left
                        · (intro wq hSw; obtain ⟨-, -, e0, e12, e19, e20⟩ := hSw; go_simp; try with_reducible rfl)
                        try simp only [Act.put, List.setIfInBounds_toArray, List.set_cons_zero, List.set_cons_succ]
                        refine heldTake (i := 2) (v := ?_) rfl (by kernel_rfl) (by kernel_rfl) (by kernel_rfl) (fun _ _ _ h => h) (Or.inl ⟨by rfl, ?_⟩) hHeld ?_
                        rotate_left
                        · (intro wq hSw; obtain ⟨-, -, e0, e12, e19, e20⟩ := hSw; go_simp; try with_reducible rfl)
                        try simp only [Act.put, List.setIfInBounds_toArray, List.set_cons_zero, List.set_cons_succ]
                        refine heldTake (i := 3) (v := ?_) rfl (by kernel_rfl) (by kernel_rfl) (by kernel_rfl) (fun _ _ _ h => h) (Or.inl ⟨by rfl, ?_⟩) hHeld ?_
                        rotate_left
                        · (intro wq hSw; obtain ⟨-, -, e0, e12, e19, e20⟩ := hSw; go_simp; try with_reducible rfl)
                        try simp only [Act.put, List.setIfInBounds_toArray, List.set_cons_zero, List.set_cons_succ]
                        refine heldTake (i := 4) (v := ?_) rfl (by kernel_rfl) (by kernel_rfl) (by kernel_rfl) (fun _ _ _ h => h) (Or.inl ⟨by rfl, ?_⟩) hHeld ?_
                        rotate_left
                        · (intro wq hSw; obtain ⟨-, -, e0, e12, e19, e20⟩ := hSw; go_simp; try with_reducible rfl)
                        try simp only [Act.put, List.setIfInBounds_toArray, List.set_cons_zero, List.set_cons_succ]
                        refine heldTake (i := 5) (v := ?_) rfl (by kernel_rfl) (by kernel_rfl) (by kernel_rfl) (fun _ _ _ h => h) (Or.inl ⟨by rfl, ?_⟩) hHeld ?_
                        rotate_left
                        · (intro wq hSw; obtain ⟨-, -, e0, e12, e19, e20⟩ := hSw; go_simp; try with_reducible rfl)
                        try simp only [Act.put, List.setIfInBounds_toArray, List.set_cons_zero, List.set_cons_succ]
                        refine heldTake (i := 6) (v := ?_) rfl (by kernel_rfl) (by kernel_rfl) (by kernel_rfl) (fun _ _ _ h => h) (Or.inl ⟨by rfl, ?_⟩) hHeld ?_
                        rotate_left
                        · (intro wq hSw; obtain ⟨-, -, e0, e12, e19, e20⟩ := hSw; go_simp; try with_reducible rfl)
                        try simp only [Act.put, List.setIfInBounds_toArray, List.set_cons_zero, List.set_cons_succ]
                        refine heldTake (i := 7) (v := ?_) rfl (by kernel_rfl) (by kernel_rfl) (by kernel_rfl) (fun _ _ _ h => h) (Or.inl ⟨by rfl, ?_⟩) hHeld ?_
                        rotate_left
                        · (intro wq hSw; obtain ⟨-, -, e0, e12, e19, e20⟩ := hSw; go_simp; try with_reducible rfl)
                        try simp only [Act.put, List.setIfInBounds_toArray, List.set_cons_zero, List.set_cons_succ]
                        refine heldTake (i := 8) (v := ?_) rfl (by kernel_rfl) (by kernel_rfl) (by kernel_rfl) (fun _ _ _ h => h) (Or.inl ⟨by rfl, ?_⟩) hHeld ?_
                        rotate_left
                        · (intro wq hSw; obtain ⟨-, -, e0, e12, e19, e20⟩ := hSw; go_simp; try with_reducible rfl)
                        try simp only [Act.put, List.setIfInBounds_toArray, List.set_cons_zero, List.set_cons_succ]
                        refine heldTake (i := 9) (v := ?_) rfl (by kernel_rfl) (by kernel_rfl) (by kernel_rfl) (fun _ _ _ h => h) (Or.inl ⟨by rfl, ?_⟩) hHeld ?_
                        rotate_left
                        · (intro wq hSw; obtain ⟨-, -, e0, e12, e19, e20⟩ := hSw; go_simp; try with_reducible rfl)
                        try simp only [Act.put, List.setIfInBounds_toArray, List.set_cons_zero, List.set_cons_succ]
                        refine heldTake (i := 10) (v := ?_) rfl (by kernel_rfl) (by kernel_rfl) (by kernel_rfl) (fun _ _ _ h => h) (Or.inl ⟨by rfl, ?_⟩) hHeld ?_
                        rotate_left
                        · (intro wq hSw; obtain ⟨-, -, e0, e12, e19, e20⟩ := hSw; go_simp; try with_reducible rfl)
                        try simp only [Act.put, List.setIfInBounds_toArray, List.set_cons_zero, List.set_cons_succ]
                        refine heldTake (i := 11) (v := ?_) rfl (by kernel_rfl) (by kernel_rfl) (by kernel_rfl) (fun _ _ _ h => h) (Or.inl ⟨by rfl, ?_⟩) hHeld ?_
                        rotate_left
                        · (intro wq hSw; obtain ⟨-, -, e0, e12, e19, e20⟩ := hSw; go_simp; try with_reducible rfl)
                        try simp only [Act.put, List.setIfInBounds_toArray, List.set_cons_zero, List.set_cons_succ]
                        refine heldTake (i := 12) (v := undef) rfl (by kernel_rfl) (by kernel_rfl) (by kernel_rfl) (fun _ _ _ h => h) (Or.inr ⟨by rfl, rfl⟩) hHeld ?_
                        try simp only [Act.put, List.setIfInBounds_toArray, List.set_cons_zero, List.set_cons_succ]
                        refine heldTake (i := 13) (v := undef) rfl (by kernel_rfl) (by kernel_rfl) (by kernel_rfl) (fun _ _ _ h => h) (Or.inr ⟨by rfl, rfl⟩) hHeld ?_
                        try simp only [Act.put, List.setIfInBounds_toArray, List.set_cons_zero, List.set_cons_succ]
                        refine heldTake (i := 14) (v := undef) rfl (by kernel_rfl) (by kernel_rfl) (by kernel_rfl) (fun _ _ _ h => h) (Or.inr ⟨by rfl, rfl⟩) hHeld ?_
                        try simp only [Act.put, List.setIfInBounds_toArray, List.set_cons_zero, List.set_cons_succ]
                        refine heldTake (i := 15) (v := undef) rfl (by kernel_rfl) (by kernel_rfl) (by kernel_rfl) (fun _ _ _ h => h) (Or.inr ⟨by rfl, rfl⟩) hHeld ?_
                        try simp only [Act.put, List.setIfInBounds_toArray, List.set_cons_zero, List.set_cons_succ]
                        refine heldTake (i := 16) (v := ?_) rfl (by kernel_rfl) (by kernel_rfl) (by kernel_rfl) (fun _ _ _ h => h) (Or.inl ⟨by rfl, ?_⟩) hHeld ?_
                        rotate_left
                        · (intro wq hSw; obtain ⟨-, -, e0, e12, e19, e20⟩ := hSw; go_simp; try with_reducible rfl)
                        try simp only [Act.put, List.setIfInBounds_toArray, List.set_cons_zero, List.set_cons_succ]
                        refine heldTake (i := 17) (v := ?_) rfl (by kernel_rfl) (by kernel_rfl) (by kernel_rfl) (fun _ _ _ h => h) (Or.inl ⟨by rfl, ?_⟩) hHeld ?_
                        rotate_left
                        · (intro wq hSw; obtain ⟨-, -, e0, e12, e19, e20⟩ := hSw; go_simp; try with_reducible rfl)
                        try simp only [Act.put, List.setIfInBounds_toArray, List.set_cons_zero, List.set_cons_succ]
                        refine heldTake (i := 18) (v := ?_) rfl (by kernel_rfl) (by kernel_rfl) (by kernel_rfl) (fun _ _ _ h => h) (Or.inl ⟨by rfl, ?_⟩) hHeld ?_
                        rotate_left
                        · (intro wq hSw; obtain ⟨-, -, e0, e12, e19, e20⟩ := hSw; go_simp; try with_reducible rfl)
                        try simp only [Act.put, List.setIfInBounds_toArray, List.set_cons_zero, List.set_cons_succ]
                        refine heldTake (i := 19) (v := ?_) rfl (by kernel_rfl) (by kernel_rfl) (by kernel_rfl) (fun _ _ _ h => h) (Or.inl ⟨by rfl, ?_⟩) hHeld ?_
                        rotate_left
                        · (intro wq hSw; obtain ⟨-, -, e0, e12, e19, e20⟩ := hSw; go_simp; try with_reducible rfl)
                        try simp only [Act.put, List.setIfInBounds_toArray, List.set_cons_zero, List.set_cons_succ]
                        refine heldTake (i := 20) (v := ?_) rfl (by kernel_rfl) (by kernel_rfl) (by kernel_rfl) (fun _ _ _ h => h) (Or.inl ⟨by rfl, ?_⟩) hHeld ?_
                        rotate_left
                        · (intro wq hSw; obtain ⟨-, -, e0, e12, e19, e20⟩ := hSw; go_simp; try with_reducible rfl)
                        try simp only [Act.put, List.setIfInBounds_toArray, List.set_cons_zero, List.set_cons_succ]
                        refine heldTake (i := 22) (v := ?_) rfl (by kernel_rfl) (by kernel_rfl) (by kernel_rfl) (fun _ _ _ h => h) (Or.inl ⟨by rfl, ?_⟩) hHeld ?_
                        rotate_left
                        · (intro wq hSw; obtain ⟨-, -, e0, e12, e19, e20⟩ := hSw; go_simp; try with_reducible rfl)
                        try simp only [Act.put, List.setIfInBounds_toArray, List.set_cons_zero, List.set_cons_succ]
                        refine heldTake (i := 23) (v := ?_) rfl (by kernel_rfl) (by kernel_rfl) (by kernel_rfl) (fun _ _ _ h => h) (Or.inl ⟨by rfl, ?_⟩) hHeld ?_
                        rotate_left
                        · (intro wq hSw; obtain ⟨-, -, e0, e12, e19, e20⟩ := hSw; go_simp; try with_reducible rfl)
                        try simp only [Act.put, List.setIfInBounds_toArray, List.set_cons_zero, List.set_cons_succ]
                        refine wpAnyH_ready (rs := [21]) (by kernel_rfl) (by simp) (heldCons rfl (fun K hK => ?_) AllReadyH.nil)
                        go_simp
                        refine (HCU.out _).mono ?_
                        rintro e V2 ⟨rfl, b2⟩
                        go_wp2_with fail
                        refine hK.out _ _ (next13 hHeld b2) (fun hHeld2 => ?_)
                        clear hK K hHeld
                        have hHeld := hHeld2
                        clear hHeld2
                        try simp only [Act.put, List.setIfInBounds_toArray, List.set_cons_zero, List.set_cons_succ]
                        refine heldTake (i := 24) (v := ?_) rfl (by kernel_rfl) (by kernel_rfl) (by kernel_rfl) (fun _ _ _ h => h) (Or.inl ⟨by rfl, ?_⟩) hHeld ?_
                        rotate_left
                        · (intro wq hSw; obtain ⟨-, -, e0, e12, e19, e20⟩ := hSw; go_simp; try with_reducible rfl)
                        try simp only [Act.put, List.setIfInBounds_toArray, List.set_cons_zero, List.set_cons_succ]
                        refine heldTake (i := 25) (v := ?_) rfl (by kernel_rfl) (by kernel_rfl) (by kernel_rfl) (fun _ _ _ h => h) (Or.inl ⟨by rfl, ?_⟩) hHeld ?_
                        rotate_left
                        · (intro wq hSw; obtain ⟨-, -, e0, e12, e19, e20⟩ := hSw; go_simp; try with_reducible rfl)
                        try simp only [Act.put, List.setIfInBounds_toArray, List.set_cons_zero, List.set_cons_succ]
                        refine heldTake (i := 26) (v := ?_) rfl (by kernel_rfl) (by kernel_rfl) (by kernel_rfl) (fun _ _ _ h => h) (Or.inl ⟨by rfl, ?_⟩) hHeld ?_
                        rotate_left
                        · (intro wq hSw; obtain ⟨-, -, e0, e12, e19, e20⟩ := hSw; go_simp; try with_reducible rfl)
                        try simp only [Act.put, List.setIfInBounds_toArray, List.set_cons_zero, List.set_cons_succ]
                        refine heldTake (i := 27) (v := ?_) rfl (by kernel_rfl) (by kernel_rfl) (by kernel_rfl) (fun _ _ _ h => h) (Or.inl ⟨by rfl, ?_⟩) hHeld ?_
                        rotate_left
                        · (intro wq hSw; obtain ⟨-, -, e0, e12, e19, e20⟩ := hSw; go_simp; try with_reducible rfl)
                        try simp only [Act.put, List.setIfInBounds_toArray, List.set_cons_zero, List.set_cons_succ]
                        refine heldTake (i := 28) (v := ?_) rfl (by kernel_rfl) (by kernel_rfl) (by kernel_rfl) (fun _ _ _ h => h) (Or.inl ⟨by rfl, ?_⟩) hHeld ?_
                        rotate_left
                        · (intro wq hSw; obtain ⟨-, -, e0, e12, e19, e20⟩ := hSw; go_simp; try with_reducible rfl)
                        try simp only [Act.put, List.setIfInBounds_toArray, List.set_cons_zero, List.set_cons_succ]
                        refine wpAnyH_ready (rs := [29]) (by kernel_rfl) (by simp) (heldCons rfl (fun K hK => ?_) AllReadyH.nil)
                        go_simp
                        refine hK.out _ _ (next13 hHeld (below_runesW _ _)) (fun hHeld2 => ?_)
                        clear hK K hHeld
                        have hHeld := hHeld2
                        clear hHeld2
                        try simp only [Act.put, List.setIfInBounds_toArray, List.set_cons_zero, List.set_cons_succ]
                        refine heldTake (i := 30) (v := ?_) rfl (by kernel_rfl) (by kernel_rfl) (by kernel_rfl) (fun _ _ _ h => h) (Or.inl ⟨by rfl, ?_⟩) hHeld ?_
                        rotate_left
                        · (intro wq hSw; obtain ⟨-, -, e0, e12, e19, e20⟩ := hSw; go_simp; try with_reducible rfl)
                        try simp only [Act.put, List.setIfInBounds_toArray, List.set_cons_zero, List.set_cons_succ]
                        refine heldTake (i := 31) (v := ?_) rfl (by kernel_rfl) (by kernel_rfl) (by kernel_rfl) (fun _ _ _ h => h) (Or.inl ⟨by rfl, ?_⟩) hHeld ?_
                        rotate_left
                        · (intro wq hSw; obtain ⟨-, -, e0, e12, e19, e20⟩ := hSw; go_simp; try with_reducible rfl)
                        try simp only [Act.put, List.setIfInBounds_toArray, List.set_cons_zero, List.set_cons_succ]
                        refine heldTake (i := 32) (v := ?_) rfl (by kernel_rfl) (by kernel_rfl) (by kernel_rfl) (fun _ _ _ h => h) (Or.inl ⟨by rfl, ?_⟩) hHeld ?_
                        rotate_left
                        · (intro wq hSw; obtain ⟨-, -, e0, e12, e19, e20⟩ := hSw; go_simp; try with_reducible rfl)
                        try simp only [Act.put, List.setIfInBounds_toArray, List.set_cons_zero, List.set_cons_succ]
                        refine wpAnyH_done (by kernel_rfl) ?_ _
                        all_goals clear hst
                        all_goals go_wp2_with fail
                        all_goals go_meet
                        all_goals refine fin13 (by assumption) ?_
                        all_goals (rw [HRB.out]; refine congrArg Value.bool ?_; rw [Bool.eq_iff_iff]; simp; try omega)
                    · have l0b : (s.last != 0) = true := by rw [bne_iff_ne]; exact l0
                      by_cases l1 : wd s.last = 0
                      · have l1b : (wd s.last == 0) = true := by rw [beq_iff_eq]; exact l1
                        have HRB : Hid (rb = false) := by unfold Hid; rw [HRB1.out, decide_eq_true l1, decide_eq_false l0]; rfl
                        clear l0 l1 HRB1
                        refine wp_region_quiet_below (by kernel_rfl) (by kernel_rfl) ?_
                        repeat (first | go_big_quiet_skip | quiet_step (first | (go_at_call 69; exact HWG.out _ _)))
                        refine wpQuiet_nil ?_
                        intro _ hw'
                        obtain ⟨⟨dq, os⟩, hw''⟩ := hw'
                        subst hw''
                        go_wp2_with fail
                        go_meet
                        exact ⟨by rw [HRB.out]; rfl, HBW.out.trans ((below_regrown wc dq os).mono HBW.out.size), Grd.carry HXW.out (below_regrown wc dq os)⟩
                      · have l1b : (wd s.last == 0) = false := by rw [beq_eq_false_iff_ne]; exact l1
                        have HRB0 : Hid (rb = ((s.title.toList == u.toList) && decide (Lib.runeCount s.title ≤ 20))) := by unfold Hid; rw [HRB1.out, decide_eq_false l1]; simp
                        clear l0 l1 HRB1
                        cases hq : (u.toList == s.title.toList) with
                        | false =>
                          have HRB : Hid (rb = false) := by
                            unfold Hid
                            rw [HRB0.out, show (s.title.toList == u.toList) = false by rw [beq_eq_false_iff_ne]; intro h; rw [h] at hq; simp at hq]
                            simp
                          refine wp_region_quiet_below (by kernel_rfl) (by kernel_rfl) ?_
                          repeat (first | go_big_quiet_skip | quiet_step (first | (go_at_call 69; exact HWG.out _ _) | (go_at_call 30; exact HCG.out _ _)))
                          refine wpQuiet_nil ?_
                          intro _ hw'
                          obtain ⟨⟨dq, os⟩, hw''⟩ := hw'
                          subst hw''
                          go_wp2_with fail
                          go_meet
                          exact ⟨by rw [HRB.out]; rfl, HBW.out.trans ((below_regrown wc dq os).mono HBW.out.size), Grd.carry HXW.out (below_regrown wc dq os)⟩
                        | true =>
                          have HEQ : Hid ((s.title.toList == u.toList) = true) := by
                            unfold Hid
                            have hq2 := eq_of_beq hq
                            rw [hq2]
                            simp
                          have hcv := runes_conv s.title HF.out.tl
                          clear z0 z12 z19 z20
                          have HRB : Hid (rb = decide (Lib.runeCount s.title ≤ 20)) := by unfold Hid; rw [HRB0.out, HEQ.out, Bool.true_and]
                          have hrc : Lib.runeCount s.title ≤ 9223372036854775807 := by have := Lib.runeCountFrom_le s.title s.title.size 0; have := HF.out.tl; unfold Lib.runeCount; omega
                          have hst := start13 HBW.out HXW.out
                          clear c0 c1 c2 c3 c4 c5 c6 c7 c8 c9 c10 c11 c12 c13 c14 c15 c16 c17 c18 c19 c20 c21 HCG HWG
                          refine wp_region_held_drew (S := (fun wx => Below w.heap.size w wx ∧ wx.heap[w.heap.size]? = some (.cells (scrA s (.slice ca s.cs.length cc) (.slice ta s.tabs.length tc) (.slice ga s.gone.length gc)) 32 (0, 0)) ∧ wx.cell? ⟨w.heap.size, 0, none⟩ = some (.int .i64 s.w) ∧ wx.cell? ⟨w.heap.size, 12, none⟩ = some (.slice ta s.tabs.length tc) ∧ wx.cell? ⟨w.heap.size, 19, none⟩ = some (.int .i32 s.last) ∧ wx.cell? ⟨w.heap.size, 20, none⟩ = some (.string s.title))) (by kernel_rfl) (next13 hst ((Below.refl _ _).drew)) (fun hHeld => ?_)
                          refine heldTake (i := 0) (v := ?_) rfl (by kernel_rfl) (by kernel_rfl) (by kernel_rfl) (fun _ _ _ h => h) (Or.inl ⟨by rfl, ?_⟩) hHeld ?_
                          rotate_left
                          · (intro wq hSw; obtain ⟨-, -, e0, e12, e19, e20⟩ := hSw; go_simp; try with_reducible rfl)
                          try simp only [Act.put, List.setIfInBounds_toArray, List.set_cons_zero, List.set_cons_succ]
                          refine heldTake (i := 1) (v := ?_) rfl (by kernel_rfl) (by kernel_rfl) (by kernel_rfl) (fun _ _ _ h => h) (Or.inl ⟨by rfl, ?_⟩) hHeld ?_
                          rotate_left
                          · (intro wq hSw; obtain ⟨-, -, e0, e12, e19, e20⟩ := hSw; go_simp; try with_reducible rfl)
                          try simp only [Act.put, List.setIfInBounds_toArray, List.set_cons_zero, List.set_cons_succ]
                          refine heldTake (i := 2) (v := ?_) rfl (by kernel_rfl) (by kernel_rfl) (by kernel_rfl) (fun _ _ _ h => h) (Or.inl ⟨by rfl, ?_⟩) hHeld ?_
                          rotate_left
                          · (intro wq hSw; obtain ⟨-, -, e0, e12, e19, e20⟩ := hSw; go_simp; try with_reducible rfl)
                          try simp only [Act.put, List.setIfInBounds_toArray, List.set_cons_zero, List.set_cons_succ]
                          refine heldTake (i := 3) (v := ?_) rfl (by kernel_rfl) (by kernel_rfl) (by kernel_rfl) (fun _ _ _ h => h) (Or.inl ⟨by rfl, ?_⟩) hHeld ?_
                          rotate_left
                          · (intro wq hSw; obtain ⟨-, -, e0, e12, e19, e20⟩ := hSw; go_simp; try with_reducible rfl)
                          try simp only [Act.put, List.setIfInBounds_toArray, List.set_cons_zero, List.set_cons_succ]
                          refine heldTake (i := 4) (v := ?_) rfl (by kernel_rfl) (by kernel_rfl) (by kernel_rfl) (fun _ _ _ h => h) (Or.inl ⟨by rfl, ?_⟩) hHeld ?_
                          rotate_left
                          · (intro wq hSw; obtain ⟨-, -, e0, e12, e19, e20⟩ := hSw; go_simp; try with_reducible rfl)
                          try simp only [Act.put, List.setIfInBounds_toArray, List.set_cons_zero, List.set_cons_succ]
                          refine heldTake (i := 5) (v := ?_) rfl (by kernel_rfl) (by kernel_rfl) (by kernel_rfl) (fun _ _ _ h => h) (Or.inl ⟨by rfl, ?_⟩) hHeld ?_
                          rotate_left
                          · (intro wq hSw; obtain ⟨-, -, e0, e12, e19, e20⟩ := hSw; go_simp; try with_reducible rfl)
                          try simp only [Act.put, List.setIfInBounds_toArray, List.set_cons_zero, List.set_cons_succ]
                          refine heldTake (i := 6) (v := ?_) rfl (by kernel_rfl) (by kernel_rfl) (by kernel_rfl) (fun _ _ _ h => h) (Or.inl ⟨by rfl, ?_⟩) hHeld ?_
                          rotate_left
                          · (intro wq hSw; obtain ⟨-, -, e0, e12, e19, e20⟩ := hSw; go_simp; try with_reducible rfl)
                          try simp only [Act.put, List.setIfInBounds_toArray, List.set_cons_zero, List.set_cons_succ]
                          refine heldTake (i := 7) (v := ?_) rfl (by kernel_rfl) (by kernel_rfl) (by kernel_rfl) (fun _ _ _ h => h) (Or.inl ⟨by rfl, ?_⟩) hHeld ?_
                          rotate_left
                          · (intro wq hSw; obtain ⟨-, -, e0, e12, e19, e20⟩ := hSw; go_simp; try with_reducible rfl)
                          try simp only [Act.put, List.setIfInBounds_toArray, List.set_cons_zero, List.set_cons_succ]
                          refine heldTake (i := 8) (v := ?_) rfl (by kernel_rfl) (by kernel_rfl) (by kernel_rfl) (fun _ _ _ h => h) (Or.inl ⟨by rfl, ?_⟩) hHeld ?_
                          rotate_left
                          · (intro wq hSw; obtain ⟨-, -, e0, e12, e19, e20⟩ := hSw; go_simp; try with_reducible rfl)
                          try simp only [Act.put, List.setIfInBounds_toArray, List.set_cons_zero, List.set_cons_succ]
                          refine heldTake (i := 9) (v := ?_) rfl (by kernel_rfl) (by kernel_rfl) (by kernel_rfl) (fun _ _ _ h => h) (Or.inl ⟨by rfl, ?_⟩) hHeld ?_
                          rotate_left
                          · (intro wq hSw; obtain ⟨-, -, e0, e12, e19, e20⟩ := hSw; go_simp; try with_reducible rfl)
                          try simp only [Act.put, List.setIfInBounds_toArray, List.set_cons_zero, List.set_cons_succ]
                          refine heldTake (i := 10) (v := ?_) rfl (by kernel_rfl) (by kernel_rfl) (by kernel_rfl) (fun _ _ _ h => h) (Or.inl ⟨by rfl, ?_⟩) hHeld ?_
                          rotate_left
                          · (intro wq hSw; obtain ⟨-, -, e0, e12, e19, e20⟩ := hSw; go_simp; try with_reducible rfl)
                          try simp only [Act.put, List.setIfInBounds_toArray, List.set_cons_zero, List.set_cons_succ]
                          refine heldTake (i := 11) (v := ?_) rfl (by kernel_rfl) (by kernel_rfl) (by kernel_rfl) (fun _ _ _ h => h) (Or.inl ⟨by rfl, ?_⟩) hHeld ?_
                          rotate_left
                          · (intro wq hSw; obtain ⟨-, -, e0, e12, e19, e20⟩ := hSw; go_simp; try with_reducible rfl)
                          try simp only [Act.put, List.setIfInBounds_toArray, List.set_cons_zero, List.set_cons_succ]
                          refine heldTake (i := 12) (v := ?_) rfl (by kernel_rfl) (by kernel_rfl) (by kernel_rfl) (fun _ _ _ h => h) (Or.inl ⟨by rfl, ?_⟩) hHeld ?_
                          rotate_left
                          · (intro wq hSw; obtain ⟨-, -, e0, e12, e19, e20⟩ := hSw; go_simp; try with_reducible rfl)
                          try simp only [Act.put, List.setIfInBounds_toArray, List.set_cons_zero, List.set_cons_succ]
                          refine heldTake (i := 13) (v := ?_) rfl (by kernel_rfl) (by kernel_rfl) (by kernel_rfl) (fun _ _ _ h => h) (Or.inl ⟨by rfl, ?_⟩) hHeld ?_
                          rotate_left
                          · (intro wq hSw; obtain ⟨-, -, e0, e12, e19, e20⟩ := hSw; go_simp; try with_reducible rfl)
                          try simp only [Act.put, List.setIfInBounds_toArray, List.set_cons_zero, List.set_cons_succ]
                          refine wpAnyH_ready (rs := [14]) (by kernel_rfl) (by simp) (heldCons rfl (fun K hK => ?_) AllReadyH.nil)
                          go_simp
                          refine (Grd.widthOf_to s.last _ _ rfl).mono ?_
                          rintro e V1 ⟨rfl, b1⟩
                          go_wp2_with fail
                          refine hK.out _ _ (next13 hHeld b1) (fun hHeld2 => ?_)
                          clear hK K hHeld
                          have hHeld := hHeld2
                          clear hHeld2
                          try simp only [Act.put, List.setIfInBounds_toArray, List.set_cons_zero, List.set_cons_succ]
                          refine heldTake (i := 15) (v := ?_) rfl (by kernel_rfl) (by kernel_rfl) (by kernel_rfl) (fun _ _ _ h => h) (Or.inl ⟨by rfl, ?_⟩) hHeld ?_
                          rotate_left
                          · (intro wq hSw; obtain ⟨-, -, e0, e12, e19, e20⟩ := hSw; go_simp; try with_reducible rfl)
                          try simp only [Act.put, List.setIfInBounds_toArray, List.set_cons_zero, List.set_cons_succ]
                          refine heldTake (i := 16) (v := ?_) rfl (by kernel_rfl) (by kernel_rfl) (by kernel_rfl) (fun _ _ _ h => h) (Or.inl ⟨by rfl, ?_⟩) hHeld ?_
                          rotate_left
                          · (intro wq hSw; obtain ⟨-, -, e0, e12, e19, e20⟩ := hSw; go_simp; try with_reducible rfl)
                          try simp only [Act.put, List.setIfInBounds_toArray, List.set_cons_zero, List.set_cons_succ]
                          refine heldTake (i := 17) (v := ?_) rfl (by kernel_rfl) (by kernel_rfl) (by kernel_rfl) (fun _ _ _ h => h) (Or.inl ⟨by rfl, ?_⟩) hHeld ?_
                          rotate_left
                          · (intro wq hSw; obtain ⟨-, -, e0, e12, e19, e20⟩ := hSw; go_simp; try with_reducible rfl)
                          try simp only [Act.put, List.setIfInBounds_toArray, List.set_cons_zero, List.set_cons_succ]
                          refine heldTake (i := 18) (v := ?_) rfl (by kernel_rfl) (by kernel_rfl) (by kernel_rfl) (fun _ _ _ h => h) (Or.inl ⟨by rfl, ?_⟩) hHeld ?_
                          rotate_left
                          · (intro wq hSw; obtain ⟨-, -, e0, e12, e19, e20⟩ := hSw; go_simp; try with_reducible rfl)
                          try simp only [Act.put, List.setIfInBounds_toArray, List.set_cons_zero, List.set_cons_succ]
                          refine heldTake (i := 19) (v := ?_) rfl (by kernel_rfl) (by kernel_rfl) (by kernel_rfl) (fun _ _ _ h => h) (Or.inl ⟨by rfl, ?_⟩) hHeld ?_
                          rotate_left
                          · (intro wq hSw; obtain ⟨-, -, e0, e12, e19, e20⟩ := hSw; go_simp; try with_reducible rfl)
                          try simp only [Act.put, List.setIfInBounds_toArray, List.set_cons_zero, List.set_cons_succ]
                          refine heldTake (i := 20) (v := ?_) rfl (by kernel_rfl) (by kernel_rfl) (by kernel_rfl) (fun _ _ _ h => h) (Or.inl ⟨by rfl, ?_⟩) hHeld ?_
                          rotate_left
                          · (intro wq hSw; obtain ⟨-, -, e0, e12, e19, e20⟩ := hSw; go_simp; try with_reducible rfl)
                          try simp only [Act.put, List.setIfInBounds_toArray, List.set_cons_zero, List.set_cons_succ]
                          refine heldTake (i := 22) (v := ?_) rfl (by kernel_rfl) (by kernel_rfl) (by kernel_rfl) (fun _ _ _ h => h) (Or.inl ⟨by rfl, ?_⟩) hHeld ?_
                          rotate_left
                          · (intro wq hSw; obtain ⟨-, -, e0, e12, e19, e20⟩ := hSw; go_simp; try with_reducible rfl)
                          try simp only [Act.put, List.setIfInBounds_toArray, List.set_cons_zero, List.set_cons_succ]
                          refine heldTake (i := 23) (v := ?_) rfl (by kernel_rfl) (by kernel_rfl) (by kernel_rfl) (fun _ _ _ h => h) (Or.inl ⟨by rfl, ?_⟩) hHeld ?_
                          rotate_left
                          · (intro wq hSw; obtain ⟨-, -, e0, e12, e19, e20⟩ := hSw; go_simp; try with_reducible rfl)
                          try simp only [Act.put, List.setIfInBounds_toArray, List.set_cons_zero, List.set_cons_succ]
                          refine wpAnyH_ready (rs := [21]) (by kernel_rfl) (by simp) (heldCons rfl (fun K hK => ?_) AllReadyH.nil)
                          go_simp
                          refine (HCU.out _).mono ?_
                          rintro e V2 ⟨rfl, b2⟩
                          go_wp2_with fail
                          refine hK.out _ _ (next13 hHeld b2) (fun hHeld2 => ?_)
                          clear hK K hHeld
                          have hHeld := hHeld2
                          clear hHeld2
                          try simp only [Act.put, List.setIfInBounds_toArray, List.set_cons_zero, List.set_cons_succ]
                          refine heldTake (i := 24) (v := ?_) rfl (by kernel_rfl) (by kernel_rfl) (by kernel_rfl) (fun _ _ _ h => h) (Or.inl ⟨by rfl, ?_⟩) hHeld ?_
                          rotate_left
                          · (intro wq hSw; obtain ⟨-, -, e0, e12, e19, e20⟩ := hSw; go_simp; try with_reducible rfl)
                          try simp only [Act.put, List.setIfInBounds_toArray, List.set_cons_zero, List.set_cons_succ]
                          refine heldTake (i := 25) (v := ?_) rfl (by kernel_rfl) (by kernel_rfl) (by kernel_rfl) (fun _ _ _ h => h) (Or.inl ⟨by rfl, ?_⟩) hHeld ?_
                          rotate_left
                          · (intro wq hSw; obtain ⟨-, -, e0, e12, e19, e20⟩ := hSw; go_simp; try with_reducible rfl)
                          try simp only [Act.put, List.setIfInBounds_toArray, List.set_cons_zero, List.set_cons_succ]
                          refine heldTake (i := 26) (v := ?_) rfl (by kernel_rfl) (by kernel_rfl) (by kernel_rfl) (fun _ _ _ h => h) (Or.inl ⟨by rfl, ?_⟩) hHeld ?_
                          rotate_left
                          · (intro wq hSw; obtain ⟨-, -, e0, e12, e19, e20⟩ := hSw; go_simp; try with_reducible rfl)
                          try simp only [Act.put, List.setIfInBounds_toArray, List.set_cons_zero, List.set_cons_succ]
                          refine heldTake (i := 27) (v := ?_) rfl (by kernel_rfl) (by kernel_rfl) (by kernel_rfl) (fun _ _ _ h => h) (Or.inl ⟨by rfl, ?_⟩) hHeld ?_
                          rotate_left
                          · (intro wq hSw; obtain ⟨-, -, e0, e12, e19, e20⟩ := hSw; go_simp; try with_reducible rfl)
                          try simp only [Act.put, List.setIfInBounds_toArray, List.set_cons_zero, List.set_cons_succ]
                          refine heldTake (i := 28) (v := ?_) rfl (by kernel_rfl) (by kernel_rfl) (by kernel_rfl) (fun _ _ _ h => h) (Or.inl ⟨by rfl, ?_⟩) hHeld ?_
                          rotate_left
                          · (intro wq hSw; obtain ⟨-, -, e0, e12, e19, e20⟩ := hSw; go_simp; try with_reducible rfl)
                          try simp only [Act.put, List.setIfInBounds_toArray, List.set_cons_zero, List.set_cons_succ]
                          refine wpAnyH_ready (rs := [29]) (by kernel_rfl) (by simp) (heldCons rfl (fun K hK => ?_) AllReadyH.nil)
                          go_simp
                          refine hK.out _ _ (next13 hHeld (below_runesW _ _)) (fun hHeld2 => ?_)
                          clear hK K hHeld
                          have hHeld := hHeld2
                          clear hHeld2
                          try simp only [Act.put, List.setIfInBounds_toArray, List.set_cons_zero, List.set_cons_succ]
                          refine heldTake (i := 30) (v := ?_) rfl (by kernel_rfl) (by kernel_rfl) (by kernel_rfl) (fun _ _ _ h => h) (Or.inl ⟨by rfl, ?_⟩) hHeld ?_
                          rotate_left
                          · (intro wq hSw; obtain ⟨-, -, e0, e12, e19, e20⟩ := hSw; go_simp; try with_reducible rfl)
                          try simp only [Act.put, List.setIfInBounds_toArray, List.set_cons_zero, List.set_cons_succ]
                          refine heldTake (i := 31) (v := ?_) rfl (by kernel_rfl) (by kernel_rfl) (by kernel_rfl) (fun _ _ _ h => h) (Or.inl ⟨by rfl, ?_⟩) hHeld ?_
                          rotate_left
                          · (intro wq hSw; obtain ⟨-, -, e0, e12, e19, e20⟩ := hSw; go_simp; try with_reducible rfl)
                          try simp only [Act.put, List.setIfInBounds_toArray, List.set_cons_zero, List.set_cons_succ]
                          refine heldTake (i := 32) (v := ?_) rfl (by kernel_rfl) (by kernel_rfl) (by kernel_rfl) (fun _ _ _ h => h) (Or.inl ⟨by rfl, ?_⟩) hHeld ?_
                          rotate_left
                          · (intro wq hSw; obtain ⟨-, -, e0, e12, e19, e20⟩ := hSw; go_simp; try with_reducible rfl)
                          try simp only [Act.put, List.setIfInBounds_toArray, List.set_cons_zero, List.set_cons_succ]
                          refine wpAnyH_done (by kernel_rfl) ?_ _
                          all_goals clear hst
                          all_goals go_wp2_with fail
                          all_goals go_meet
                          all_goals refine fin13 (by assumption) ?_
                          all_goals (rw [HRB.out]; refine congrArg Value.bool ?_; rw [Bool.eq_iff_iff]; simp; try omega)
                  case rest =>
                    obtain ⟨rfl, hBw, hXw⟩ := hcut
                    cases h6 : restOk s with
                    | false =>
                      have HR : Hid (5 = res) := by
                        unfold Hid
                        rw [← HC.out]
                        simp [scrErr, HZ.out, HP.out, HLT.out, HLK.out, h6]
                      go_wp2_with fail
                      go_ret
                      exact ⟨ret_int HR.out, hBw⟩
                    | true =>
                      have HRS : Hid (restOk s = true) := h6
                      have HB9 : Hid (Below w.heap.size w wc) := hBw
                      have HX9 : Hid (wc.heap[w.heap.size]? = _) := hXw
                      clear h6 hBw hXw
                      obtain ⟨⟨c0, c1, c2, c3, c4, c5, c6, c7, c8, c9, c10⟩, ⟨c11, c12, c13, c14, c15, c16, c17, c18, c19, c20, c21⟩, -⟩ := scr_cells HX9.out
                      by_cases g50 : 50 < s.gone.length
                      · have g51 : (50 : Int) < (s.gone.length : Int) := by omega
                        have HR : Hid (2 = res) := by
                          unfold Hid
                          rw [← HC.out]
                          simp [scrErr, HZ.out, HP.out, HLT.out, HLK.out, HRS.out, goneErr, g50]
                        go_wp2_with fail
                        go_ret
                        exact ⟨ret_int HR.out, HB9.out⟩
                      · have g51 : ¬ (50 : Int) < (s.gone.length : Int) := by omega
                        have HE : Hid (res = if goneBad s.gone then 5 else 0) := by
                          unfold Hid
                          rw [← HC.out]
                          simp [scrErr, HZ.out, HP.out, HLT.out, HLK.out, HRS.out, goneErr, g50]
                        go_wp2_with fail
                        clear c0 c1 c2 c3 c4 c5 c6 c7 c8 c9 c10 c11 c12 c13 c14 c15 c16 c17 c18 c19 c20 c21
                        go_loopg [161] s.gone.length (fun q i wr => ∃ k : Nat, k ≤ s.gone.length ∧ s.gone.length - k ≤ q ∧ i = .int .i64 k ∧ Below w.heap.size w wr ∧ goneBad (s.gone.drop k) = goneBad s.gone)
                        case atStart => exact ⟨0, by omega, by omega, rfl, HB9.out, rfl⟩
                        case round =>
                          obtain ⟨k, hk, hq, rfl, hb, hg⟩ := hrel
                          have HB : Hid (Below w.heap.size w wr) := hb
                          have HGB : Hid (goneBad (s.gone.drop k) = goneBad s.gone) := hg
                          clear hb hg
                          by_cases hlt : k < s.gone.length
                          · have lt1 : ((k : Int) < (s.gone.length : Int)) := by omega
                            rcases HV.out.g with ⟨he, -⟩ | ⟨b, o, c, hvv, -, -, hc⟩
                            · rw [he] at hlt
                              exact absurd hlt (by simp)
                            injection hvv with hvv1 hvv2 hvv3
                            subst hvv1 hvv3
                            obtain ⟨rv, hc1, hS⟩ := hc k hlt
                            have q0 := cell_stay HB.out hc1
                            have HCR := checkRow_any (s.gone.getD k []) rv wr (hS.below HB.out)
                            have HD : Hid (goneBad s.gone = (!decide (gridErr (s.gone.getD k []).length 1 (s.gone.getD k []) = 0) || goneBad (s.gone.drop (k + 1)))) := by
                              unfold Hid
                              rw [← HGB.out]
                              exact any_drop _ s.gone k hlt []
                            generalize s.gone.getD k [] = row at *
                            obtain ⟨ra, rc, hrv⟩ := hS.shape
                            subst hrv
                            clear hc hc1 hS
                            cases hz : decide (gridErr row.length 1 row = 0) with
                            | true =>
                              rw [hz] at HCR HD
                              go_wp2_with fail
                              refine HCR.mono ?_
                              rintro e V1 ⟨rfl, b1⟩
                              clear HCR
                              go_wp2_with fail
                              go_roundg (s.gone.length - (k + 1))
                              case measure => omega
                              case rel => exact ⟨k + 1, by omega, by omega, by go_num, HB.out.trans (b1.mono HB.out.size), by rw [HD.out]; rfl⟩
                            | false =>
                              rw [hz] at HCR HD
                              go_wp2_with fail
                              refine HCR.mono ?_
                              rintro e V1 ⟨rfl, b1⟩
                              clear HCR
                              go_wp2_with fail
                              go_ret
                              exact ⟨ret_int (by rw [HE.out, HD.out]; rfl), HB.out.trans (b1.mono HB.out.size)⟩
                          · have lt1 : ¬ ((k : Int) < (s.gone.length : Int)) := by omega
                            have HD2 : Hid (goneBad s.gone = false) := by
                              unfold Hid
                              rw [← HGB.out, List.drop_eq_nil_of_le (by omega)]
                              rfl
                            go_wp2_with fail
                            go_ret
                            exact ⟨ret_int (by rw [HE.out, HD2.out]; rfl), HB.out⟩
end Put
end Go.Proofs.YtnkeahfcpbepjaaGreatDoor

/- put.New. -/
namespace Go.Proofs.YtnkeahfcpbepjaaGreatDoor
open Go.ChangeShapes Go.WideShapes Go.ChangeAt Go.RowKit
namespace Put
open Grd (C SliceAt CellsAt gridErr z0 nilV flat rowsL OwnG isSize)
/-- The tabs of a new screen. -/
def newTabs (n : Nat) : List Bool := (List.range n).map fun x => decide (0 < x ∧ x % 8 = 0)
/-- A new screen. -/
def newScr (n hh : Nat) : Scr := ⟨n, hh, List.replicate (n * hh) (32, 0, 0, 0), 0, 0, false, 0, 0, 0, 0, (hh : Int) - 1, 4, newTabs n, 0, 0, 0, 0, 0, 4, 0, ⟨#[]⟩, []⟩
def preScr (a b y : Int) : Scr := ⟨a, b, [], 0, 0, false, 0, 0, 0, 0, y, 4, [], 0, 0, 0, 0, 0, 4, 0, ⟨#[]⟩, []⟩
def IsGridV (v : Value) : Prop := ∃ a b q l c, v = .agg #[.int .i64 a, .int .i64 b, .slice q l c]
theorem isGridV (a b : Int) (q : Option Addr) (l c : Nat) : IsGridV (.agg #[.int .i64 a, .int .i64 b, .slice q l c]) := ⟨a, b, q, l, c, rfl⟩
def IsIntV (v : Value) : Prop := ∃ a, v = .int .i64 a
theorem isIntV (a : Int) : IsIntV (.int .i64 a) := ⟨a, rfl⟩
def IsKeptV (v : Value) : Prop := v = .agg #[.int .i64 0, .int .i64 0, .int .i64 0, .int .i64 0, .int .i64 0, .int .i64 4]
theorem isKeptV : IsKeptV (.agg #[.int .i64 0, .int .i64 0, .int .i64 0, .int .i64 0, .int .i64 0, .int .i64 4]) := rfl
def newArr (x y u : Value) : Array Value := #[(aggOf x).getD 0 undef, (aggOf x).getD 1 undef, (aggOf x).getD 2 undef, .int .i64 0, .int .i64 0, .bool false, .int .i64 0, .int .i64 0, .int .i64 0, .int .i64 0, y, .int .i64 4, u, .int .i64 0, .int .i64 0, .int .i64 0, .int .i64 0, .int .i64 0, .int .i64 4, .int .i32 0, .string ⟨#[]⟩, .slice none 0 0]
theorem newArr_scr (a b y : Int) (cv tv : Value) : newArr (.agg #[.int .i64 a, .int .i64 b, cv]) (.int .i64 y) tv = scrA (preScr a b y) cv tv (.slice none 0 0) := rfl
theorem build_new_run (W : World) (a b y : Int) (q : Option Addr) (l c : Nat) (q' : Option Addr) (l' c' : Nat) : (Instr.build 32 #[(0, .agg #[.int .i64 a, .int .i64 b, .slice q l c]), (6, .int .i64 y), (7, .int .i64 4), (9, .agg #[.int .i64 0, .int .i64 0, .int .i64 0, .int .i64 0, .int .i64 0, .int .i64 4]), (8, .slice q' l' c')]).run Tryz.prog W = .ok (.agg (scrA (preScr a b y) (.slice q l c) (.slice q' l' c') (.slice none 0 0))) W := by kernel_rfl
theorem build_new (a : Act) (dst : Option Tmp) (x y z u : Operand) (ty : TypeId) (pos : String) (after : Array Edge) (guard : Option (Nat × Bool)) (W : World) (hx : IsGridV (a.eval x)) (hy : IsIntV (a.eval y)) (hz : IsKeptV (a.eval z)) (hu : IsSliceV (a.eval u)) :
    (execOp a.eval { dst, op := .build 32 #[(0, x), (6, y), (7, Operand.const (.int .i64 4)), (9, z), (8, u)], type := ty, pos, after, guard }).run Tryz.prog W = .ok (.value (.agg (newArr (a.eval x) (a.eval y) (a.eval u)))) W := by
  obtain ⟨a1, b1, q, l, c, hx⟩ := hx
  obtain ⟨y1, hy⟩ := hy
  unfold IsKeptV at hz
  obtain ⟨q', l', c', hu⟩ := hu
  have e4 : a.eval (Operand.const (.int .i64 4)) = .int .i64 4 := rfl
  unfold execOp
  simp only [List.map_toArray, List.map_cons, List.map_nil, hx, hy, hz, hu, e4, newArr_scr, Sem.run_bind, build_new_run, Sem.run_pure, Result.andThen_ok]
/-- The tabs that are set up to x. -/
def tabsL (n x : Nat) : List Bool := (List.range n).map fun j => decide (0 < j ∧ j % 8 = 0 ∧ j < x)
def tabsA (n x : Nat) : Array Value := ((tabsL n x).map Value.bool).toArray
theorem tabsL_all (n x : Nat) (h : n ≤ x) : tabsL n x = newTabs n := by
  unfold tabsL newTabs
  apply List.map_congr_left
  intro j hj
  rw [List.mem_range] at hj
  rw [decide_eq_decide]
  omega
theorem tabsA_cell {W : World} {T n x : Nat} (h : W.heap[T]? = some (.cells (tabsA n x) 4 (0, 0))) (hx : x < n) : W.cell? ⟨T, x, none⟩ = some (.bool false) := by
  simp [World.cell?, h, tabsA, tabsL, hx]
theorem tabsA_set (n x : Nat) (h8 : x % 8 = 0) (h0 : 0 < x) : (tabsA n x).setIfInBounds x (.bool true) = tabsA n (x + 8) := by
  unfold tabsA tabsL
  apply Array.ext
  · simp
  · intro i h1 h2
    simp only [Array.size_setIfInBounds, List.size_toArray, List.length_map, List.length_range] at h1
    rw [Array.getElem_setIfInBounds (by simpa using h1)]
    by_cases e : x = i
    · subst e
      simp [h8]
      omega
    · have h3 : decide (0 < i ∧ i % 8 = 0 ∧ i < x) = decide (0 < i ∧ i % 8 = 0 ∧ i < x + 8) := by rw [decide_eq_decide]; omega
      simp only [if_neg e, List.getElem_toArray, List.getElem_map, List.getElem_range, h3]
/-- Tabs, none set. -/
def falses (n : Nat) : Array Value := (List.replicate n (Value.bool false)).toArray
theorem tabsA_start (n : Nat) : tabsA n 8 = falses n := by
  unfold tabsA tabsL falses
  apply Array.ext
  · simp
  · intro i h1 h2
    simp
    omega
theorem made_falses (n : Nat) : madeCells (Value.bool false).cells (n * 1) = falses n := by
  unfold madeCells falses
  apply Array.ext
  · simp
  · intro i h1 h2
    have e : i % 1 = 0 := by omega
    simp [Value.cells, e]
theorem makeTabs (n : Nat) (hn : n ≤ 120) (W : World) : (Instr.makeSlice 27 (.int .i64 (n : Int)) (.int .i64 (n : Int))).run Tryz.prog W = .ok (.slice (some ⟨W.heap.size, 0, none⟩) n n) (W.alloc (.cells (falses n) 4)) := by
  obtain ⟨i0, hi, hzz⟩ := Option.map_eq_some_iff.1 info_bool
  simp only [Prod.mk.injEq] at hzz
  obtain ⟨hz0, hz1, hz2⟩ := hzz
  have h := run_makeSlice (P := Tryz.prog) (w := W) 27 4 i0 (.bool false) und_bools hi hz0 .i64 .i64 (n : Int) (n : Int) (by omega) (by omega) (by rw [hz1]; simp; omega) (by rw [hz2]; simp; omega) (by omega)
  rw [h, hz1, Int.toNat_natCast, made_falses]
section
attribute [local go_sem ↓] build_new store_scr
attribute [local go_sem] isGridV isIntV isKeptV isSliceV isScrS newArr_scr ptrBlk_at aggOf_agg
set_option maxHeartbeats 4000000 in
set_option maxRecDepth 100000 in
theorem new_good' (n hh : Nat) (w : World) (hs : isSize n hh = true) : Calls Tryz.prog 71 #[.int .i64 (n : Int), .int .i64 (hh : Int)] w (Made w w (newScr n hh) 0) := by
  have hsz : 1 ≤ (n : Int) ∧ (n : Int) ≤ 120 ∧ 1 ≤ (hh : Int) ∧ (hh : Int) ≤ 60 := by simpa [Grd.isSize] using hs
  obtain ⟨w1, w2, w3, w4⟩ := hsz
  have HN : Hid (∀ W, Calls Tryz.prog 128 #[.int .i64 (n : Int), .int .i64 (hh : Int)] W fun e w' => ∃ v, e = .returned (.tuple #[.agg #[.int .i64 (n : Int), .int .i64 (hh : Int), v], .int .i64 0]) ∧ OwnG w' W.heap.size v (List.replicate (n * hh) (32, 0, 0, 0)) ∧ Below W.heap.size W w') := fun W => by
    have h := Grd.new_good (n : Int) (hh : Int) W hs
    have e : ((n : Int) * (hh : Int)).toNat = n * hh := by rw [← Int.natCast_mul, Int.toNat_natCast]
    rw [e] at h
    exact h
  have hx0 := heap_alloc_new w (.cells #[.int .i64 0, .int .i64 0, .slice none 0 0, .int .i64 0, .int .i64 0, .bool false, .int .i64 0, .int .i64 0, .int .i64 0, .int .i64 0, .int .i64 0, .int .i64 0, .slice none 0 0, .int .i64 0, .int .i64 0, .int .i64 0, .int .i64 0, .int .i64 0, .int .i64 0, .int .i32 0, .string ⟨#[]⟩, .slice none 0 0] 32)
  have kb : Below w.heap.size w (w.alloc (.cells #[.int .i64 0, .int .i64 0, .slice none 0 0, .int .i64 0, .int .i64 0, .bool false, .int .i64 0, .int .i64 0, .int .i64 0, .int .i64 0, .int .i64 0, .int .i64 0, .slice none 0 0, .int .i64 0, .int .i64 0, .int .i64 0, .int .i64 0, .int .i64 0, .int .i64 0, .int .i32 0, .string ⟨#[]⟩, .slice none 0 0] 32)) := (Below.refl _ _).alloc (Nat.le_refl _) _
  have HX0 : Hid _ := hx0
  have HKB : Hid _ := kb
  clear hs hx0 kb
  go_enter Tryz.func71, Tryz.ntmps71
  go_wp2_with fail
  refine (HN.out _).mono ?_
  rintro e W1 ⟨v, rfl, ho, b1⟩
  have HO : Hid (OwnG W1 _ v (List.replicate (n * hh) (32, 0, 0, 0))) := ho
  obtain ⟨g, cap, rest, t, hv, -, -, -, -⟩ := ho
  rw [List.length_replicate] at hv
  subst hv
  go_upto_region 4 with fail
  have hL : n * hh ≤ 7200 := by have := Nat.mul_le_mul (show n ≤ 120 by omega) (show hh ≤ 60 by omega); omega
  generalize hLL : n * hh = L at *
  have HLL : Hid (n * hh = L) := hLL
  clear hLL
  have HX1 : Hid (W1.heap[w.heap.size]? = _) := Grd.carry HX0.out b1
  have hb1 : Below w.heap.size w W1 := HKB.out.trans (b1.mono HKB.out.size)
  have xg := heap_alloc_new W1 (.cells #[.int .i64 (n : Int), .int .i64 (hh : Int), .slice (some ⟨g, 0, none⟩) L cap] 24)
  have bg : Below W1.heap.size W1 (W1.alloc (.cells #[.int .i64 (n : Int), .int .i64 (hh : Int), .slice (some ⟨g, 0, none⟩) L cap] 24)) := (Below.refl _ _).alloc (Nat.le_refl _) _
  obtain ⟨g0, g1, g2, -⟩ := Grd.cells3 xg
  have HX2 : Hid _ := Grd.carry HX1.out bg
  have HBG : Hid _ := bg
  clear HX0 HKB b1 bg
  generalize (W1.alloc (.cells #[.int .i64 (n : Int), .int .i64 (hh : Int), .slice (some ⟨g, 0, none⟩) L cap] 24)) = X at *
  have hwr : IntKind.i64.wrap ((hh : Int) - 1) = (hh : Int) - 1 := by rw [IntKind.wrap_i64]; omega
  have hms := makeTabs n (by omega)
  have p1 : ScrPtr0 ((X.alloc (.cells (falses n) 4)).alloc (.cells #[.int .i64 0, .int .i64 0, .slice none 0 0, .int .i64 0, .int .i64 0, .bool false, .int .i64 0, .int .i64 0, .int .i64 0, .int .i64 0, .int .i64 0, .int .i64 0, .slice none 0 0, .int .i64 0, .int .i64 0, .int .i64 0, .int .i64 0, .int .i64 0, .int .i64 0, .int .i32 0, .string ⟨#[]⟩, .slice none 0 0] 32)).drew (.pointer (some ⟨X.heap.size + 1, 0, none⟩)) := scrPtr0_of (show ((X.alloc (.cells (falses n) 4)).alloc (.cells #[.int .i64 0, .int .i64 0, .slice none 0 0, .int .i64 0, .int .i64 0, .bool false, .int .i64 0, .int .i64 0, .int .i64 0, .int .i64 0, .int .i64 0, .int .i64 0, .slice none 0 0, .int .i64 0, .int .i64 0, .int .i64 0, .int .i64 0, .int .i64 0, .int .i64 0, .int .i32 0, .string ⟨#[]⟩, .slice none 0 0] 32)).heap[X.heap.size + 1]? = _ from heap_alloc2_new X _ _) rfl
  have p2 : ScrPtr0 ((X.alloc (.cells #[.int .i64 0, .int .i64 0, .slice none 0 0, .int .i64 0, .int .i64 0, .bool false, .int .i64 0, .int .i64 0, .int .i64 0, .int .i64 0, .int .i64 0, .int .i64 0, .slice none 0 0, .int .i64 0, .int .i64 0, .int .i64 0, .int .i64 0, .int .i64 0, .int .i64 0, .int .i32 0, .string ⟨#[]⟩, .slice none 0 0] 32)).alloc (.cells (falses n) 4)).drew (.pointer (some ⟨X.heap.size, 0, none⟩)) := scrPtr0_of (show ((X.alloc (.cells #[.int .i64 0, .int .i64 0, .slice none 0 0, .int .i64 0, .int .i64 0, .bool false, .int .i64 0, .int .i64 0, .int .i64 0, .int .i64 0, .int .i64 0, .int .i64 0, .slice none 0 0, .int .i64 0, .int .i64 0, .int .i64 0, .int .i64 0, .int .i64 0, .int .i64 0, .int .i32 0, .string ⟨#[]⟩, .slice none 0 0] 32)).alloc (.cells (falses n) 4)).heap[X.heap.size]? = _ from (Below.heap_alloc _ _ _ (by simp)).trans (heap_alloc_new _ _)) rfl
  have SK : Hid (∀ w', Below X.heap.size X w' → w'.cell? ⟨W1.heap.size, 0, none⟩ = some (.int .i64 (n : Int)) ∧ w'.cell? ⟨W1.heap.size, 1, none⟩ = some (.int .i64 (hh : Int)) ∧ w'.cell? ⟨W1.heap.size, 2, none⟩ = some (.slice (some ⟨g, 0, none⟩) L cap)) := fun w' h => ⟨cell_stay h g0, cell_stay h g1, cell_stay h g2⟩
  have b0 : Below X.heap.size X X.drew := (Below.refl _ _).drew
  have bF : Below X.heap.size X (X.alloc (.cells (falses n) 4)).drew := ((Below.refl _ _).alloc (Nat.le_refl _) _).drew
  have bZ : Below X.heap.size X (X.alloc (.cells #[.int .i64 0, .int .i64 0, .slice none 0 0, .int .i64 0, .int .i64 0, .bool false, .int .i64 0, .int .i64 0, .int .i64 0, .int .i64 0, .int .i64 0, .int .i64 0, .slice none 0 0, .int .i64 0, .int .i64 0, .int .i64 0, .int .i64 0, .int .i64 0, .int .i64 0, .int .i32 0, .string ⟨#[]⟩, .slice none 0 0] 32)).drew := ((Below.refl _ _).alloc (Nat.le_refl _) _).drew
  have bFZ : Below X.heap.size X ((X.alloc (.cells (falses n) 4)).alloc (.cells #[.int .i64 0, .int .i64 0, .slice none 0 0, .int .i64 0, .int .i64 0, .bool false, .int .i64 0, .int .i64 0, .int .i64 0, .int .i64 0, .int .i64 0, .int .i64 0, .slice none 0 0, .int .i64 0, .int .i64 0, .int .i64 0, .int .i64 0, .int .i64 0, .int .i64 0, .int .i32 0, .string ⟨#[]⟩, .slice none 0 0] 32)).drew := (((Below.refl _ _).alloc (Nat.le_refl _) _).alloc (by simp) _).drew
  have bZF : Below X.heap.size X ((X.alloc (.cells #[.int .i64 0, .int .i64 0, .slice none 0 0, .int .i64 0, .int .i64 0, .bool false, .int .i64 0, .int .i64 0, .int .i64 0, .int .i64 0, .int .i64 0, .int .i64 0, .slice none 0 0, .int .i64 0, .int .i64 0, .int .i64 0, .int .i64 0, .int .i64 0, .int .i64 0, .int .i32 0, .string ⟨#[]⟩, .slice none 0 0] 32)).alloc (.cells (falses n) 4)).drew := (((Below.refl _ _).alloc (Nat.le_refl _) _).alloc (by simp) _).drew
  go_cut [8] from 20 to 26 (fun c wx => ∃ R T, c = .pointer (some ⟨R, 0, none⟩) ∧ X.heap.size ≤ R ∧ X.heap.size ≤ T ∧ R ≠ T ∧ wx.heap[R]? = some (.cells (scrA (preScr (n : Int) (hh : Int) ((hh : Int) - 1)) (.slice (some ⟨g, 0, none⟩) L cap) (.slice (some ⟨T, 0, none⟩) n n) (.slice none 0 0)) 32 (0, 0)) ∧ wx.heap[T]? = some (.cells (falses n) 4 (0, 0)) ∧ Below X.heap.size X wx)
  case first =>
    go_region_held3 (fun w' => w'.cell? ⟨W1.heap.size, 0, none⟩ = some (.int .i64 (n : Int)) ∧ w'.cell? ⟨W1.heap.size, 1, none⟩ = some (.int .i64 (hh : Int)) ∧ w'.cell? ⟨W1.heap.size, 2, none⟩ = some (.slice (some ⟨g, 0, none⟩) L cap))
      (first | exact SK.out _ b0 | exact SK.out _ bF | exact SK.out _ bZ | exact SK.out _ bFZ | exact SK.out _ bZF | exact SK.out _ (below_setRow bFZ (Nat.le_succ _) _) | exact SK.out _ (below_setRow bZF (Nat.le_refl _) _)) (fail)
    all_goals go_wp2_with fail
    all_goals go_meet
    all_goals first
      | exact ⟨X.heap.size + 1, X.heap.size, rfl, Nat.le_succ _, Nat.le_refl _, Nat.succ_ne_self _, setRow_heap _ _ _ _ _ _ (show ((X.alloc (.cells (falses n) 4)).alloc (.cells #[.int .i64 0, .int .i64 0, .slice none 0 0, .int .i64 0, .int .i64 0, .bool false, .int .i64 0, .int .i64 0, .int .i64 0, .int .i64 0, .int .i64 0, .int .i64 0, .slice none 0 0, .int .i64 0, .int .i64 0, .int .i64 0, .int .i64 0, .int .i64 0, .int .i64 0, .int .i32 0, .string ⟨#[]⟩, .slice none 0 0] 32)).heap[X.heap.size + 1]? = _ from heap_alloc2_new X _ _), (setRow_other _ _ _ _ (Nat.ne_of_lt (Nat.lt_succ_self _))).trans (show ((X.alloc (.cells (falses n) 4)).alloc (.cells #[.int .i64 0, .int .i64 0, .slice none 0 0, .int .i64 0, .int .i64 0, .bool false, .int .i64 0, .int .i64 0, .int .i64 0, .int .i64 0, .int .i64 0, .int .i64 0, .slice none 0 0, .int .i64 0, .int .i64 0, .int .i64 0, .int .i64 0, .int .i64 0, .int .i64 0, .int .i32 0, .string ⟨#[]⟩, .slice none 0 0] 32)).heap[X.heap.size]? = _ from (Below.heap_alloc _ _ _ (by simp)).trans (heap_alloc_new _ _)), below_setRow bFZ (Nat.le_succ _) _⟩
      | exact ⟨X.heap.size, X.heap.size + 1, rfl, Nat.le_refl _, Nat.le_succ _, Nat.ne_of_lt (Nat.lt_succ_self _), setRow_heap _ _ _ _ _ _ (show ((X.alloc (.cells #[.int .i64 0, .int .i64 0, .slice none 0 0, .int .i64 0, .int .i64 0, .bool false, .int .i64 0, .int .i64 0, .int .i64 0, .int .i64 0, .int .i64 0, .int .i64 0, .slice none 0 0, .int .i64 0, .int .i64 0, .int .i64 0, .int .i64 0, .int .i64 0, .int .i64 0, .int .i32 0, .string ⟨#[]⟩, .slice none 0 0] 32)).alloc (.cells (falses n) 4)).heap[X.heap.size]? = _ from (Below.heap_alloc _ _ _ (by simp)).trans (heap_alloc_new _ _)), (setRow_other _ _ _ _ (Nat.succ_ne_self _)).trans (show ((X.alloc (.cells #[.int .i64 0, .int .i64 0, .slice none 0 0, .int .i64 0, .int .i64 0, .bool false, .int .i64 0, .int .i64 0, .int .i64 0, .int .i64 0, .int .i64 0, .int .i64 0, .slice none 0 0, .int .i64 0, .int .i64 0, .int .i64 0, .int .i64 0, .int .i64 0, .int .i64 0, .int .i32 0, .string ⟨#[]⟩, .slice none 0 0] 32)).alloc (.cells (falses n) 4)).heap[X.heap.size + 1]? = _ from heap_alloc2_new X _ _), below_setRow bZF (Nat.le_refl _) _⟩
  case rest =>
    obtain ⟨R, T, rfl, hR, hTT, hne, hxR, hxT, hbx⟩ := hcut
    have HXR : Hid _ := hxR
    have HXT : Hid (wc.heap[T]? = some (.cells (falses n) 4 (0, 0))) := hxT
    have HBX : Hid (Below X.heap.size X wc) := hbx
    clear p1 p2 b0 bF bZ bFZ bZF SK g0 g1 g2 hxR hxT hbx hms
    go_wp2_with fail
    go_loopg [9] (n + 8) (fun q i wr => ∃ x : Nat, i = .int .i64 (x : Int) ∧ x % 8 = 0 ∧ 8 ≤ x ∧ x ≤ n + 8 ∧ n + 8 - x ≤ q ∧ wr.heap[R]? = some (.cells (scrA (preScr (n : Int) (hh : Int) ((hh : Int) - 1)) (.slice (some ⟨g, 0, none⟩) L cap) (.slice (some ⟨T, 0, none⟩) n n) (.slice none 0 0)) 32 (0, 0)) ∧ wr.heap[T]? = some (.cells (tabsA n x) 4 (0, 0)) ∧ Below X.heap.size X wr)
    case atStart => exact ⟨8, rfl, by omega, by omega, by omega, by omega, HXR.out, by rw [tabsA_start]; exact HXT.out, HBX.out⟩
    case round =>
      obtain ⟨x, rfl, hx8, hx9, hx10, hq, hyR, hyT, hby⟩ := hrel
      have HYR : Hid (wr.heap[R]? = _) := hyR
      have HYT : Hid (wr.heap[T]? = some (.cells (tabsA n x) 4 (0, 0))) := hyT
      have HBY : Hid (Below X.heap.size X wr) := hby
      clear HXR HXT HBX
      by_cases hlt : x < n
      · have lt1 : ((x : Int) < (n : Int)) := by omega
        have c12 := (scr_cells hyR).2.1.2.1
        have d1 := tabsA_cell hyT hlt
        have f1 := frozen_cells hyT x
        clear hyR hyT hby
        go_wp2_with fail
        go_roundg (n + 8 - (x + 8))
        case measure => omega
        case rel => exact ⟨x + 8, by go_num, by omega, by omega, by omega, by omega, (store_off hne).trans HYR.out, store_at HYT.out (tabsA_set n x hx8 (by omega)), HBY.out.setCell hTT _⟩
      · have lt1 : ¬ ((x : Int) < (n : Int)) := by omega
        clear hyR hyT hby
        have hyZ : wr.heap[w.heap.size]? = _ := Grd.carry HX2.out HBY.out
        have HYZ : Hid _ := hyZ
        clear hyZ
        go_wp2_with (first
          | (refine wpList_load_row rfl 32 (.tmp 8) rfl R rfl _ _ _ _ HYR.out Tryz.underlying32 rfl (by kernel_rfl) ?_)
          | (refine wpList_store_row rfl 32 (.tmp 4) _ rfl w.heap.size (scrA (preScr (n : Int) (hh : Int) ((hh : Int) - 1)) (.slice (some ⟨g, 0, none⟩) L cap) (.slice (some ⟨T, 0, none⟩) n n) (.slice none 0 0)) rfl rfl _ _ HYZ.out (by kernel_rfl) rfl (scr_one _ _ _ _ _ _ _ _ _ _) ?_))
        (try simp only [Exit.inBlock, Exit.then])
        refine bodyPost_ret (v := .tuple #[.agg (scrA (preScr (n : Int) (hh : Int) ((hh : Int) - 1)) (.slice (some ⟨g, 0, none⟩) L cap) (.slice (some ⟨T, 0, none⟩) n n) (.slice none 0 0)), .int .i64 0]) ?_ rfl ⟨.slice (some ⟨g, 0, none⟩) L cap, .slice (some ⟨T, 0, none⟩) n n, .slice none 0 0, rfl, ?_, ?_⟩
        · exact Grd.results_row_tmp rfl _ _ w.heap.size _ _ _ _ rfl (setRow_heap _ _ _ _ _ _ HYZ.out) Tryz.underlying32 rfl (by kernel_rfl) _ rfl
        · have hw1 := hb1.size
          have hw2 := HBG.out.size
          have hw3 := heap_lt HX2.out
          have hbA : Below W1.heap.size W1 wr := HBG.out.trans (HBY.out.mono hw2)
          obtain ⟨g', cap', rest', t', hv', hg', hl', hm', hh'⟩ := HO.out
          injection hv' with hv1 hv2 hv3
          injection hv1 with hv1
          injection hv1 with hv1
          subst hv1 hv3
          have hg2 : w.heap.size < g := by simp at hg'; omega
          refine ⟨.inr ⟨g, cap, rest', t', ?_, by omega, ?_, hm', ?_⟩, ?_, [], World.ownsRow_nil _ _ _ _, rfl, fun i hi => absurd hi (by simp [newScr])⟩
          · show _ = Value.slice _ (List.replicate (n * hh) _).length _
            rw [List.length_replicate, HLL.out]
          · show (List.replicate (n * hh) _).length ≤ _
            rw [HLL.out]
            exact hl'
          · show _ = some (Obj.cells (flat (List.replicate (n * hh) _) ++ rest').toArray _ _)
            rw [HLL.out, setRow_other _ _ _ _ (by omega)]
            exact Grd.carry hh' hbA
          · show (wr.setRow _ _).ownsRow _ _ _ _ (newTabs n).length ((newTabs n).map Value.bool)
            have e := tabsL_all n x (by omega)
            have hlen : (newTabs n).length = n := by simp [newTabs]
            rw [hlen]
            refine ⟨by rw [List.length_map, hlen, Nat.mul_one], .inr ⟨T, n, tabsA n x, rfl, by omega, ?_, Nat.le_refl _, by unfold maxLen; omega, by simp [tabsA, tabsL], ?_⟩⟩
            · rw [setRow_other _ _ _ _ (by omega)]
              exact HYT.out
            · unfold tabsA
              rw [e]
              show List.take (n * 1) ((newTabs n).map Value.bool) = _
              rw [List.take_of_length_le (by rw [List.length_map, hlen, Nat.mul_one]; exact Nat.le_refl _)]
        · exact below_setRow (hb1.trans ((HBG.out.trans (HBY.out.mono HBG.out.size)).mono hb1.size)) (Nat.le_refl _) _
end
end Put
end Go.Proofs.YtnkeahfcpbepjaaGreatDoor

/- One rune, where nothing rolls and nothing is moved to make room. -/
namespace Go.Proofs.YtnkeahfcpbepjaaGreatDoor
open Go.ChangeShapes Go.WideShapes Go.ChangeAt Go.RowKit
namespace Put
open Grd (C SliceAt CellsAt gridErr z0 nilV flat rowsL)
open Sty (isSt)
open Txt (wd)
/-- Where a rune of k cells begins. -/
def startS (s : Scr) (k : Int) : Scr := if brkB s k then feedS { s with x := 0 } else s
def printP (q : Scr × List (List C)) (r : Int) : Scr × List (List C) :=
  ({ advS (startS q.1 (wd r)) (wd r) with last := r }, q.2.set (startS q.1 (wd r)).y.toNat (putRune ((startS q.1 (wd r)).sf, (startS q.1 (wd r)).sb, (startS q.1 (wd r)).sx) (q.2.getD (startS q.1 (wd r)).y.toNat []) (startS q.1 (wd r)).x.toNat r))
def stepOk (q : Scr × List (List C)) (r : Int) : Bool :=
  decide (wd r ≠ 0 ∧ wd r ≤ q.1.w ∧ 0 ≤ q.1.x ∧ q.1.x ≤ 120 ∧ 1 ≤ q.1.w ∧ q.1.w ≤ 120 ∧ 1 ≤ q.1.h ∧ q.1.h ≤ 60 ∧ 0 ≤ q.1.y ∧ q.1.y ≤ 60 ∧ (brkB q.1 (wd r) = true → q.1.y ≠ q.1.bot)) &&
  decide ((startS q.1 (wd r)).w = q.1.w ∧ 0 ≤ (startS q.1 (wd r)).x ∧ (startS q.1 (wd r)).x < q.1.w ∧ 0 ≤ (startS q.1 (wd r)).y ∧ (startS q.1 (wd r)).y.toNat < q.2.length ∧ fitsB (startS q.1 (wd r)) (wd r) = true ∧ hasB (startS q.1 (wd r)).modes 1 = false ∧
    ((q.2.getD (startS q.1 (wd r)).y.toNat []).length : Int) = q.1.w ∧ gridErr q.1.w 1 (q.2.getD (startS q.1 (wd r)).y.toNat []) = 0 ∧ isSt ((startS q.1 (wd r)).sf, (startS q.1 (wd r)).sb, (startS q.1 (wd r)).sx) = true)
theorem print_step (W : World) (M N p : Nat) (q : Scr × List (List C)) (r : Int) (hT : Txt.Tab W) (hN : ∀ X, Below N W X → Txt.Tab X) (hS : ShAt 64 W M N p q.1 q.2) (hok : stepOk q r = true) :
    Calls Tryz.prog 36 #[.pointer (some ⟨p, 0, none⟩), .int .i32 r] W (Ran W M N p (printP q r).1 (printP q r).2) := by
  unfold stepOk at hok
  rw [Bool.and_eq_true, decide_eq_true_eq, decide_eq_true_eq] at hok
  obtain ⟨⟨a1, a2, a3, a4, a5, a6, a7, a8, a9, a10, a11⟩, b1, b2, b3, b4, b5, b6, b7, b8, b9, b10⟩ := hok
  unfold printP
  obtain ⟨s1, hs1⟩ : ∃ s1, s1 = startS q.1 (wd r) := ⟨_, rfl⟩
  rw [← hs1] at b1 b2 b3 b4 b5 b6 b7 b8 b9 b10 ⊢
  refine print_main W M N p q.1 s1 q.2 q.2 q.2 _ r hT hS a1 a2 a3 a4 a5 a6 ⟨?_, ?_, b1, b2, by omega⟩ b6 (fun h => by rw [b7] at h; cases h) (fun _ => rfl) ?_
  · intro hb X _ hX
    have h := feed_plain X M N p { q.1 with x := 0 } q.2 hX a9 a10 a7 a8 (a11 hb)
    rw [hs1]
    unfold startS
    rw [hb]
    exact h
  · intro hb
    rw [hs1]
    unfold startS
    rw [hb]
    exact ⟨rfl, rfl⟩
  · intro X hX hSX
    exact write_any X M N p s1 q.2 (hN X hX) hSX r q.1.w.toNat s1.x.toNat s1.y.toNat b5 _ rfl (by omega) (by omega) (by omega) (by omega) (by omega) (by rw [Int.toNat_of_nonneg (by omega)]; exact b9) b10 a1 (by
      have h : wd r ≤ s1.w - s1.x := by simpa [fitsB] using b6
      omega)
end Put
end Go.Proofs.YtnkeahfcpbepjaaGreatDoor
