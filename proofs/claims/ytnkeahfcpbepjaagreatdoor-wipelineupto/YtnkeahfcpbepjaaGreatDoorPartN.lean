/- The reference's CheckScreen.  -/
import Derived.Test.YtnkeahfcpbepjaaGreatDoorPartG
import Derived.Test.YtnkeahfcpbepjaaGreatDoorPartM
import Derived.Laws.IdiomStrings
import Derived.Lib.QuietBelow
import Derived.BigQuiet
import Derived.Deep.RegionWith
import Derived.Deep.RegionHeld3
import Derived.Deep.Cut
import Derived.Deep.CutRange
import Derived.Test.YtnkeahfcpbepjaaGreatDoorPartE
import Derived.Lib.RuneBytes
import Derived.Test.YtnkeahfcpbepjaaGreatDoorPartJ
import Derived.Test.YtnkeahfcpbepjaaGreatDoorPartF
namespace Go.Proofs.YtnkeahfcpbepjaaGreatDoor
open Go.ChangeShapes Go.WideShapes Go.ChangeAt Go.RowKit Go.Sort
namespace Put
open Grd (C SliceAt CellsAt gridErr z0)
open Sty (isSt)
open Txt (wd)
/-- The world behind a text that was turned into runes. -/
def runesW (W : World) (t : ByteArray) : World := W.drew.alloc (.cells (Conv.runesFrom t t.size 0 #[] ++ Array.replicate (grownCap W (Conv.runesFrom t t.size 0 #[]).size 0 21 - (Conv.runesFrom t t.size 0 #[]).size) (.int .i32 0)) 21)
theorem runes_size (t : ByteArray) : ∀ (f i : Nat) (acc : Array Value), (Conv.runesFrom t f i acc).size = acc.size + Lib.runeCountFrom t f i
  | 0, _, acc => by simp [Conv.runesFrom, Lib.runeCountFrom]
  | f + 1, i, acc => by
    unfold Conv.runesFrom Lib.runeCountFrom
    split
    · rw [runes_size t f]
      simp
      omega
    · simp
theorem runes_conv (t : ByteArray) (ht : t.size ≤ 1048576) (W : World) : (convert 9 52 (.string t)).run Tryz.prog W = .ok (.slice (some ⟨W.heap.size, 0, none⟩) (Lib.runeCount t) (grownCap W (Conv.runesFrom t t.size 0 #[]).size 0 21)) (runesW W t) := by
  have hs : (Conv.runesFrom t t.size 0 #[]).size = Lib.runeCount t := by rw [runes_size]; simp [Lib.runeCount]
  have h := run_runes_of_string (P := Tryz.prog) W 9 52 21 t (by kernel_rfl) (by kernel_rfl) (by kernel_rfl) (by rw [hs]; have := Lib.runeCountFrom_le t t.size 0; unfold Lib.runeCount; omega)
  rw [h]
  unfold runesW
  rw [hs]
theorem below_runesW (W : World) (t : ByteArray) : Below W.heap.size W (runesW W t) := ((Below.refl _ W).drew).alloc (Nat.le_refl _) _
set_option maxHeartbeats 2000000 in
theorem within_any (a h x y : Int) (R : Nat) (W : World) (c0 : W.cell? ⟨R, 0, none⟩ = some (.int .i64 a)) (c1 : W.cell? ⟨R, 1, none⟩ = some (.int .i64 h)) : Calls Tryz.prog 122 #[.int .i64 x, .int .i64 y, .pointer (some ⟨R, 0, none⟩)] W fun e w' => e = .returned (.bool (hasC a h x y)) ∧ W = w' := by
  go_enter Tryz.func122, Tryz.ntmps122
  go_wp2
  all_goals (go_ret; refine ⟨ret_bool ?_, rfl⟩; clear c0 c1)
  all_goals (unfold hasC; rw [Bool.eq_iff_iff]; simp; try omega)
theorem checkRow_any (row : List C) (v : Value) (w : World) (hS : SliceAt w v row) : Calls Tryz.prog 124 #[v] w fun e w' => e = .returned (.bool (decide (gridErr row.length 1 row = 0))) ∧ Below w.heap.size w w' := by
  obtain ⟨ra, rc, hrv⟩ := hS.shape
  have H := Grd.ref_any (row.length : Int) 1 v row w hS
  subst hrv
  clear hS
  generalize gridErr row.length 1 row = ge at *
  go_enter Tryz.func124, Tryz.ntmps124
  go_wp2_with fail
  refine H.mono ?_
  rintro e W1 ⟨rfl, b1⟩
  go_wp2_with fail
  go_ret
  refine ⟨ret_bool ?_, b1⟩
  rw [Bool.eq_iff_iff]
  simp
theorem start13 {w W : World} {R : Nat} {t : TypeId} {s : Scr} {cv tv gv : Value} (hb : Below w.heap.size w W) (h : W.heap[R]? = some (.cells (scrA s cv tv gv) t (0, 0))) : Below w.heap.size w W ∧ W.heap[R]? = some (.cells (scrA s cv tv gv) t (0, 0)) ∧ W.cell? ⟨R, 0, none⟩ = some (.int .i64 s.w) ∧ W.cell? ⟨R, 12, none⟩ = some tv ∧ W.cell? ⟨R, 19, none⟩ = some (.int .i32 s.last) ∧ W.cell? ⟨R, 20, none⟩ = some (.string s.title) := by
  obtain ⟨⟨c0, -⟩, ⟨-, c12, -, -, -, -, -, -, c19, c20, -⟩, -⟩ := scr_cells h
  exact ⟨hb, h, c0, c12, c19, c20⟩
theorem next13 {w W V : World} {R : Nat} {t : TypeId} {s : Scr} {cv tv gv : Value} (h : Below w.heap.size w W ∧ W.heap[R]? = some (.cells (scrA s cv tv gv) t (0, 0)) ∧ W.cell? ⟨R, 0, none⟩ = some (.int .i64 s.w) ∧ W.cell? ⟨R, 12, none⟩ = some tv ∧ W.cell? ⟨R, 19, none⟩ = some (.int .i32 s.last) ∧ W.cell? ⟨R, 20, none⟩ = some (.string s.title)) (b : Below W.heap.size W V) : Below w.heap.size w V ∧ V.heap[R]? = some (.cells (scrA s cv tv gv) t (0, 0)) ∧ V.cell? ⟨R, 0, none⟩ = some (.int .i64 s.w) ∧ V.cell? ⟨R, 12, none⟩ = some tv ∧ V.cell? ⟨R, 19, none⟩ = some (.int .i32 s.last) ∧ V.cell? ⟨R, 20, none⟩ = some (.string s.title) :=
  start13 (h.1.trans (b.mono h.1.size)) (Grd.carry h.2.1 b)
theorem fin13 {w W : World} {R : Nat} {t : TypeId} {s : Scr} {cv tv gv c d : Value} (h : Below w.heap.size w W ∧ W.heap[R]? = some (.cells (scrA s cv tv gv) t (0, 0)) ∧ W.cell? ⟨R, 0, none⟩ = some (.int .i64 s.w) ∧ W.cell? ⟨R, 12, none⟩ = some tv ∧ W.cell? ⟨R, 19, none⟩ = some (.int .i32 s.last) ∧ W.cell? ⟨R, 20, none⟩ = some (.string s.title)) (e : c = d) : c = d ∧ Below w.heap.size w W ∧ W.heap[R]? = some (.cells (scrA s cv tv gv) t (0, 0)) := ⟨e, h.1, h.2.1⟩
/-- An operation of a region that draws, taken first: the operation itself is named by what is left of the list. -/
theorem heldTake {P : Program} {md : Region.Mode} {l : List Oper} {Q : Exit → Act → World → Prop} {S : World → Prop} {i : Nat} {oi : Oper} {rest : List Oper} {v : Value} {fuel : Nat} {listed : Array Bool} {a : Act} {w : World} (hi : l.drop i = oi :: rest)
    (hs : Region.noSelect l.toArray = true) (hf : Region.free md l.toArray listed i = true) (hr : (Region.ready md l.toArray listed).contains i = true)
    (hQ : ∀ c a w, Q (.panic c) (a.put oi.dst v) w → Q (.panic c) a w) (hy : YieldsIf P l.toArray S oi v a) (hS : S w)
    (h : wpAnyH P md l.toArray Q S fuel (listed.setIfInBounds i true) (a.put oi.dst v) w) : wpAnyH P md l.toArray Q S (fuel + 1) listed a w :=
  wpAnyH_take (by
    have h1 : l[i]? = some oi := by rw [← List.head?_drop, hi]; rfl
    simpa using h1) hs hf hr hQ hy hS h
theorem heldCons {P : Program} {md : Region.Mode} {l : List Oper} {Q : Exit → Act → World → Prop} {S : World → Prop} {fuel : Nat} {listed : Array Bool} {a : Act} {w : World} {i : Nat} {o : Oper} {rest : List Oper} {rs : List Nat} (hi : l.drop i = o :: rest)
    (h : ∀ K' : Act → World → Prop, Shut (∀ a w, S w → (S w → wpAnyH P md l.toArray Q S fuel (listed.setIfInBounds i true) a w) → K' a w) → if Region.wanted o (yielded l.toArray a.tmps) = true then Oper.wp P o a w K' Q else K' (a.put o.dst undef) w)
    (hs : AllReadyH P md l.toArray Q S fuel listed a w rs) : AllReadyH P md l.toArray Q S fuel listed a w (i :: rs) :=
  AllReadyH.cons (by
    have h1 : l[i]? = some o := by rw [← List.head?_drop, hi]; rfl
    simpa using h1) h hs
set_option linter.unusedSimpArgs false in
set_option maxHeartbeats 32000000 in
set_option maxRecDepth 100000 in
theorem checkScreen_any (s : Scr) (cv tv gv : Value) (w : World) (hV : ScrV w s cv tv gv) (hF : Fits s) :
    Calls Tryz.prog 65 #[.agg (scrA s cv tv gv)] w fun e w' => e = .returned (.int .i64 (scrErr s)) ∧ Below w.heap.size w w' := by
  obtain ⟨ca, cc, hcv⟩ := hV.c.shape
  obtain ⟨ta, tc, htv⟩ := hV.t.slice
  obtain ⟨ga, gc, hgv⟩ := hV.g.slice
  subst hcv htv hgv
  have x0 := heap_alloc_new w (.cells (scrA s (.slice ca s.cs.length cc) (.slice ta s.tabs.length tc) (.slice ga s.gone.length gc)) 32)
  have kb : Below w.heap.size w (w.alloc (.cells (scrA s (.slice ca s.cs.length cc) (.slice ta s.tabs.length tc) (.slice ga s.gone.length gc)) 32)) := (Below.refl _ _).alloc (Nat.le_refl _) _
  have HB0 : Hid _ := kb
  have HX0 : Hid _ := x0
  have HV : Hid (ScrV w s _ _ _) := hV
  have HF : Hid (Fits s) := hF
  obtain ⟨res, hres⟩ : ∃ res, scrErr s = res := ⟨_, rfl⟩
  rw [hres]
  have HC : Hid (scrErr s = res) := hres
  obtain ⟨⟨c0, c1, c2, c3, c4, c5, c6, c7, c8, c9, c10⟩, ⟨c11, c12, c13, c14, c15, c16, c17, c18, c19, c20, c21⟩, -⟩ := scr_cells x0
  have HGC := Grd.ref_any s.w s.h _ s.cs _ (HV.out.c.below HB0.out)
  clear x0 kb hV hF hres
  by_cases hz : gridErr s.w s.h s.cs = 0
  case neg =>
    have hzb : (gridErr s.w s.h s.cs != 0) = true := by simp [bne, hz]
    have HR : Hid (gridErr s.w s.h s.cs = res) := by
      unfold Hid
      rw [← HC.out]
      unfold scrErr
      rw [if_pos hz]
    clear hz
    generalize gridErr s.w s.h s.cs = ge at *
    go_enter Tryz.func65, Tryz.ntmps65
    go_wp2_with fail
    refine HGC.mono ?_
    rintro e W1 ⟨rfl, b⟩
    clear c0 c1 c2 c3 c4 c5 c6 c7 c8 c9 c10 c11 c12 c13 c14 c15 c16 c17 c18 c19 c20 c21
    go_wp2_with fail
    go_ret
    exact ⟨ret_int HR.out, HB0.out.trans (b.mono HB0.out.size)⟩
  obtain ⟨w1, w2, w3, w4⟩ := grid_size hz
  rw [hz] at HGC
  have HZ : Hid (gridErr s.w s.h s.cs = 0) := hz
  clear hz
  go_enter Tryz.func65, Tryz.ntmps65
  go_wp2_with fail
  refine HGC.mono ?_
  rintro e W1 ⟨rfl, b⟩
  have HX1 : Hid (W1.heap[w.heap.size]? = _) := Grd.carry HX0.out b
  have HB1 : Hid (Below w.heap.size w W1) := HB0.out.trans (b.mono HB0.out.size)
  clear c0 c1 c2 c3 c4 c5 c6 c7 c8 c9 c10 c11 c12 c13 c14 c15 c16 c17 c18 c19 c20 c21 b HGC
  go_upto_region 5 with fail
  go_cut [31] from 14 to 31 (fun c wx => c = .bool (!(hasC s.w s.h s.x s.y && hasC s.w s.h s.kx s.ky)) ∧ wx = W1)
  case first =>
    obtain ⟨⟨c0, c1, c2, c3, c4, c5, c6, c7, c8, c9, c10⟩, ⟨c11, c12, c13, c14, c15, c16, c17, c18, c19, c20, c21⟩, -⟩ := scr_cells HX1.out
    have H1 := within_any s.w s.h s.x s.y w.heap.size W1 c0 c1
    have H2 := within_any s.w s.h s.kx s.ky w.heap.size W1 c0 c1
    generalize hasC s.w s.h s.x s.y = b1 at *
    generalize hasC s.w s.h s.kx s.ky = b2 at *
    cases b1 with
    | false =>
      go_wp2_with fail
      refine H1.mono ?_
      rintro e V ⟨rfl, hv⟩
      subst hv
      go_wp2_with fail
      go_meet
      exact ⟨rfl, rfl⟩
    | true =>
      go_wp2_with fail
      refine H1.mono ?_
      rintro e V ⟨rfl, hv⟩
      subst hv
      go_wp2_with fail
      refine H2.mono ?_
      rintro e V ⟨rfl, hv⟩
      subst hv
      cases b2 with
      | false =>
        go_wp2_with fail
        go_meet
        exact ⟨rfl, rfl⟩
      | true =>
        go_wp2_with fail
        go_meet
        exact ⟨rfl, rfl⟩
  case rest =>
    obtain ⟨rfl, hwx⟩ := hcut
    subst hwx
    cases h12 : (hasC s.w s.h s.x s.y && hasC s.w s.h s.kx s.ky) with
    | false =>
      have HR : Hid (4 = res) := by
        unfold Hid
        rw [← HC.out]
        unfold scrErr placeOk
        rw [HZ.out, ← Bool.and_assoc, h12]
        simp
      go_wp2_with fail
      go_ret
      exact ⟨ret_int HR.out, HB1.out⟩
    | true =>
      have HH : Hid ((hasC s.w s.h s.x s.y && hasC s.w s.h s.kx s.ky) = true) := h12
      clear h12
      go_upto_region 7 with fail
      go_cut [62] from 32 to 62 (fun c wx => c = .bool (!regionOk s.h s.top s.bot) ∧ wx = wc)
      case first =>
        obtain ⟨⟨c0, c1, c2, c3, c4, c5, c6, c7, c8, c9, c10⟩, ⟨c11, c12, c13, c14, c15, c16, c17, c18, c19, c20, c21⟩, -⟩ := scr_cells HX1.out
        generalize hro : regionOk s.h s.top s.bot = ro at *
        have HRO : Hid (regionOk s.h s.top s.bot = ro) := hro
        clear hro
        go_wp2_with fail
        all_goals go_meet
        all_goals refine ⟨congrArg Value.bool ?_, rfl⟩
        all_goals (rw [← HRO.out]; unfold regionOk; rw [Bool.eq_iff_iff]; simp at *; try omega)
      case rest =>
        obtain ⟨rfl, hwx⟩ := hcut
        subst hwx
        cases h3 : regionOk s.h s.top s.bot with
        | false =>
          have HR : Hid (4 = res) := by
            unfold Hid
            rw [← HC.out]
            unfold scrErr placeOk
            rw [HZ.out, h3]
            simp
          go_wp2_with fail
          go_ret
          exact ⟨ret_int HR.out, HB1.out⟩
        | true =>
          have HP : Hid (placeOk s = true) := by
            unfold Hid placeOk
            rw [← Bool.and_assoc, HH.out, h3]
            rfl
          clear h3 HH
          go_upto_region 9 with fail
          go_cut [80] from 63 to 80 (fun c wx => c = .bool (lateBad s) ∧ wx = wc)
          case first =>
            obtain ⟨⟨c0, c1, c2, c3, c4, c5, c6, c7, c8, c9, c10⟩, ⟨c11, c12, c13, c14, c15, c16, c17, c18, c19, c20, c21⟩, -⟩ := scr_cells HX1.out
            cases hl : s.late with
            | false =>
              have HLT : Hid (lateBad s = false) := by unfold Hid lateBad; rw [hl]; rfl
              go_wp2_with fail
              go_meet
              exact ⟨by rw [HLT.out], rfl⟩
            | true =>
              by_cases hx : s.x = s.w - 1
              case neg =>
                have hxb : (s.x == s.w - 1) = false := by rw [beq_eq_false_iff_ne]; exact hx
                have HLT : Hid (lateBad s = true) := by unfold Hid lateBad; rw [hl, decide_eq_false hx]; rfl
                clear hx
                go_wp2_with fail
                go_meet
                exact ⟨by rw [HLT.out], rfl⟩
              have hxb : (s.x == s.w - 1) = true := by rw [beq_iff_eq]; exact hx
              by_cases hm4 : bits .and .i64 s.modes 4 = 0
              · have hmb : (bits .and .i64 s.modes 4 != 0) = false := by rw [bne_eq_false_iff_eq]; exact hm4
                have HLT : Hid (lateBad s = true) := by unfold Hid lateBad; rw [hl, decide_eq_true hm4]; simp
                clear hx hm4
                go_wp2_with fail
                go_meet
                exact ⟨by rw [HLT.out], rfl⟩
              · have hmb : (bits .and .i64 s.modes 4 != 0) = true := by rw [bne_iff_ne]; exact hm4
                have HLT : Hid (lateBad s = false) := by unfold Hid lateBad; rw [hl, decide_eq_false hm4, decide_eq_true hx]; rfl
                clear hx hm4
                go_wp2_with fail
                go_meet
                exact ⟨by rw [HLT.out], rfl⟩
          case rest =>
            obtain ⟨rfl, hwx⟩ := hcut
            subst hwx
            cases h4 : lateBad s with
            | true =>
              have HR : Hid (5 = res) := by
                unfold Hid
                rw [← HC.out]
                simp [scrErr, HZ.out, HP.out, h4]
              go_wp2_with fail
              go_ret
              exact ⟨ret_int HR.out, HB1.out⟩
            | false =>
              have HLT : Hid (lateBad s = false) := h4
              clear h4
              go_upto_region 11 with fail
              go_cut [120] from 81 to 120 (fun c wx => c = .bool (!looksOk s) ∧ Below w.heap.size w wx ∧ wx.heap[w.heap.size]? = some (.cells (scrA s (.slice ca s.cs.length cc) (.slice ta s.tabs.length tc) (.slice ga s.gone.length gc)) 32 (0, 0)))
              case first =>
                obtain ⟨⟨c0, c1, c2, c3, c4, c5, c6, c7, c8, c9, c10⟩, ⟨c11, c12, c13, c14, c15, c16, c17, c18, c19, c20, c21⟩, -⟩ := scr_cells HX1.out
                have HLO : Hid (looksOk s = (isSt (s.sf, s.sb, s.sx) && (isSt (s.kf, s.kb, s.kbits) && (decide (0 ≤ s.modes ∧ s.modes ≤ 63) && keptOk s.km)))) := rfl
                have H5 := Sty.isStyle_any s.sf s.sb s.sx wc
                have H6 : Hid (∀ W, Calls Tryz.prog 123 #[.agg #[.int .i64 s.kf, .int .i64 s.kb, .int .i64 s.kbits]] W fun e w' => e = .returned (.bool (isSt (s.kf, s.kb, s.kbits))) ∧ Below W.heap.size W w') := fun W => Sty.isStyle_any _ _ _ W
                generalize isSt (s.sf, s.sb, s.sx) = s1 at *
                generalize isSt (s.kf, s.kb, s.kbits) = s2 at *
                generalize looksOk s = lo at *
                go_wp2_with fail
                refine H5.mono ?_
                rintro e V ⟨rfl, b⟩
                have HXV : Hid (V.heap[w.heap.size]? = _) := Grd.carry HX1.out b
                have HBV : Hid (Below w.heap.size w V) := HB1.out.trans (b.mono HB1.out.size)
                clear c0 c1 c2 c3 c4 c5 c6 c7 c8 c9 c10 c11 c12 c13 c14 c15 c16 c17 c18 c19 c20 c21 b H5
                obtain ⟨⟨c0, c1, c2, c3, c4, c5, c6, c7, c8, c9, c10⟩, ⟨c11, c12, c13, c14, c15, c16, c17, c18, c19, c20, c21⟩, -⟩ := scr_cells HXV.out
                cases s1 with
                | false =>
                  go_wp2_with fail
                  go_meet
                  exact ⟨by rw [HLO.out]; rfl, HBV.out, HXV.out⟩
                | true =>
                  go_wp2_with fail
                  refine (H6.out V).mono ?_
                  rintro e V2 ⟨rfl, b⟩
                  have HXV2 : Hid (V2.heap[w.heap.size]? = _) := Grd.carry HXV.out b
                  have HBV2 : Hid (Below w.heap.size w V2) := HBV.out.trans (b.mono HBV.out.size)
                  clear c0 c1 c2 c3 c4 c5 c6 c7 c8 c9 c10 c11 c12 c13 c14 c15 c16 c17 c18 c19 c20 c21 b H6
                  obtain ⟨⟨c0, c1, c2, c3, c4, c5, c6, c7, c8, c9, c10⟩, ⟨c11, c12, c13, c14, c15, c16, c17, c18, c19, c20, c21⟩, -⟩ := scr_cells HXV2.out
                  cases s2 with
                  | false =>
                    go_wp2_with fail
                    go_meet
                    exact ⟨by rw [HLO.out]; rfl, HBV2.out, HXV2.out⟩
                  | true =>
                    by_cases m0 : s.modes < 0
                    · go_wp2_with fail
                      go_meet
                      exact ⟨by rw [HLO.out, decide_eq_false (by omega)]; rfl, HBV2.out, HXV2.out⟩
                    by_cases m1 : 63 < s.modes
                    · go_wp2_with fail
                      go_meet
                      exact ⟨by rw [HLO.out, decide_eq_false (by omega)]; rfl, HBV2.out, HXV2.out⟩
                    by_cases k0 : s.km < 0
                    · have hkk : keptOk s.km = false := by
                        cases h : keptOk s.km with
                        | false => rfl
                        | true => have := kept_range _ h; omega
                      have HLN : Hid ((!lo) = true) := by unfold Hid; rw [HLO.out, hkk]; simp
                      clear hkk
                      go_wp2_with fail
                      go_meet
                      exact ⟨by rw [HLN.out], HBV2.out, HXV2.out⟩
                    by_cases k1 : bits .and .i64 s.km 57 = 0
                    case neg =>
                      have k1b : (bits .and .i64 s.km 57 != 0) = true := by rw [bne_iff_ne]; exact k1
                      have hkk : keptOk s.km = false := by
                        cases h : keptOk s.km with
                        | false => rfl
                        | true => have h2 := kept_range _ h; exact absurd ((kept_ref _ h2.1 h2.2).2 h) k1
                      have HLN : Hid ((!lo) = true) := by unfold Hid; rw [HLO.out, hkk]; simp
                      clear hkk k1
                      go_wp2_with fail
                      go_meet
                      exact ⟨by rw [HLN.out], HBV2.out, HXV2.out⟩
                    have k1b : (bits .and .i64 s.km 57 != 0) = false := by rw [bne_eq_false_iff_eq]; exact k1
                    by_cases k2 : 63 < s.km
                    · have hkk : keptOk s.km = false := by
                        cases h : keptOk s.km with
                        | false => rfl
                        | true => have := kept_range _ h; omega
                      have HLN : Hid ((!lo) = true) := by unfold Hid; rw [HLO.out, hkk]; simp
                      clear hkk k1
                      go_wp2_with fail
                      go_meet
                      exact ⟨by rw [HLN.out], HBV2.out, HXV2.out⟩
                    have hkk : keptOk s.km = true := (kept_ref _ (by omega) (by omega)).1 k1
                    have HLN : Hid ((!lo) = false) := by unfold Hid; rw [HLO.out, hkk, decide_eq_true ⟨by omega, by omega⟩]; rfl
                    clear hkk k1
                    go_wp2_with fail
                    go_meet
                    exact ⟨by rw [HLN.out]; refine congrArg Value.bool ?_; simp; omega, HBV2.out, HXV2.out⟩
              case rest =>
                obtain ⟨rfl, hBw, hXw⟩ := hcut
                cases h5 : looksOk s with
                | false =>
                  have HR : Hid (4 = res) := by
                    unfold Hid
                    rw [← HC.out]
                    simp [scrErr, HZ.out, HP.out, HLT.out, h5]
                  go_wp2_with fail
                  go_ret
                  exact ⟨ret_int HR.out, hBw⟩
                | true =>
                  have HLK : Hid (looksOk s = true) := h5
                  have HBW : Hid (Below w.heap.size w wc) := hBw
                  have HXW : Hid (wc.heap[w.heap.size]? = _) := hXw
                  clear h5 hBw hXw
                  go_upto_region 13 with fail
                  go_cut [153] from 121 to 153 (fun c wx => c = .bool (!restOk s) ∧ Below w.heap.size w wx ∧ wx.heap[w.heap.size]? = some (.cells (scrA s (.slice ca s.cs.length cc) (.slice ta s.tabs.length tc) (.slice ga s.gone.length gc)) 32 (0, 0)))
                  case first =>
                    obtain ⟨⟨c0, c1, c2, c3, c4, c5, c6, c7, c8, c9, c10⟩, ⟨c11, c12, c13, c14, c15, c16, c17, c18, c19, c20, c21⟩, -⟩ := scr_cells HXW.out
                    have htb := HF.out.bl
                    have z0 : ∀ d os, (grow (redrawn wc d) os).cell? ⟨w.heap.size, 0, none⟩ = some (.int .i64 s.w) := fun d os => cell_regrown c0 d os
                    have z12 : ∀ d os, (grow (redrawn wc d) os).cell? ⟨w.heap.size, 12, none⟩ = some (.slice ta s.tabs.length tc) := fun d os => cell_regrown c12 d os
                    have z19 : ∀ d os, (grow (redrawn wc d) os).cell? ⟨w.heap.size, 19, none⟩ = some (.int .i32 s.last) := fun d os => cell_regrown c19 d os
                    have z20 : ∀ d os, (grow (redrawn wc d) os).cell? ⟨w.heap.size, 20, none⟩ = some (.string s.title) := fun d os => cell_regrown c20 d os
                    have HRE : Hid (restOk s = (decide ((s.tabs.length : Int) = s.w) && ((decide (s.last = 0) || !decide (wd s.last = 0)) && ((s.title.toList == (Txt.bs (Txt.cleanL (Txt.runes s.title))).toList) && decide (Lib.runeCount s.title ≤ 20))))) := rfl
                    have HCU : Hid (∀ W, Calls Tryz.prog 30 #[.string s.title] W fun e w' => e = .returned (.string (Txt.bs (Txt.cleanL (Txt.runes s.title)))) ∧ Below W.heap.size W w') := fun W => Txt.cleanOf_any s.title W (by have := HF.out.tl; omega)
                    have HCG : Hid (∀ d os, Calls Tryz.prog 30 #[.string s.title] (grow (redrawn wc d) os) fun r w'' => r = .returned (.string (Txt.bs (Txt.cleanL (Txt.runes s.title)))) ∧ ∃ p : Regrown, w'' = grow (redrawn wc p.d) p.os) := fun d os => Calls.regrown_of (HCU.out _)
                    have HWG : Hid (∀ d os, Calls Tryz.prog 69 #[.int .i32 s.last] (grow (redrawn wc d) os) fun r w'' => r = .returned (.int .i64 (wd s.last)) ∧ ∃ p : Regrown, w'' = grow (redrawn wc p.d) p.os) := fun d os => Calls.regrown_of (Grd.widthOf_to s.last _ _ rfl)
                    generalize Txt.bs (Txt.cleanL (Txt.runes s.title)) = u at *
                    generalize restOk s = rb at *
                    by_cases t1 : (s.tabs.length : Int) = s.w
                    case neg =>
                      have t1b : ((s.tabs.length : Int) != s.w) = true := by rw [bne_iff_ne]; exact t1
                      have HRB : Hid (rb = false) := by unfold Hid; rw [HRE.out, decide_eq_false t1]; rfl
                      clear t1
                      refine wp_region_quiet_below (by kernel_rfl) (by kernel_rfl) ?_
                      repeat (first | go_big_quiet_skip | quiet_step (fail))
                      refine wpQuiet_nil ?_
                      intro _ hw'
                      obtain ⟨⟨dq, os⟩, hw''⟩ := hw'
                      subst hw''
                      go_wp2_with fail
                      go_meet
                      exact ⟨by rw [HRB.out]; rfl, HBW.out.trans ((below_regrown wc dq os).mono HBW.out.size), Grd.carry HXW.out (below_regrown wc dq os)⟩
                    have t1b : ((s.tabs.length : Int) != s.w) = false := by rw [bne_eq_false_iff_eq]; exact t1
                    have HRB1 : Hid (rb = ((decide (s.last = 0) || !decide (wd s.last = 0)) && ((s.title.toList == u.toList) && decide (Lib.runeCount s.title ≤ 20)))) := by unfold Hid; rw [HRE.out, decide_eq_true t1]; rfl
                    clear t1 HRE
                    by_cases l0 : s.last = 0
                    · have l0b : (s.last != 0) = false := by rw [bne_eq_false_iff_eq]; exact l0
                      have HRB0 : Hid (rb = ((s.title.toList == u.toList) && decide (Lib.runeCount s.title ≤ 20))) := by unfold Hid; rw [HRB1.out, decide_eq_true l0]; rfl
                      clear l0 HRB1
                      cases hq : (u.toList == s.title.toList) with
                      | false =>
                        have HRB : Hid (rb = false) := by
                          unfold Hid
                          rw [HRB0.out, show (s.title.toList == u.toList) = false by rw [beq_eq_false_iff_ne]; intro h; rw [h] at hq; simp at hq]
                          simp
                        refine wp_region_quiet_below (by kernel_rfl) (by kernel_rfl) ?_
                        repeat (first | go_big_quiet_skip | quiet_step (first | (go_at_call 30; exact HCG.out _ _)))
                        refine wpQuiet_nil ?_
                        intro _ hw'
                        obtain ⟨⟨dq, os⟩, hw''⟩ := hw'
                        subst hw''
                        go_wp2_with fail
                        go_meet
                        exact ⟨by rw [HRB.out]; rfl, HBW.out.trans ((below_regrown wc dq os).mono HBW.out.size), Grd.carry HXW.out (below_regrown wc dq os)⟩
                      | true =>
                        have HEQ : Hid ((s.title.toList == u.toList) = true) := by
                          unfold Hid
                          have hq2 := eq_of_beq hq
                          rw [hq2]
                          simp
                        have hcv := runes_conv s.title HF.out.tl
                        clear z0 z12 z19 z20
                        have HRB : Hid (rb = decide (Lib.runeCount s.title ≤ 20)) := by unfold Hid; rw [HRB0.out, HEQ.out, Bool.true_and]
                        have hrc : Lib.runeCount s.title ≤ 9223372036854775807 := by have := Lib.runeCountFrom_le s.title s.title.size 0; have := HF.out.tl; unfold Lib.runeCount; omega
                        have hst := start13 HBW.out HXW.out
                        clear c0 c1 c2 c3 c4 c5 c6 c7 c8 c9 c10 c11 c12 c13 c14 c15 c16 c17 c18 c19 c20 c21 HCG HWG
                        refine wp_region_held_drew (S := (fun wx => Below w.heap.size w wx ∧ wx.heap[w.heap.size]? = some (.cells (scrA s (.slice ca s.cs.length cc) (.slice ta s.tabs.length tc) (.slice ga s.gone.length gc)) 32 (0, 0)) ∧ wx.cell? ⟨w.heap.size, 0, none⟩ = some (.int .i64 s.w) ∧ wx.cell? ⟨w.heap.size, 12, none⟩ = some (.slice ta s.tabs.length tc) ∧ wx.cell? ⟨w.heap.size, 19, none⟩ = some (.int .i32 s.last) ∧ wx.cell? ⟨w.heap.size, 20, none⟩ = some (.string s.title))) (by kernel_rfl) (next13 hst ((Below.refl _ _).drew)) (fun hHeld => ?_)
                        refine heldTake (i := 0) (v := ?_) rfl (by kernel_rfl) (by kernel_rfl) (by kernel_rfl) (fun _ _ _ h => h) (Or.inl ⟨by rfl, ?_⟩) hHeld ?_
                        rotate_left
                        · (intro wq hSw; obtain ⟨-, -, e0, e12, e19, e20⟩ := hSw; go_simp; try with_reducible rfl)
                        try simp only [Act.put, List.setIfInBounds_toArray, List.set_cons_zero, List.set_cons_succ]
                        refine heldTake (i := 1) (v := ?_) rfl (by kernel_rfl) (by kernel_rfl) (by kernel_rfl) (fun _ _ _ h => h) (Or.inl ⟨by rfl, ?_⟩) hHeld ?_
                        rotate_left
                        · (intro wq hSw; obtain ⟨-, -, e0, e12, e19, e20⟩ := hSw; go_simp; try with_reducible rfl)
                        try simp only [Act.put, List.setIfInBounds_toArray, List.set_cons_zero, List.set_cons_succ]
                        refine heldTake (i := 2) (v := ?_) rfl (by kernel_rfl) (by kernel_rfl) (by kernel_rfl) (fun _ _ _ h => h) (Or.inl ⟨by rfl, ?_⟩) hHeld ?_
                        rotate_left
                        · (intro wq hSw; obtain ⟨-, -, e0, e12, e19, e20⟩ := hSw; go_simp; try with_reducible rfl)
                        try simp only [Act.put, List.setIfInBounds_toArray, List.set_cons_zero, List.set_cons_succ]
                        refine heldTake (i := 3) (v := ?_) rfl (by kernel_rfl) (by kernel_rfl) (by kernel_rfl) (fun _ _ _ h => h) (Or.inl ⟨by rfl, ?_⟩) hHeld ?_
                        rotate_left
                        · (intro wq hSw; obtain ⟨-, -, e0, e12, e19, e20⟩ := hSw; go_simp; try with_reducible rfl)
                        try simp only [Act.put, List.setIfInBounds_toArray, List.set_cons_zero, List.set_cons_succ]
                        refine heldTake (i := 4) (v := ?_) rfl (by kernel_rfl) (by kernel_rfl) (by kernel_rfl) (fun _ _ _ h => h) (Or.inl ⟨by rfl, ?_⟩) hHeld ?_
                        rotate_left
                        · (intro wq hSw; obtain ⟨-, -, e0, e12, e19, e20⟩ := hSw; go_simp; try with_reducible rfl)
                        try simp only [Act.put, List.setIfInBounds_toArray, List.set_cons_zero, List.set_cons_succ]
                        refine heldTake (i := 5) (v := ?_) rfl (by kernel_rfl) (by kernel_rfl) (by kernel_rfl) (fun _ _ _ h => h) (Or.inl ⟨by rfl, ?_⟩) hHeld ?_
                        rotate_left
                        · (intro wq hSw; obtain ⟨-, -, e0, e12, e19, e20⟩ := hSw; go_simp; try with_reducible rfl)
                        try simp only [Act.put, List.setIfInBounds_toArray, List.set_cons_zero, List.set_cons_succ]
                        refine heldTake (i := 6) (v := ?_) rfl (by kernel_rfl) (by kernel_rfl) (by kernel_rfl) (fun _ _ _ h => h) (Or.inl ⟨by rfl, ?_⟩) hHeld ?_
                        rotate_left
                        · (intro wq hSw; obtain ⟨-, -, e0, e12, e19, e20⟩ := hSw; go_simp; try with_reducible rfl)
                        try simp only [Act.put, List.setIfInBounds_toArray, List.set_cons_zero, List.set_cons_succ]
                        refine heldTake (i := 7) (v := ?_) rfl (by kernel_rfl) (by kernel_rfl) (by kernel_rfl) (fun _ _ _ h => h) (Or.inl ⟨by rfl, ?_⟩) hHeld ?_
                        rotate_left
                        · (intro wq hSw; obtain ⟨-, -, e0, e12, e19, e20⟩ := hSw; go_simp; try with_reducible rfl)
                        try simp only [Act.put, List.setIfInBounds_toArray, List.set_cons_zero, List.set_cons_succ]
                        refine heldTake (i := 8) (v := ?_) rfl (by kernel_rfl) (by kernel_rfl) (by kernel_rfl) (fun _ _ _ h => h) (Or.inl ⟨by rfl, ?_⟩) hHeld ?_
                        rotate_left
                        · (intro wq hSw; obtain ⟨-, -, e0, e12, e19, e20⟩ := hSw; go_simp; try with_reducible rfl)
                        try simp only [Act.put, List.setIfInBounds_toArray, List.set_cons_zero, List.set_cons_succ]
                        refine heldTake (i := 9) (v := ?_) rfl (by kernel_rfl) (by kernel_rfl) (by kernel_rfl) (fun _ _ _ h => h) (Or.inl ⟨by rfl, ?_⟩) hHeld ?_
                        rotate_left
                        · (intro wq hSw; obtain ⟨-, -, e0, e12, e19, e20⟩ := hSw; go_simp; try with_reducible rfl)
                        try simp only [Act.put, List.setIfInBounds_toArray, List.set_cons_zero, List.set_cons_succ]
                        refine heldTake (i := 10) (v := ?_) rfl (by kernel_rfl) (by kernel_rfl) (by kernel_rfl) (fun _ _ _ h => h) (Or.inl ⟨by rfl, ?_⟩) hHeld ?_
                        rotate_left
                        · (intro wq hSw; obtain ⟨-, -, e0, e12, e19, e20⟩ := hSw; go_simp; try with_reducible rfl)
                        try simp only [Act.put, List.setIfInBounds_toArray, List.set_cons_zero, List.set_cons_succ]
                        refine heldTake (i := 11) (v := ?_) rfl (by kernel_rfl) (by kernel_rfl) (by kernel_rfl) (fun _ _ _ h => h) (Or.inl ⟨by rfl, ?_⟩) hHeld ?_
                        rotate_left
                        · (intro wq hSw; obtain ⟨-, -, e0, e12, e19, e20⟩ := hSw; go_simp; try with_reducible rfl)
                        try simp only [Act.put, List.setIfInBounds_toArray, List.set_cons_zero, List.set_cons_succ]
                        refine heldTake (i := 12) (v := undef) rfl (by kernel_rfl) (by kernel_rfl) (by kernel_rfl) (fun _ _ _ h => h) (Or.inr ⟨by rfl, rfl⟩) hHeld ?_
                        try simp only [Act.put, List.setIfInBounds_toArray, List.set_cons_zero, List.set_cons_succ]
                        refine heldTake (i := 13) (v := undef) rfl (by kernel_rfl) (by kernel_rfl) (by kernel_rfl) (fun _ _ _ h => h) (Or.inr ⟨by rfl, rfl⟩) hHeld ?_
                        try simp only [Act.put, List.setIfInBounds_toArray, List.set_cons_zero, List.set_cons_succ]
                        refine heldTake (i := 14) (v := undef) rfl (by kernel_rfl) (by kernel_rfl) (by kernel_rfl) (fun _ _ _ h => h) (Or.inr ⟨by rfl, rfl⟩) hHeld ?_
                        try simp only [Act.put, List.setIfInBounds_toArray, List.set_cons_zero, List.set_cons_succ]
                        refine heldTake (i := 15) (v := undef) rfl (by kernel_rfl) (by kernel_rfl) (by kernel_rfl) (fun _ _ _ h => h) (Or.inr ⟨by rfl, rfl⟩) hHeld ?_
                        try simp only [Act.put, List.setIfInBounds_toArray, List.set_cons_zero, List.set_cons_succ]
                        refine heldTake (i := 16) (v := ?_) rfl (by kernel_rfl) (by kernel_rfl) (by kernel_rfl) (fun _ _ _ h => h) (Or.inl ⟨by rfl, ?_⟩) hHeld ?_
                        rotate_left
                        · (intro wq hSw; obtain ⟨-, -, e0, e12, e19, e20⟩ := hSw; go_simp; try with_reducible rfl)
                        try simp only [Act.put, List.setIfInBounds_toArray, List.set_cons_zero, List.set_cons_succ]
                        refine heldTake (i := 17) (v := ?_) rfl (by kernel_rfl) (by kernel_rfl) (by kernel_rfl) (fun _ _ _ h => h) (Or.inl ⟨by rfl, ?_⟩) hHeld ?_
                        rotate_left
                        · (intro wq hSw; obtain ⟨-, -, e0, e12, e19, e20⟩ := hSw; go_simp; try with_reducible rfl)
                        try simp only [Act.put, List.setIfInBounds_toArray, List.set_cons_zero, List.set_cons_succ]
                        refine heldTake (i := 18) (v := ?_) rfl (by kernel_rfl) (by kernel_rfl) (by kernel_rfl) (fun _ _ _ h => h) (Or.inl ⟨by rfl, ?_⟩) hHeld ?_
                        rotate_left
                        · (intro wq hSw; obtain ⟨-, -, e0, e12, e19, e20⟩ := hSw; go_simp; try with_reducible rfl)
                        try simp only [Act.put, List.setIfInBounds_toArray, List.set_cons_zero, List.set_cons_succ]
                        refine heldTake (i := 19) (v := ?_) rfl (by kernel_rfl) (by kernel_rfl) (by kernel_rfl) (fun _ _ _ h => h) (Or.inl ⟨by rfl, ?_⟩) hHeld ?_
                        rotate_left
                        · (intro wq hSw; obtain ⟨-, -, e0, e12, e19, e20⟩ := hSw; go_simp; try with_reducible rfl)
                        try simp only [Act.put, List.setIfInBounds_toArray, List.set_cons_zero, List.set_cons_succ]
                        refine heldTake (i := 20) (v := ?_) rfl (by kernel_rfl) (by kernel_rfl) (by kernel_rfl) (fun _ _ _ h => h) (Or.inl ⟨by rfl, ?_⟩) hHeld ?_
                        rotate_left
                        · (intro wq hSw; obtain ⟨-, -, e0, e12, e19, e20⟩ := hSw; go_simp; try with_reducible rfl)
                        try simp only [Act.put, List.setIfInBounds_toArray, List.set_cons_zero, List.set_cons_succ]
                        refine heldTake (i := 22) (v := ?_) rfl (by kernel_rfl) (by kernel_rfl) (by kernel_rfl) (fun _ _ _ h => h) (Or.inl ⟨by rfl, ?_⟩) hHeld ?_
                        rotate_left
                        · (intro wq hSw; obtain ⟨-, -, e0, e12, e19, e20⟩ := hSw; go_simp; try with_reducible rfl)
                        try simp only [Act.put, List.setIfInBounds_toArray, List.set_cons_zero, List.set_cons_succ]
                        refine heldTake (i := 23) (v := ?_) rfl (by kernel_rfl) (by kernel_rfl) (by kernel_rfl) (fun _ _ _ h => h) (Or.inl ⟨by rfl, ?_⟩) hHeld ?_
                        rotate_left
                        · (intro wq hSw; obtain ⟨-, -, e0, e12, e19, e20⟩ := hSw; go_simp; try with_reducible rfl)
                        try simp only [Act.put, List.setIfInBounds_toArray, List.set_cons_zero, List.set_cons_succ]
                        refine wpAnyH_ready (rs := [21]) (by kernel_rfl) (by simp) (heldCons rfl (fun K hK => ?_) AllReadyH.nil)
                        go_simp
                        refine (HCU.out _).mono ?_
                        rintro e V2 ⟨rfl, b2⟩
                        go_wp2_with fail
                        refine hK.out _ _ (next13 hHeld b2) (fun hHeld2 => ?_)
                        clear hK K hHeld
                        have hHeld := hHeld2
                        clear hHeld2
                        try simp only [Act.put, List.setIfInBounds_toArray, List.set_cons_zero, List.set_cons_succ]
                        refine heldTake (i := 24) (v := ?_) rfl (by kernel_rfl) (by kernel_rfl) (by kernel_rfl) (fun _ _ _ h => h) (Or.inl ⟨by rfl, ?_⟩) hHeld ?_
                        rotate_left
                        · (intro wq hSw; obtain ⟨-, -, e0, e12, e19, e20⟩ := hSw; go_simp; try with_reducible rfl)
                        try simp only [Act.put, List.setIfInBounds_toArray, List.set_cons_zero, List.set_cons_succ]
                        refine heldTake (i := 25) (v := ?_) rfl (by kernel_rfl) (by kernel_rfl) (by kernel_rfl) (fun _ _ _ h => h) (Or.inl ⟨by rfl, ?_⟩) hHeld ?_
                        rotate_left
                        · (intro wq hSw; obtain ⟨-, -, e0, e12, e19, e20⟩ := hSw; go_simp; try with_reducible rfl)
                        try simp only [Act.put, List.setIfInBounds_toArray, List.set_cons_zero, List.set_cons_succ]
                        refine heldTake (i := 26) (v := ?_) rfl (by kernel_rfl) (by kernel_rfl) (by kernel_rfl) (fun _ _ _ h => h) (Or.inl ⟨by rfl, ?_⟩) hHeld ?_
                        rotate_left
                        · (intro wq hSw; obtain ⟨-, -, e0, e12, e19, e20⟩ := hSw; go_simp; try with_reducible rfl)
                        try simp only [Act.put, List.setIfInBounds_toArray, List.set_cons_zero, List.set_cons_succ]
                        refine heldTake (i := 27) (v := ?_) rfl (by kernel_rfl) (by kernel_rfl) (by kernel_rfl) (fun _ _ _ h => h) (Or.inl ⟨by rfl, ?_⟩) hHeld ?_
                        rotate_left
                        · (intro wq hSw; obtain ⟨-, -, e0, e12, e19, e20⟩ := hSw; go_simp; try with_reducible rfl)
                        try simp only [Act.put, List.setIfInBounds_toArray, List.set_cons_zero, List.set_cons_succ]
                        refine heldTake (i := 28) (v := ?_) rfl (by kernel_rfl) (by kernel_rfl) (by kernel_rfl) (fun _ _ _ h => h) (Or.inl ⟨by rfl, ?_⟩) hHeld ?_
                        rotate_left
                        · (intro wq hSw; obtain ⟨-, -, e0, e12, e19, e20⟩ := hSw; go_simp; try with_reducible rfl)
                        try simp only [Act.put, List.setIfInBounds_toArray, List.set_cons_zero, List.set_cons_succ]
                        refine wpAnyH_ready (rs := [29]) (by kernel_rfl) (by simp) (heldCons rfl (fun K hK => ?_) AllReadyH.nil)
                        go_simp
                        refine hK.out _ _ (next13 hHeld (below_runesW _ _)) (fun hHeld2 => ?_)
                        clear hK K hHeld
                        have hHeld := hHeld2
                        clear hHeld2
                        try simp only [Act.put, List.setIfInBounds_toArray, List.set_cons_zero, List.set_cons_succ]
                        refine heldTake (i := 30) (v := ?_) rfl (by kernel_rfl) (by kernel_rfl) (by kernel_rfl) (fun _ _ _ h => h) (Or.inl ⟨by rfl, ?_⟩) hHeld ?_
                        rotate_left
                        · (intro wq hSw; obtain ⟨-, -, e0, e12, e19, e20⟩ := hSw; go_simp; try with_reducible rfl)
                        try simp only [Act.put, List.setIfInBounds_toArray, List.set_cons_zero, List.set_cons_succ]
                        refine heldTake (i := 31) (v := ?_) rfl (by kernel_rfl) (by kernel_rfl) (by kernel_rfl) (fun _ _ _ h => h) (Or.inl ⟨by rfl, ?_⟩) hHeld ?_
                        rotate_left
                        · (intro wq hSw; obtain ⟨-, -, e0, e12, e19, e20⟩ := hSw; go_simp; try with_reducible rfl)
                        try simp only [Act.put, List.setIfInBounds_toArray, List.set_cons_zero, List.set_cons_succ]
                        refine heldTake (i := 32) (v := ?_) rfl (by kernel_rfl) (by kernel_rfl) (by kernel_rfl) (fun _ _ _ h => h) (Or.inl ⟨by rfl, ?_⟩) hHeld ?_
                        rotate_left
                        · (intro wq hSw; obtain ⟨-, -, e0, e12, e19, e20⟩ := hSw; go_simp; try with_reducible rfl)
                        try simp only [Act.put, List.setIfInBounds_toArray, List.set_cons_zero, List.set_cons_succ]
                        refine wpAnyH_done (by kernel_rfl) ?_ _
                        all_goals clear hst
                        all_goals go_wp2_with fail
                        all_goals go_meet
                        all_goals refine fin13 (by assumption) ?_
                        all_goals (rw [HRB.out]; refine congrArg Value.bool ?_; rw [Bool.eq_iff_iff]; simp; try omega)
                    · have l0b : (s.last != 0) = true := by rw [bne_iff_ne]; exact l0
                      by_cases l1 : wd s.last = 0
                      · have l1b : (wd s.last == 0) = true := by rw [beq_iff_eq]; exact l1
                        have HRB : Hid (rb = false) := by unfold Hid; rw [HRB1.out, decide_eq_true l1, decide_eq_false l0]; rfl
                        clear l0 l1 HRB1
                        refine wp_region_quiet_below (by kernel_rfl) (by kernel_rfl) ?_
                        repeat (first | go_big_quiet_skip | quiet_step (first | (go_at_call 69; exact HWG.out _ _)))
                        refine wpQuiet_nil ?_
                        intro _ hw'
                        obtain ⟨⟨dq, os⟩, hw''⟩ := hw'
                        subst hw''
                        go_wp2_with fail
                        go_meet
                        exact ⟨by rw [HRB.out]; rfl, HBW.out.trans ((below_regrown wc dq os).mono HBW.out.size), Grd.carry HXW.out (below_regrown wc dq os)⟩
                      · have l1b : (wd s.last == 0) = false := by rw [beq_eq_false_iff_ne]; exact l1
                        have HRB0 : Hid (rb = ((s.title.toList == u.toList) && decide (Lib.runeCount s.title ≤ 20))) := by unfold Hid; rw [HRB1.out, decide_eq_false l1]; simp
                        clear l0 l1 HRB1
                        cases hq : (u.toList == s.title.toList) with
                        | false =>
                          have HRB : Hid (rb = false) := by
                            unfold Hid
                            rw [HRB0.out, show (s.title.toList == u.toList) = false by rw [beq_eq_false_iff_ne]; intro h; rw [h] at hq; simp at hq]
                            simp
                          refine wp_region_quiet_below (by kernel_rfl) (by kernel_rfl) ?_
                          repeat (first | go_big_quiet_skip | quiet_step (first | (go_at_call 69; exact HWG.out _ _) | (go_at_call 30; exact HCG.out _ _)))
                          refine wpQuiet_nil ?_
                          intro _ hw'
                          obtain ⟨⟨dq, os⟩, hw''⟩ := hw'
                          subst hw''
                          go_wp2_with fail
                          go_meet
                          exact ⟨by rw [HRB.out]; rfl, HBW.out.trans ((below_regrown wc dq os).mono HBW.out.size), Grd.carry HXW.out (below_regrown wc dq os)⟩
                        | true =>
                          have HEQ : Hid ((s.title.toList == u.toList) = true) := by
                            unfold Hid
                            have hq2 := eq_of_beq hq
                            rw [hq2]
                            simp
                          have hcv := runes_conv s.title HF.out.tl
                          clear z0 z12 z19 z20
                          have HRB : Hid (rb = decide (Lib.runeCount s.title ≤ 20)) := by unfold Hid; rw [HRB0.out, HEQ.out, Bool.true_and]
                          have hrc : Lib.runeCount s.title ≤ 9223372036854775807 := by have := Lib.runeCountFrom_le s.title s.title.size 0; have := HF.out.tl; unfold Lib.runeCount; omega
                          have hst := start13 HBW.out HXW.out
                          clear c0 c1 c2 c3 c4 c5 c6 c7 c8 c9 c10 c11 c12 c13 c14 c15 c16 c17 c18 c19 c20 c21 HCG HWG
                          refine wp_region_held_drew (S := (fun wx => Below w.heap.size w wx ∧ wx.heap[w.heap.size]? = some (.cells (scrA s (.slice ca s.cs.length cc) (.slice ta s.tabs.length tc) (.slice ga s.gone.length gc)) 32 (0, 0)) ∧ wx.cell? ⟨w.heap.size, 0, none⟩ = some (.int .i64 s.w) ∧ wx.cell? ⟨w.heap.size, 12, none⟩ = some (.slice ta s.tabs.length tc) ∧ wx.cell? ⟨w.heap.size, 19, none⟩ = some (.int .i32 s.last) ∧ wx.cell? ⟨w.heap.size, 20, none⟩ = some (.string s.title))) (by kernel_rfl) (next13 hst ((Below.refl _ _).drew)) (fun hHeld => ?_)
                          refine heldTake (i := 0) (v := ?_) rfl (by kernel_rfl) (by kernel_rfl) (by kernel_rfl) (fun _ _ _ h => h) (Or.inl ⟨by rfl, ?_⟩) hHeld ?_
                          rotate_left
                          · (intro wq hSw; obtain ⟨-, -, e0, e12, e19, e20⟩ := hSw; go_simp; try with_reducible rfl)
                          try simp only [Act.put, List.setIfInBounds_toArray, List.set_cons_zero, List.set_cons_succ]
                          refine heldTake (i := 1) (v := ?_) rfl (by kernel_rfl) (by kernel_rfl) (by kernel_rfl) (fun _ _ _ h => h) (Or.inl ⟨by rfl, ?_⟩) hHeld ?_
                          rotate_left
                          · (intro wq hSw; obtain ⟨-, -, e0, e12, e19, e20⟩ := hSw; go_simp; try with_reducible rfl)
                          try simp only [Act.put, List.setIfInBounds_toArray, List.set_cons_zero, List.set_cons_succ]
                          refine heldTake (i := 2) (v := ?_) rfl (by kernel_rfl) (by kernel_rfl) (by kernel_rfl) (fun _ _ _ h => h) (Or.inl ⟨by rfl, ?_⟩) hHeld ?_
                          rotate_left
                          · (intro wq hSw; obtain ⟨-, -, e0, e12, e19, e20⟩ := hSw; go_simp; try with_reducible rfl)
                          try simp only [Act.put, List.setIfInBounds_toArray, List.set_cons_zero, List.set_cons_succ]
                          refine heldTake (i := 3) (v := ?_) rfl (by kernel_rfl) (by kernel_rfl) (by kernel_rfl) (fun _ _ _ h => h) (Or.inl ⟨by rfl, ?_⟩) hHeld ?_
                          rotate_left
                          · (intro wq hSw; obtain ⟨-, -, e0, e12, e19, e20⟩ := hSw; go_simp; try with_reducible rfl)
                          try simp only [Act.put, List.setIfInBounds_toArray, List.set_cons_zero, List.set_cons_succ]
                          refine heldTake (i := 4) (v := ?_) rfl (by kernel_rfl) (by kernel_rfl) (by kernel_rfl) (fun _ _ _ h => h) (Or.inl ⟨by rfl, ?_⟩) hHeld ?_
                          rotate_left
                          · (intro wq hSw; obtain ⟨-, -, e0, e12, e19, e20⟩ := hSw; go_simp; try with_reducible rfl)
                          try simp only [Act.put, List.setIfInBounds_toArray, List.set_cons_zero, List.set_cons_succ]
                          refine heldTake (i := 5) (v := ?_) rfl (by kernel_rfl) (by kernel_rfl) (by kernel_rfl) (fun _ _ _ h => h) (Or.inl ⟨by rfl, ?_⟩) hHeld ?_
                          rotate_left
                          · (intro wq hSw; obtain ⟨-, -, e0, e12, e19, e20⟩ := hSw; go_simp; try with_reducible rfl)
                          try simp only [Act.put, List.setIfInBounds_toArray, List.set_cons_zero, List.set_cons_succ]
                          refine heldTake (i := 6) (v := ?_) rfl (by kernel_rfl) (by kernel_rfl) (by kernel_rfl) (fun _ _ _ h => h) (Or.inl ⟨by rfl, ?_⟩) hHeld ?_
                          rotate_left
                          · (intro wq hSw; obtain ⟨-, -, e0, e12, e19, e20⟩ := hSw; go_simp; try with_reducible rfl)
                          try simp only [Act.put, List.setIfInBounds_toArray, List.set_cons_zero, List.set_cons_succ]
                          refine heldTake (i := 7) (v := ?_) rfl (by kernel_rfl) (by kernel_rfl) (by kernel_rfl) (fun _ _ _ h => h) (Or.inl ⟨by rfl, ?_⟩) hHeld ?_
                          rotate_left
                          · (intro wq hSw; obtain ⟨-, -, e0, e12, e19, e20⟩ := hSw; go_simp; try with_reducible rfl)
                          try simp only [Act.put, List.setIfInBounds_toArray, List.set_cons_zero, List.set_cons_succ]
                          refine heldTake (i := 8) (v := ?_) rfl (by kernel_rfl) (by kernel_rfl) (by kernel_rfl) (fun _ _ _ h => h) (Or.inl ⟨by rfl, ?_⟩) hHeld ?_
                          rotate_left
                          · (intro wq hSw; obtain ⟨-, -, e0, e12, e19, e20⟩ := hSw; go_simp; try with_reducible rfl)
                          try simp only [Act.put, List.setIfInBounds_toArray, List.set_cons_zero, List.set_cons_succ]
                          refine heldTake (i := 9) (v := ?_) rfl (by kernel_rfl) (by kernel_rfl) (by kernel_rfl) (fun _ _ _ h => h) (Or.inl ⟨by rfl, ?_⟩) hHeld ?_
                          rotate_left
                          · (intro wq hSw; obtain ⟨-, -, e0, e12, e19, e20⟩ := hSw; go_simp; try with_reducible rfl)
                          try simp only [Act.put, List.setIfInBounds_toArray, List.set_cons_zero, List.set_cons_succ]
                          refine heldTake (i := 10) (v := ?_) rfl (by kernel_rfl) (by kernel_rfl) (by kernel_rfl) (fun _ _ _ h => h) (Or.inl ⟨by rfl, ?_⟩) hHeld ?_
                          rotate_left
                          · (intro wq hSw; obtain ⟨-, -, e0, e12, e19, e20⟩ := hSw; go_simp; try with_reducible rfl)
                          try simp only [Act.put, List.setIfInBounds_toArray, List.set_cons_zero, List.set_cons_succ]
                          refine heldTake (i := 11) (v := ?_) rfl (by kernel_rfl) (by kernel_rfl) (by kernel_rfl) (fun _ _ _ h => h) (Or.inl ⟨by rfl, ?_⟩) hHeld ?_
                          rotate_left
                          · (intro wq hSw; obtain ⟨-, -, e0, e12, e19, e20⟩ := hSw; go_simp; try with_reducible rfl)
                          try simp only [Act.put, List.setIfInBounds_toArray, List.set_cons_zero, List.set_cons_succ]
                          refine heldTake (i := 12) (v := ?_) rfl (by kernel_rfl) (by kernel_rfl) (by kernel_rfl) (fun _ _ _ h => h) (Or.inl ⟨by rfl, ?_⟩) hHeld ?_
                          rotate_left
                          · (intro wq hSw; obtain ⟨-, -, e0, e12, e19, e20⟩ := hSw; go_simp; try with_reducible rfl)
                          try simp only [Act.put, List.setIfInBounds_toArray, List.set_cons_zero, List.set_cons_succ]
                          refine heldTake (i := 13) (v := ?_) rfl (by kernel_rfl) (by kernel_rfl) (by kernel_rfl) (fun _ _ _ h => h) (Or.inl ⟨by rfl, ?_⟩) hHeld ?_
                          rotate_left
                          · (intro wq hSw; obtain ⟨-, -, e0, e12, e19, e20⟩ := hSw; go_simp; try with_reducible rfl)
                          try simp only [Act.put, List.setIfInBounds_toArray, List.set_cons_zero, List.set_cons_succ]
                          refine wpAnyH_ready (rs := [14]) (by kernel_rfl) (by simp) (heldCons rfl (fun K hK => ?_) AllReadyH.nil)
                          go_simp
                          refine (Grd.widthOf_to s.last _ _ rfl).mono ?_
                          rintro e V1 ⟨rfl, b1⟩
                          go_wp2_with fail
                          refine hK.out _ _ (next13 hHeld b1) (fun hHeld2 => ?_)
                          clear hK K hHeld
                          have hHeld := hHeld2
                          clear hHeld2
                          try simp only [Act.put, List.setIfInBounds_toArray, List.set_cons_zero, List.set_cons_succ]
                          refine heldTake (i := 15) (v := ?_) rfl (by kernel_rfl) (by kernel_rfl) (by kernel_rfl) (fun _ _ _ h => h) (Or.inl ⟨by rfl, ?_⟩) hHeld ?_
                          rotate_left
                          · (intro wq hSw; obtain ⟨-, -, e0, e12, e19, e20⟩ := hSw; go_simp; try with_reducible rfl)
                          try simp only [Act.put, List.setIfInBounds_toArray, List.set_cons_zero, List.set_cons_succ]
                          refine heldTake (i := 16) (v := ?_) rfl (by kernel_rfl) (by kernel_rfl) (by kernel_rfl) (fun _ _ _ h => h) (Or.inl ⟨by rfl, ?_⟩) hHeld ?_
                          rotate_left
                          · (intro wq hSw; obtain ⟨-, -, e0, e12, e19, e20⟩ := hSw; go_simp; try with_reducible rfl)
                          try simp only [Act.put, List.setIfInBounds_toArray, List.set_cons_zero, List.set_cons_succ]
                          refine heldTake (i := 17) (v := ?_) rfl (by kernel_rfl) (by kernel_rfl) (by kernel_rfl) (fun _ _ _ h => h) (Or.inl ⟨by rfl, ?_⟩) hHeld ?_
                          rotate_left
                          · (intro wq hSw; obtain ⟨-, -, e0, e12, e19, e20⟩ := hSw; go_simp; try with_reducible rfl)
                          try simp only [Act.put, List.setIfInBounds_toArray, List.set_cons_zero, List.set_cons_succ]
                          refine heldTake (i := 18) (v := ?_) rfl (by kernel_rfl) (by kernel_rfl) (by kernel_rfl) (fun _ _ _ h => h) (Or.inl ⟨by rfl, ?_⟩) hHeld ?_
                          rotate_left
                          · (intro wq hSw; obtain ⟨-, -, e0, e12, e19, e20⟩ := hSw; go_simp; try with_reducible rfl)
                          try simp only [Act.put, List.setIfInBounds_toArray, List.set_cons_zero, List.set_cons_succ]
                          refine heldTake (i := 19) (v := ?_) rfl (by kernel_rfl) (by kernel_rfl) (by kernel_rfl) (fun _ _ _ h => h) (Or.inl ⟨by rfl, ?_⟩) hHeld ?_
                          rotate_left
                          · (intro wq hSw; obtain ⟨-, -, e0, e12, e19, e20⟩ := hSw; go_simp; try with_reducible rfl)
                          try simp only [Act.put, List.setIfInBounds_toArray, List.set_cons_zero, List.set_cons_succ]
                          refine heldTake (i := 20) (v := ?_) rfl (by kernel_rfl) (by kernel_rfl) (by kernel_rfl) (fun _ _ _ h => h) (Or.inl ⟨by rfl, ?_⟩) hHeld ?_
                          rotate_left
                          · (intro wq hSw; obtain ⟨-, -, e0, e12, e19, e20⟩ := hSw; go_simp; try with_reducible rfl)
                          try simp only [Act.put, List.setIfInBounds_toArray, List.set_cons_zero, List.set_cons_succ]
                          refine heldTake (i := 22) (v := ?_) rfl (by kernel_rfl) (by kernel_rfl) (by kernel_rfl) (fun _ _ _ h => h) (Or.inl ⟨by rfl, ?_⟩) hHeld ?_
                          rotate_left
                          · (intro wq hSw; obtain ⟨-, -, e0, e12, e19, e20⟩ := hSw; go_simp; try with_reducible rfl)
                          try simp only [Act.put, List.setIfInBounds_toArray, List.set_cons_zero, List.set_cons_succ]
                          refine heldTake (i := 23) (v := ?_) rfl (by kernel_rfl) (by kernel_rfl) (by kernel_rfl) (fun _ _ _ h => h) (Or.inl ⟨by rfl, ?_⟩) hHeld ?_
                          rotate_left
                          · (intro wq hSw; obtain ⟨-, -, e0, e12, e19, e20⟩ := hSw; go_simp; try with_reducible rfl)
                          try simp only [Act.put, List.setIfInBounds_toArray, List.set_cons_zero, List.set_cons_succ]
                          refine wpAnyH_ready (rs := [21]) (by kernel_rfl) (by simp) (heldCons rfl (fun K hK => ?_) AllReadyH.nil)
                          go_simp
                          refine (HCU.out _).mono ?_
                          rintro e V2 ⟨rfl, b2⟩
                          go_wp2_with fail
                          refine hK.out _ _ (next13 hHeld b2) (fun hHeld2 => ?_)
                          clear hK K hHeld
                          have hHeld := hHeld2
                          clear hHeld2
                          try simp only [Act.put, List.setIfInBounds_toArray, List.set_cons_zero, List.set_cons_succ]
                          refine heldTake (i := 24) (v := ?_) rfl (by kernel_rfl) (by kernel_rfl) (by kernel_rfl) (fun _ _ _ h => h) (Or.inl ⟨by rfl, ?_⟩) hHeld ?_
                          rotate_left
                          · (intro wq hSw; obtain ⟨-, -, e0, e12, e19, e20⟩ := hSw; go_simp; try with_reducible rfl)
                          try simp only [Act.put, List.setIfInBounds_toArray, List.set_cons_zero, List.set_cons_succ]
                          refine heldTake (i := 25) (v := ?_) rfl (by kernel_rfl) (by kernel_rfl) (by kernel_rfl) (fun _ _ _ h => h) (Or.inl ⟨by rfl, ?_⟩) hHeld ?_
                          rotate_left
                          · (intro wq hSw; obtain ⟨-, -, e0, e12, e19, e20⟩ := hSw; go_simp; try with_reducible rfl)
                          try simp only [Act.put, List.setIfInBounds_toArray, List.set_cons_zero, List.set_cons_succ]
                          refine heldTake (i := 26) (v := ?_) rfl (by kernel_rfl) (by kernel_rfl) (by kernel_rfl) (fun _ _ _ h => h) (Or.inl ⟨by rfl, ?_⟩) hHeld ?_
                          rotate_left
                          · (intro wq hSw; obtain ⟨-, -, e0, e12, e19, e20⟩ := hSw; go_simp; try with_reducible rfl)
                          try simp only [Act.put, List.setIfInBounds_toArray, List.set_cons_zero, List.set_cons_succ]
                          refine heldTake (i := 27) (v := ?_) rfl (by kernel_rfl) (by kernel_rfl) (by kernel_rfl) (fun _ _ _ h => h) (Or.inl ⟨by rfl, ?_⟩) hHeld ?_
                          rotate_left
                          · (intro wq hSw; obtain ⟨-, -, e0, e12, e19, e20⟩ := hSw; go_simp; try with_reducible rfl)
                          try simp only [Act.put, List.setIfInBounds_toArray, List.set_cons_zero, List.set_cons_succ]
                          refine heldTake (i := 28) (v := ?_) rfl (by kernel_rfl) (by kernel_rfl) (by kernel_rfl) (fun _ _ _ h => h) (Or.inl ⟨by rfl, ?_⟩) hHeld ?_
                          rotate_left
                          · (intro wq hSw; obtain ⟨-, -, e0, e12, e19, e20⟩ := hSw; go_simp; try with_reducible rfl)
                          try simp only [Act.put, List.setIfInBounds_toArray, List.set_cons_zero, List.set_cons_succ]
                          refine wpAnyH_ready (rs := [29]) (by kernel_rfl) (by simp) (heldCons rfl (fun K hK => ?_) AllReadyH.nil)
                          go_simp
                          refine hK.out _ _ (next13 hHeld (below_runesW _ _)) (fun hHeld2 => ?_)
                          clear hK K hHeld
                          have hHeld := hHeld2
                          clear hHeld2
                          try simp only [Act.put, List.setIfInBounds_toArray, List.set_cons_zero, List.set_cons_succ]
                          refine heldTake (i := 30) (v := ?_) rfl (by kernel_rfl) (by kernel_rfl) (by kernel_rfl) (fun _ _ _ h => h) (Or.inl ⟨by rfl, ?_⟩) hHeld ?_
                          rotate_left
                          · (intro wq hSw; obtain ⟨-, -, e0, e12, e19, e20⟩ := hSw; go_simp; try with_reducible rfl)
                          try simp only [Act.put, List.setIfInBounds_toArray, List.set_cons_zero, List.set_cons_succ]
                          refine heldTake (i := 31) (v := ?_) rfl (by kernel_rfl) (by kernel_rfl) (by kernel_rfl) (fun _ _ _ h => h) (Or.inl ⟨by rfl, ?_⟩) hHeld ?_
                          rotate_left
                          · (intro wq hSw; obtain ⟨-, -, e0, e12, e19, e20⟩ := hSw; go_simp; try with_reducible rfl)
                          try simp only [Act.put, List.setIfInBounds_toArray, List.set_cons_zero, List.set_cons_succ]
                          refine heldTake (i := 32) (v := ?_) rfl (by kernel_rfl) (by kernel_rfl) (by kernel_rfl) (fun _ _ _ h => h) (Or.inl ⟨by rfl, ?_⟩) hHeld ?_
                          rotate_left
                          · (intro wq hSw; obtain ⟨-, -, e0, e12, e19, e20⟩ := hSw; go_simp; try with_reducible rfl)
                          try simp only [Act.put, List.setIfInBounds_toArray, List.set_cons_zero, List.set_cons_succ]
                          refine wpAnyH_done (by kernel_rfl) ?_ _
                          all_goals clear hst
                          all_goals go_wp2_with fail
                          all_goals go_meet
                          all_goals refine fin13 (by assumption) ?_
                          all_goals (rw [HRB.out]; refine congrArg Value.bool ?_; rw [Bool.eq_iff_iff]; simp; try omega)
                  case rest =>
                    obtain ⟨rfl, hBw, hXw⟩ := hcut
                    cases h6 : restOk s with
                    | false =>
                      have HR : Hid (5 = res) := by
                        unfold Hid
                        rw [← HC.out]
                        simp [scrErr, HZ.out, HP.out, HLT.out, HLK.out, h6]
                      go_wp2_with fail
                      go_ret
                      exact ⟨ret_int HR.out, hBw⟩
                    | true =>
                      have HRS : Hid (restOk s = true) := h6
                      have HB9 : Hid (Below w.heap.size w wc) := hBw
                      have HX9 : Hid (wc.heap[w.heap.size]? = _) := hXw
                      clear h6 hBw hXw
                      obtain ⟨⟨c0, c1, c2, c3, c4, c5, c6, c7, c8, c9, c10⟩, ⟨c11, c12, c13, c14, c15, c16, c17, c18, c19, c20, c21⟩, -⟩ := scr_cells HX9.out
                      by_cases g50 : 50 < s.gone.length
                      · have g51 : (50 : Int) < (s.gone.length : Int) := by omega
                        have HR : Hid (2 = res) := by
                          unfold Hid
                          rw [← HC.out]
                          simp [scrErr, HZ.out, HP.out, HLT.out, HLK.out, HRS.out, goneErr, g50]
                        go_wp2_with fail
                        go_ret
                        exact ⟨ret_int HR.out, HB9.out⟩
                      · have g51 : ¬ (50 : Int) < (s.gone.length : Int) := by omega
                        have HE : Hid (res = if goneBad s.gone then 5 else 0) := by
                          unfold Hid
                          rw [← HC.out]
                          simp [scrErr, HZ.out, HP.out, HLT.out, HLK.out, HRS.out, goneErr, g50]
                        go_wp2_with fail
                        clear c0 c1 c2 c3 c4 c5 c6 c7 c8 c9 c10 c11 c12 c13 c14 c15 c16 c17 c18 c19 c20 c21
                        go_loopg [161] s.gone.length (fun q i wr => ∃ k : Nat, k ≤ s.gone.length ∧ s.gone.length - k ≤ q ∧ i = .int .i64 k ∧ Below w.heap.size w wr ∧ goneBad (s.gone.drop k) = goneBad s.gone)
                        case atStart => exact ⟨0, by omega, by omega, rfl, HB9.out, rfl⟩
                        case round =>
                          obtain ⟨k, hk, hq, rfl, hb, hg⟩ := hrel
                          have HB : Hid (Below w.heap.size w wr) := hb
                          have HGB : Hid (goneBad (s.gone.drop k) = goneBad s.gone) := hg
                          clear hb hg
                          by_cases hlt : k < s.gone.length
                          · have lt1 : ((k : Int) < (s.gone.length : Int)) := by omega
                            rcases HV.out.g with ⟨he, -⟩ | ⟨b, o, c, hvv, -, -, hc⟩
                            · rw [he] at hlt
                              exact absurd hlt (by simp)
                            injection hvv with hvv1 hvv2 hvv3
                            subst hvv1 hvv3
                            obtain ⟨rv, hc1, hS⟩ := hc k hlt
                            have q0 := cell_stay HB.out hc1
                            have HCR := checkRow_any (s.gone.getD k []) rv wr (hS.below HB.out)
                            have HD : Hid (goneBad s.gone = (!decide (gridErr (s.gone.getD k []).length 1 (s.gone.getD k []) = 0) || goneBad (s.gone.drop (k + 1)))) := by
                              unfold Hid
                              rw [← HGB.out]
                              exact any_drop _ s.gone k hlt []
                            generalize s.gone.getD k [] = row at *
                            obtain ⟨ra, rc, hrv⟩ := hS.shape
                            subst hrv
                            clear hc hc1 hS
                            cases hz : decide (gridErr row.length 1 row = 0) with
                            | true =>
                              rw [hz] at HCR HD
                              go_wp2_with fail
                              refine HCR.mono ?_
                              rintro e V1 ⟨rfl, b1⟩
                              clear HCR
                              go_wp2_with fail
                              go_roundg (s.gone.length - (k + 1))
                              case measure => omega
                              case rel => exact ⟨k + 1, by omega, by omega, by go_num, HB.out.trans (b1.mono HB.out.size), by rw [HD.out]; rfl⟩
                            | false =>
                              rw [hz] at HCR HD
                              go_wp2_with fail
                              refine HCR.mono ?_
                              rintro e V1 ⟨rfl, b1⟩
                              clear HCR
                              go_wp2_with fail
                              go_ret
                              exact ⟨ret_int (by rw [HE.out, HD.out]; rfl), HB.out.trans (b1.mono HB.out.size)⟩
                          · have lt1 : ¬ ((k : Int) < (s.gone.length : Int)) := by omega
                            have HD2 : Hid (goneBad s.gone = false) := by
                              unfold Hid
                              rw [← HGB.out, List.drop_eq_nil_of_le (by omega)]
                              rfl
                            go_wp2_with fail
                            go_ret
                            exact ⟨ret_int (by rw [HE.out, HD2.out]; rfl), HB.out⟩
end Put
end Go.Proofs.YtnkeahfcpbepjaaGreatDoor

/- Plain mathematics: what is clean stays so. Encoding a rune and decoding it again gives the rune. No program is named. -/
namespace Go.Proofs.YtnkeahfcpbepjaaGreatDoor
namespace Txt
/-- A rune that can be encoded. -/
def okRune (r : Int) : Prop := (0 ≤ r ∧ r < 55296) ∨ (57343 < r ∧ r ≤ 1114111)
theorem decN_ok (n b0 b1 b2 b3 : Nat) : okRune (Lib.decodeN n b0 b1 b2 b3).1 := by
  unfold okRune Lib.decodeN
  repeat' split
  all_goals simp
  all_goals omega
theorem dec_ok (l : List UInt8) : okRune (dec l).1 := decN_ok _ _ _ _ _
theorem decN_two (n c b2 b3 : Nat) (hn : 2 ≤ n) (h0 : 128 ≤ c) (h1 : c ≤ 2047) : Lib.decodeN n (192 + c / 64) (128 + c % 64) b2 b3 = (c, 2) := by
  unfold Lib.decodeN
  rw [if_neg (by omega), if_pos ⟨by omega, by omega, by omega⟩, if_pos (by omega)]
  congr 1; omega
theorem decN_three (n c b3 : Nat) (hn : 3 ≤ n) (h : (2048 ≤ c ∧ c < 55296) ∨ (57343 < c ∧ c ≤ 65535)) : Lib.decodeN n (224 + c / 4096) (128 + c / 64 % 64) (128 + c % 64) b3 = (c, 3) := by
  unfold Lib.decodeN
  have e : (224 + c / 4096) % 16 * 4096 + (128 + c / 64 % 64) % 64 * 64 + (128 + c % 64) % 64 = c := by omega
  rw [if_neg (by omega), if_neg (by omega), if_pos ⟨by omega, ⟨by omega, by omega⟩, by omega, by omega⟩, e, if_pos (by omega)]
theorem decN_four (n c : Nat) (hn : 4 ≤ n) (h0 : 65536 ≤ c) (h1 : c ≤ 1114111) : Lib.decodeN n (240 + c / 262144) (128 + c / 4096 % 64) (128 + c / 64 % 64) (128 + c % 64) = (c, 4) := by
  unfold Lib.decodeN
  have e : (240 + c / 262144) % 8 * 262144 + (128 + c / 4096 % 64) % 64 * 4096 + (128 + c / 64 % 64) % 64 * 64 + (128 + c % 64) % 64 = c := by omega
  rw [if_neg (by omega), if_neg (by omega), if_neg (by omega), if_pos ⟨by omega, ⟨by omega, by omega⟩, ⟨by omega, by omega⟩, by omega, by omega⟩, e, if_pos (by omega)]
theorem byte_toNat (n : Nat) (h : n < 256) : (n.toUInt8).toNat = n := by
  rw [Nat.toUInt8, UInt8.toNat_ofNat']; omega
/-- Encoding, then decoding. -/
theorem dec_encode (r : Int) (h : okRune r) (b : List UInt8) : dec (Lib.encodeRune r ++ b) = (r.toNat, (Lib.encodeRune r).length) := by
  obtain ⟨c, rfl⟩ := Int.eq_ofNat_of_zero_le (show 0 ≤ r by unfold okRune at h; omega)
  unfold okRune at h
  unfold Lib.encodeRune
  by_cases h1 : c ≤ 127
  · rw [Lib.encodeRuneZ_one (by omega) (by omega)]
    simp only [List.map_cons, List.map_nil, List.cons_append, List.nil_append, dec, List.getD_cons_zero, Int.toNat_natCast, byte_toNat c (by omega)]
    rw [decN_ascii _ _ _ _ _ (by omega)]
    rfl
  · by_cases h2 : c ≤ 2047
    · rw [Lib.encodeRuneZ_two (by omega) (by omega)]
      simp only [List.map_cons, List.map_nil, List.cons_append, List.nil_append, dec, List.getD_cons_zero, List.getD_cons_succ, Int.toNat_natCast]
      rw [show (192 + (c : Int) / 64).toNat = 192 + c / 64 by omega, show (128 + (c : Int) % 64).toNat = 128 + c % 64 by omega, byte_toNat _ (by omega), byte_toNat _ (by omega)]
      exact decN_two _ c _ _ (by simp) (by omega) (by omega)
    · by_cases h3 : c ≤ 65535
      · rw [Lib.encodeRuneZ_three (by omega)]
        simp only [List.map_cons, List.map_nil, List.cons_append, List.nil_append, dec, List.getD_cons_zero, List.getD_cons_succ, Int.toNat_natCast]
        rw [show (224 + (c : Int) / 4096).toNat = 224 + c / 4096 by omega, show (128 + (c : Int) / 64 % 64).toNat = 128 + c / 64 % 64 by omega, show (128 + (c : Int) % 64).toNat = 128 + c % 64 by omega, byte_toNat _ (by omega), byte_toNat _ (by omega), byte_toNat _ (by omega)]
        exact decN_three _ c _ (by simp) (by omega)
      · rw [Lib.encodeRuneZ_four (by omega) (by omega)]
        simp only [List.map_cons, List.map_nil, List.cons_append, List.nil_append, dec, List.getD_cons_zero, List.getD_cons_succ, Int.toNat_natCast]
        rw [show (240 + (c : Int) / 262144).toNat = 240 + c / 262144 by omega, show (128 + (c : Int) / 4096 % 64).toNat = 128 + c / 4096 % 64 by omega, show (128 + (c : Int) / 64 % 64).toNat = 128 + c / 64 % 64 by omega, show (128 + (c : Int) % 64).toNat = 128 + c % 64 by omega, byte_toNat _ (by omega), byte_toNat _ (by omega), byte_toNat _ (by omega), byte_toNat _ (by omega)]
        exact decN_four _ c (by simp) (by omega) (by omega)
theorem encode_ne (r : Int) : Lib.encodeRune r ≠ [] := by
  intro e
  have := Lib.encodeRuneZ_length r
  have h := congrArg List.length e
  simp only [Lib.encodeRune, List.length_map, List.length_nil] at h
  omega
theorem rn_encode (r : Int) (h : okRune r) (b : List UInt8) : rn (Lib.encodeRune r ++ b) = (r, (Lib.encodeRune r).length) :: rn b := by
  rw [rn_cons _ (by simp [encode_ne]), dec_encode r h b]
  have h0 : 0 ≤ r := by unfold okRune at h; omega
  simp only [List.drop_left, Int.toNat_of_nonneg h0]
/-- The runes of a list of bytes can all be encoded. -/
theorem rl_ok : ∀ (f : Nat) (l : List UInt8), ∀ x ∈ rl f l, okRune x.1
  | 0, _, x, hx => by simp [rl] at hx
  | f + 1, l, x, hx => by
    by_cases hl : l = []
    · subst hl; rw [rl_nil] at hx; cases hx
    · rw [rl_cons f l hl] at hx
      rcases List.mem_cons.1 hx with rfl | hx
      · exact dec_ok l
      · exact rl_ok f _ x hx
end Txt
end Go.Proofs.YtnkeahfcpbepjaaGreatDoor

/- (*sheet.Sheet).Write: a rune over the cells from X on. (Written by gen_sheetover.py.) -/
namespace Go.Proofs.YtnkeahfcpbepjaaGreatDoor
open Go.ChangeShapes Go.WideShapes Go.ChangeAt Go.RowKit
namespace Put
open Grd (C SliceAt CellsAt gridErr z0 nilV flat rowsL OwnG RowB)
open Sty (isSt)
open Txt (wd)
theorem wd_ok (r : Int) (h : wd r ≠ 0) : Txt.okRune r := by
  unfold Txt.okRune
  by_cases h0 : r < 0 ∨ 1114111 < r
  · exact absurd (by unfold wd; rw [if_pos h0]) h
  · by_cases h1 : 55296 ≤ r ∧ r ≤ 57343
    · refine absurd ?_ h
      unfold wd
      rw [if_neg h0]
      unfold Txt.spans
      simp only [Txt.look]
      repeat' split
      all_goals first | rfl | omega
    · omega
/-- A row with one rune written into it. -/
def putRune (look : Int × Int × Int) (row : List C) (x : Nat) (r : Int) : List C := Grd.mendL (Grd.writeOne look row x r)
theorem putRune_len (look : Int × Int × Int) (row : List C) (x : Nat) (r : Int) : (putRune look row x r).length = row.length := by
  unfold putRune
  rw [Grd.mendL_len, Grd.writeOne_len]
theorem ShA.style {t : TypeId} {W : World} {M N p : Nat} {s : Scr} {rows : List (List C)} {cv tv gv rv : Value} {gvs vs : List Value} (h : ShA t W M N p s rows cv tv gv rv gvs vs) : W.cell? ⟨p, 6, none⟩ = some (.int .i64 s.sf) ∧ W.cell? ⟨p, 7, none⟩ = some (.int .i64 s.sb) ∧ W.cell? ⟨p, 8, none⟩ = some (.int .i64 s.sx) ∧ W.cell? ⟨p, 3, none⟩ = some (.int .i64 s.x) := by
  obtain ⟨⟨-, -, -, c3, -, -, c6, c7, c8, -⟩, -, -⟩ := sh_cells h.blk
  exact ⟨c6, c7, c8, c3⟩
/-- The cells of a rune. -/
def cellsW (look : Int × Int × Int) (r : Int) : List C := if wd r = 2 then [(r, look), (0, look)] else [(r, look)]
theorem writeOne_ov (look : Int × Int × Int) (row : List C) (x k : Nat) (r : Int) (hk : wd r = (k : Int)) (hk1 : k = 1 ∨ k = 2) (hx : x + k ≤ row.length) : Grd.writeOne look row x r = ovR row (cellsW look r) x (x + k) ∧ (cellsW look r).length = k := by
  rcases hk1 with rfl | rfl
  · have hc : cellsW look r = [(r, look)] := by unfold cellsW; rw [if_neg (by rw [hk]; decide)]
    have hw : Grd.writeOne look row x r = row.set x (r, look) := by unfold Grd.writeOne; rw [if_neg (by rw [hk]; decide), if_neg (by rw [hk]; decide)]
    rw [hc, hw]
    refine ⟨Grd.ext_getD _ _ (by rw [List.length_set, ovR_len row [(r, look)] x (x + 1) rfl hx]) fun j hj => ?_, rfl⟩
    rw [List.length_set] at hj
    rw [ovR_at row [(r, look)] x (x + 1) rfl hx, Grd.getD_set _ _ _ _ (by omega)]
    by_cases h1 : j < x
    · rw [if_neg (by omega), if_pos h1]
    · rw [if_neg h1]
      by_cases h2 : j = x
      · subst h2
        rw [if_pos rfl, if_pos (by omega), Nat.sub_self]
        rfl
      · rw [if_neg h2, if_neg (by omega)]
  · have hc : cellsW look r = [(r, look), (0, look)] := by unfold cellsW; rw [if_pos (by rw [hk]; decide)]
    have hw : Grd.writeOne look row x r = (row.set x (r, look)).set (x + 1) (0, look) := by unfold Grd.writeOne; rw [if_neg (by rw [hk]; decide), if_pos (by rw [hk]; decide)]
    rw [hc, hw]
    refine ⟨Grd.ext_getD _ _ (by rw [List.length_set, List.length_set, ovR_len row [(r, look), (0, look)] x (x + 2) rfl hx]) fun j hj => ?_, rfl⟩
    rw [List.length_set, List.length_set] at hj
    rw [ovR_at row [(r, look), (0, look)] x (x + 2) rfl hx, Grd.getD_set _ _ _ _ (by rw [List.length_set]; omega), Grd.getD_set _ _ _ _ (by omega)]
    by_cases h1 : j < x
    · rw [if_neg (by omega), if_neg (by omega), if_pos h1]
    · rw [if_neg h1]
      by_cases h2 : j = x
      · subst h2
        rw [if_neg (by omega), if_pos rfl, if_pos (by omega), Nat.sub_self]
        rfl
      · by_cases h3 : j = x + 1
        · subst h3
          rw [if_pos rfl, if_pos (by omega), show x + 1 - x = 1 by omega]
          rfl
        · rw [if_neg h3, if_neg h2, if_neg (by omega)]
theorem wd_one_two (r : Int) (h : wd r ≠ 0) : ∃ k : Nat, wd r = (k : Int) ∧ (k = 1 ∨ k = 2) := by
  have h1 := Grd.wd_nonneg r
  have h2 := (Txt.wd_range r).2
  refine ⟨(wd r).toNat, by omega, by omega⟩
set_option linter.unusedVariables false in
set_option maxHeartbeats 8000000 in
set_option maxRecDepth 100000 in
theorem write1_in (W : World) (p Bp Bc rb ro c x k g : Nat) (row mid : List C) (hp : W.cell? ⟨Bp, 0, none⟩ = some (.pointer (some ⟨p, 0, none⟩))) (hx : W.cell? ⟨p, 3, none⟩ = some (.int .i64 (x : Int))) (hBc : W.cell? ⟨Bc, 0, none⟩ = some (.slice (some ⟨g, 0, none⟩) k 2)) (hM : CellsAt W g 0 mid) (hk : mid.length = k) (hC : CellsAt W rb ro row) (hc : row.length ≤ c) (hxk : x + k ≤ row.length) (hk1 : 1 ≤ k) (hl : row.length ≤ 120) (hcc : (x + k) < c) :
    Calls Tryz.prog 139 #[.slice (some ⟨rb, ro, none⟩) row.length c, .pointer (some ⟨Bp, 0, none⟩), .pointer (some ⟨Bc, 0, none⟩)] W fun e W' => ∃ v', e = .returned v' ∧ W'.ownsRow W.heap.size 91 4 v' row.length (flat (ovR row mid x (x + k))) ∧ Below W.heap.size W W' := by
  have SK : Hid (∀ V, Below W.heap.size W V → V.cell? ⟨Bp, 0, none⟩ = some (.pointer (some ⟨p, 0, none⟩)) ∧ V.cell? ⟨p, 3, none⟩ = some (.int .i64 (x : Int)) ∧ V.cell? ⟨Bc, 0, none⟩ = some (.slice (some ⟨g, 0, none⟩) k 2)) := fun V h => ⟨cell_stay h hp, cell_stay h hx, cell_stay h hBc⟩
  have hwr : IntKind.i64.wrap ((x : Int) + (k : Int)) = (x : Int) + (k : Int) := wrap_id _ (by omega) (by omega)
  have HMC : Hid (CellsAt W g 0 mid) := hM
  have HCC : Hid (CellsAt W rb ro row) := hC
  obtain ⟨L, hL⟩ : ∃ L, L = row.length := ⟨_, rfl⟩
  obtain ⟨m, hm⟩ : ∃ m, m = L - (x + k) := ⟨_, rfl⟩
  have HCN : Hid (∀ (V : World), Below W.heap.size W V → Calls Tryz.prog 97 #[.slice (some ⟨V.heap.size, 0, none⟩) 3 3] (V.alloc (.cells #[.slice (some ⟨rb, ro, none⟩) x c, .slice (some ⟨g, 0, none⟩) k 2, .slice (some ⟨rb, ro + (x + k) * 4, none⟩) m (c - (x + k))] 22)) fun e w' => ∃ v', e = .returned v' ∧ w'.ownsRow (V.alloc (.cells #[.slice (some ⟨rb, ro, none⟩) x c, .slice (some ⟨g, 0, none⟩) k 2, .slice (some ⟨rb, ro + (x + k) * 4, none⟩) m (c - (x + k))] 22)).heap.size 91 4 v' L (flat (ovR row mid x (x + k))) ∧ Below (V.alloc (.cells #[.slice (some ⟨rb, ro, none⟩) x c, .slice (some ⟨g, 0, none⟩) k 2, .slice (some ⟨rb, ro + (x + k) * 4, none⟩) m (c - (x + k))] 22)).heap.size (V.alloc (.cells #[.slice (some ⟨rb, ro, none⟩) x c, .slice (some ⟨g, 0, none⟩) k 2, .slice (some ⟨rb, ro + (x + k) * 4, none⟩) m (c - (x + k))] 22)) w') := fun V hV => by
    have key := over3 V rb ro g 0 c x (x + k) k 2 L row mid (HCC.out.below hV) (HMC.out.below hV) hk rfl hL.symm (by omega) (by omega) (ro + (x + k) * 4) (c - (x + k)) (.inl rfl)
    rw [← hm] at key
    exact key
  have b0 : Below W.heap.size W W.drew := (Below.refl _ _).drew
  have hx1 : (x : Int) ≤ (c : Int) := by omega
  have hx2 : (x : Int) ≤ (L : Int) := by omega
  have hx3 : (x : Int) + (k : Int) ≤ (L : Int) := by omega
  have hx4 : (0 : Int) ≤ (x : Int) + (k : Int) := by omega
  have hx5 : ((x : Int) + (k : Int)).toNat = x + k := by omega
  have hcI : (x : Int) + (k : Int) < (c : Int) := by omega
  have hcN : ¬ c = (x + k) := by omega
  have hkk : L - (x + k) = m := hm.symm
  rw [← hL]
  clear hp hx hBc hM hk hC hc hxk hk1 hl hcc hL hm HCC HMC
  generalize ovR row mid x (x + k) = res at *
  go_enter Tryz.func139, Tryz.ntmps139
  go_upto_region 1 with fail
  have q2 := b0.alloc b0.size (.cells #[.slice (some ⟨rb, ro, none⟩) x c, .slice (some ⟨g, 0, none⟩) k 2, .slice (some ⟨rb, ro + (x + k) * 4, none⟩) m (c - (x + k))] 22)
  have HC1 := HCN.out W.drew b0
  go_region_held3 (fun w' => w'.cell? ⟨Bp, 0, none⟩ = some (.pointer (some ⟨p, 0, none⟩)) ∧ w'.cell? ⟨p, 3, none⟩ = some (.int .i64 (x : Int)) ∧ w'.cell? ⟨Bc, 0, none⟩ = some (.slice (some ⟨g, 0, none⟩) k 2))
    (first | exact SK.out _ q3 | exact SK.out _ q2 | exact SK.out _ b0)
    (first
      | (go_at_call 97; (try rw [hkk]); refine HC1.mono ?_; rintro e V2 ⟨v', rfl, hO, b2⟩; have q3 : Below W.heap.size W V2 := q2.trans (b2.mono q2.size); have HFI : Hid _ := And.intro (Grd.ownsRow_mono hO q2.size) q3; obtain ⟨za, zc, hzv⟩ := own_slice hO; subst hzv))
  all_goals go_wp2_with fail
  all_goals go_ret
  all_goals exact ⟨_, rfl, HFI.out.1, HFI.out.2⟩
set_option linter.unusedVariables false in
set_option maxHeartbeats 8000000 in
set_option maxRecDepth 100000 in
theorem write1_end (W : World) (p Bp Bc rb ro c x k g : Nat) (row mid : List C) (hp : W.cell? ⟨Bp, 0, none⟩ = some (.pointer (some ⟨p, 0, none⟩))) (hx : W.cell? ⟨p, 3, none⟩ = some (.int .i64 (x : Int))) (hBc : W.cell? ⟨Bc, 0, none⟩ = some (.slice (some ⟨g, 0, none⟩) k 2)) (hM : CellsAt W g 0 mid) (hk : mid.length = k) (hC : CellsAt W rb ro row) (hc : row.length ≤ c) (hxk : x + k ≤ row.length) (hk1 : 1 ≤ k) (hl : row.length ≤ 120) (hcc : ¬ (x + k) < c) :
    Calls Tryz.prog 139 #[.slice (some ⟨rb, ro, none⟩) row.length c, .pointer (some ⟨Bp, 0, none⟩), .pointer (some ⟨Bc, 0, none⟩)] W fun e W' => ∃ v', e = .returned v' ∧ W'.ownsRow W.heap.size 91 4 v' row.length (flat (ovR row mid x (x + k))) ∧ Below W.heap.size W W' := by
  have SK : Hid (∀ V, Below W.heap.size W V → V.cell? ⟨Bp, 0, none⟩ = some (.pointer (some ⟨p, 0, none⟩)) ∧ V.cell? ⟨p, 3, none⟩ = some (.int .i64 (x : Int)) ∧ V.cell? ⟨Bc, 0, none⟩ = some (.slice (some ⟨g, 0, none⟩) k 2)) := fun V h => ⟨cell_stay h hp, cell_stay h hx, cell_stay h hBc⟩
  have hwr : IntKind.i64.wrap ((x : Int) + (k : Int)) = (x : Int) + (k : Int) := wrap_id _ (by omega) (by omega)
  have HMC : Hid (CellsAt W g 0 mid) := hM
  have HCC : Hid (CellsAt W rb ro row) := hC
  obtain ⟨L, hL⟩ : ∃ L, L = row.length := ⟨_, rfl⟩
  have hbc : (x + k) = c := by omega
  have hbL : (x + k) = L := by omega
  subst hbc
  subst hbL
  have HCN : Hid (∀ (V : World), Below W.heap.size W V → Calls Tryz.prog 97 #[.slice (some ⟨V.heap.size, 0, none⟩) 3 3] (V.alloc (.cells #[.slice (some ⟨rb, ro, none⟩) x (x + k), .slice (some ⟨g, 0, none⟩) k 2, .slice (some ⟨rb, ro, none⟩) 0 0] 22)) fun e w' => ∃ v', e = .returned v' ∧ w'.ownsRow (V.alloc (.cells #[.slice (some ⟨rb, ro, none⟩) x (x + k), .slice (some ⟨g, 0, none⟩) k 2, .slice (some ⟨rb, ro, none⟩) 0 0] 22)).heap.size 91 4 v' (x + k) (flat (ovR row mid x (x + k))) ∧ Below (V.alloc (.cells #[.slice (some ⟨rb, ro, none⟩) x (x + k), .slice (some ⟨g, 0, none⟩) k 2, .slice (some ⟨rb, ro, none⟩) 0 0] 22)).heap.size (V.alloc (.cells #[.slice (some ⟨rb, ro, none⟩) x (x + k), .slice (some ⟨g, 0, none⟩) k 2, .slice (some ⟨rb, ro, none⟩) 0 0] 22)) w') := fun V hV => by
    have key := over3 V rb ro g 0 (x + k) x (x + k) k 2 (x + k) row mid (HCC.out.below hV) (HMC.out.below hV) hk rfl hL.symm (by omega) (by omega) ro 0 (.inr rfl)
    rw [Nat.sub_self] at key
    exact key
  have b0 : Below W.heap.size W W.drew := (Below.refl _ _).drew
  have hx1 : (x : Int) ≤ (x : Int) + (k : Int) := by omega
  have hx2 : (x : Int) ≤ (x : Int) + (k : Int) := by omega
  have hx3 : (x : Int) + (k : Int) ≤ (x : Int) + (k : Int) := by omega
  have hx4 : (0 : Int) ≤ (x : Int) + (k : Int) := by omega
  have hx5 : ((x : Int) + (k : Int)).toNat = x + k := by omega
  have hcI : ¬ (x : Int) + (k : Int) < (x : Int) + (k : Int) := by omega
  have hcN : (x + k) = (x + k) := rfl
  have hkk : (x + k) - (x + k) = 0 := Nat.sub_self _
  rw [← hL]
  clear hp hx hBc hM hk hC hc hxk hk1 hl hcc hL HCC HMC
  generalize ovR row mid x (x + k) = res at *
  go_enter Tryz.func139, Tryz.ntmps139
  go_upto_region 1 with fail
  have q2 := b0.alloc b0.size (.cells #[.slice (some ⟨rb, ro, none⟩) x (x + k), .slice (some ⟨g, 0, none⟩) k 2, .slice (some ⟨rb, ro, none⟩) 0 0] 22)
  have HC1 := HCN.out W.drew b0
  go_region_held3 (fun w' => w'.cell? ⟨Bp, 0, none⟩ = some (.pointer (some ⟨p, 0, none⟩)) ∧ w'.cell? ⟨p, 3, none⟩ = some (.int .i64 (x : Int)) ∧ w'.cell? ⟨Bc, 0, none⟩ = some (.slice (some ⟨g, 0, none⟩) k 2))
    (first | exact SK.out _ q3 | exact SK.out _ q2 | exact SK.out _ b0)
    (first
      | (go_at_call 97; (try rw [hkk]); refine HC1.mono ?_; rintro e V2 ⟨v', rfl, hO, b2⟩; have q3 : Below W.heap.size W V2 := q2.trans (b2.mono q2.size); have HFI : Hid _ := And.intro (Grd.ownsRow_mono hO q2.size) q3; obtain ⟨za, zc, hzv⟩ := own_slice hO; subst hzv))
  all_goals go_wp2_with fail
  all_goals go_ret
  all_goals exact ⟨_, rfl, HFI.out.1, HFI.out.2⟩
theorem write1_any (W : World) (p Bp Bc rb ro c x k g : Nat) (row mid : List C) (hp : W.cell? ⟨Bp, 0, none⟩ = some (.pointer (some ⟨p, 0, none⟩))) (hx : W.cell? ⟨p, 3, none⟩ = some (.int .i64 (x : Int))) (hBc : W.cell? ⟨Bc, 0, none⟩ = some (.slice (some ⟨g, 0, none⟩) k 2)) (hM : CellsAt W g 0 mid) (hk : mid.length = k) (hC : CellsAt W rb ro row) (hc : row.length ≤ c) (hxk : x + k ≤ row.length) (hk1 : 1 ≤ k) (hl : row.length ≤ 120) :
    Calls Tryz.prog 139 #[.slice (some ⟨rb, ro, none⟩) row.length c, .pointer (some ⟨Bp, 0, none⟩), .pointer (some ⟨Bc, 0, none⟩)] W fun e W' => ∃ v', e = .returned v' ∧ W'.ownsRow W.heap.size 91 4 v' row.length (flat (ovR row mid x (x + k))) ∧ Below W.heap.size W W' := by
  by_cases hcc : (x + k) < c
  · exact write1_in W p Bp Bc rb ro c x k g row mid hp hx hBc hM hk hC hc hxk hk1 hl hcc
  · exact write1_end W p Bp Bc rb ro c x k g row mid hp hx hBc hM hk hC hc hxk hk1 hl hcc
end Put
end Go.Proofs.YtnkeahfcpbepjaaGreatDoor
