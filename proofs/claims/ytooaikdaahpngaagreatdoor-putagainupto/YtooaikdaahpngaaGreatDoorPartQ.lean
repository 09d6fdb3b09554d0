/- The reference's CheckScreen.  -/
import Derived.Test.YtooaikdaahpngaaGreatDoorPartG
import Derived.Test.YtooaikdaahpngaaGreatDoorPartP
import Derived.Laws.IdiomStrings
import Derived.Lib.QuietBelow
import Derived.BigQuiet
import Derived.Deep.RegionWith
import Derived.Deep.RegionHeld3
import Derived.Deep.Cut
import Derived.Deep.CutRange
import Derived.Test.YtooaikdaahpngaaGreatDoorPartK
import Derived.Test.YtooaikdaahpngaaGreatDoorPartI
namespace Go.Proofs.YtooaikdaahpngaaGreatDoor
open Go.ChangeShapes Go.WideShapes Go.ChangeAt Go.RowKit Go.Sort
namespace Put
open Grd (C SliceAt CellsAt gridErr z0)
open Sty (isSt)
open Txt (wd)
/-- The world behind a text that was turned into runes. -/
def runesW (W : World) (t : ByteArray) : World := W.drew.alloc (.cells (Conv.runesFrom t t.size 0 #[] ++ Array.replicate (grownCap W (Conv.runesFrom t t.size 0 #[]).size 0 21 - (Conv.runesFrom t t.size 0 #[]).size) (.int .i32 0)) 21)
theorem runes_size (t : ByteArray) : ∀ (f i : Nat) (acc : Array Value), (Conv.runesFrom t f i acc).size = acc.size + Lib.runeCountFrom t f i
  | 0, _, acc => by simp [Conv.runesFrom, Lib.runeCountFrom]
  | f + 1, i, acc => by
    unfold Conv.runesFrom Lib.runeCountFrom
    split
    · rw [runes_size t f]
      simp
      omega
    · simp
theorem runes_conv (t : ByteArray) (ht : t.size ≤ 1048576) (W : World) : (convert 9 84 (.string t)).run Tryz.prog W = .ok (.slice (some ⟨W.heap.size, 0, none⟩) (Lib.runeCount t) (grownCap W (Conv.runesFrom t t.size 0 #[]).size 0 21)) (runesW W t) := by
  have hs : (Conv.runesFrom t t.size 0 #[]).size = Lib.runeCount t := by rw [runes_size]; simp [Lib.runeCount]
  have h := run_runes_of_string (P := Tryz.prog) W 9 84 21 t (by kernel_rfl) (by kernel_rfl) (by kernel_rfl) (by rw [hs]; have := Lib.runeCountFrom_le t t.size 0; unfold Lib.runeCount; omega)
  rw [h]
  unfold runesW
  rw [hs]
theorem below_runesW (W : World) (t : ByteArray) : Below W.heap.size W (runesW W t) := ((Below.refl _ W).drew).alloc (Nat.le_refl _) _
set_option maxHeartbeats 2000000 in
theorem within_any (a h x y : Int) (R : Nat) (W : World) (c0 : W.cell? ⟨R, 0, none⟩ = some (.int .i64 a)) (c1 : W.cell? ⟨R, 1, none⟩ = some (.int .i64 h)) : Calls Tryz.prog 53 #[.int .i64 x, .int .i64 y, .pointer (some ⟨R, 0, none⟩)] W fun e w' => e = .returned (.bool (hasC a h x y)) ∧ W = w' := by
  go_enter Tryz.func53, Tryz.ntmps53
  go_wp2
  all_goals (go_ret; refine ⟨ret_bool ?_, rfl⟩; clear c0 c1)
  all_goals (unfold hasC; rw [Bool.eq_iff_iff]; simp; try omega)
theorem checkRow_any (row : List C) (v : Value) (w : World) (hS : SliceAt w v row) : Calls Tryz.prog 56 #[v] w fun e w' => e = .returned (.bool (decide (gridErr row.length 1 row = 0))) ∧ Below w.heap.size w w' := by
  obtain ⟨ra, rc, hrv⟩ := hS.shape
  have H := Grd.ref_any (row.length : Int) 1 v row w hS
  subst hrv
  clear hS
  generalize gridErr row.length 1 row = ge at *
  go_enter Tryz.func56, Tryz.ntmps56
  go_wp2_with fail
  refine H.mono ?_
  rintro e W1 ⟨rfl, b1⟩
  go_wp2_with fail
  go_ret
  refine ⟨ret_bool ?_, b1⟩
  rw [Bool.eq_iff_iff]
  simp
theorem start13 {w W : World} {R : Nat} {t : TypeId} {s : Scr} {cv tv gv : Value} (hb : Below w.heap.size w W) (h : W.heap[R]? = some (.cells (scrA s cv tv gv) t (0, 0))) : Below w.heap.size w W ∧ W.heap[R]? = some (.cells (scrA s cv tv gv) t (0, 0)) ∧ W.cell? ⟨R, 0, none⟩ = some (.int .i64 s.w) ∧ W.cell? ⟨R, 12, none⟩ = some tv ∧ W.cell? ⟨R, 19, none⟩ = some (.int .i32 s.last) ∧ W.cell? ⟨R, 20, none⟩ = some (.string s.title) := by
  obtain ⟨⟨c0, -⟩, ⟨-, c12, -, -, -, -, -, -, c19, c20, -⟩, -⟩ := scr_cells h
  exact ⟨hb, h, c0, c12, c19, c20⟩
theorem next13 {w W V : World} {R : Nat} {t : TypeId} {s : Scr} {cv tv gv : Value} (h : Below w.heap.size w W ∧ W.heap[R]? = some (.cells (scrA s cv tv gv) t (0, 0)) ∧ W.cell? ⟨R, 0, none⟩ = some (.int .i64 s.w) ∧ W.cell? ⟨R, 12, none⟩ = some tv ∧ W.cell? ⟨R, 19, none⟩ = some (.int .i32 s.last) ∧ W.cell? ⟨R, 20, none⟩ = some (.string s.title)) (b : Below W.heap.size W V) : Below w.heap.size w V ∧ V.heap[R]? = some (.cells (scrA s cv tv gv) t (0, 0)) ∧ V.cell? ⟨R, 0, none⟩ = some (.int .i64 s.w) ∧ V.cell? ⟨R, 12, none⟩ = some tv ∧ V.cell? ⟨R, 19, none⟩ = some (.int .i32 s.last) ∧ V.cell? ⟨R, 20, none⟩ = some (.string s.title) :=
  start13 (h.1.trans (b.mono h.1.size)) (Grd.carry h.2.1 b)
theorem fin13 {w W : World} {R : Nat} {t : TypeId} {s : Scr} {cv tv gv c d : Value} (h : Below w.heap.size w W ∧ W.heap[R]? = some (.cells (scrA s cv tv gv) t (0, 0)) ∧ W.cell? ⟨R, 0, none⟩ = some (.int .i64 s.w) ∧ W.cell? ⟨R, 12, none⟩ = some tv ∧ W.cell? ⟨R, 19, none⟩ = some (.int .i32 s.last) ∧ W.cell? ⟨R, 20, none⟩ = some (.string s.title)) (e : c = d) : c = d ∧ Below w.heap.size w W ∧ W.heap[R]? = some (.cells (scrA s cv tv gv) t (0, 0)) := ⟨e, h.1, h.2.1⟩
/-- An operation of a region that draws, taken first: the operation itself is named by what is left of the list. -/
theorem heldTake {P : Program} {md : Region.Mode} {l : List Oper} {Q : Exit → Act → World → Prop} {S : World → Prop} {i : Nat} {oi : Oper} {rest : List Oper} {v : Value} {fuel : Nat} {listed : Array Bool} {a : Act} {w : World} (hi : l.drop i = oi :: rest)
    (hs : Region.noSelect l.toArray = true) (hf : Region.free md l.toArray listed i = true) (hr : (Region.ready md l.toArray listed).contains i = true)
    (hQ : ∀ c a w, Q (.panic c) (a.put oi.dst v) w → Q (.panic c) a w) (hy : YieldsIf P l.toArray S oi v a) (hS : S w)
    (h : wpAnyH P md l.toArray Q S fuel (listed.setIfInBounds i true) (a.put oi.dst v) w) : wpAnyH P md l.toArray Q S (fuel + 1) listed a w :=
  wpAnyH_take (by
    have h1 : l[i]? = some oi := by rw [← List.head?_drop, hi]; rfl
    simpa using h1) hs hf hr hQ hy hS h
theorem heldCons {P : Program} {md : Region.Mode} {l : List Oper} {Q : Exit → Act → World → Prop} {S : World → Prop} {fuel : Nat} {listed : Array Bool} {a : Act} {w : World} {i : Nat} {o : Oper} {rest : List Oper} {rs : List Nat} (hi : l.drop i = o :: rest)
    (h : ∀ K' : Act → World → Prop, Shut (∀ a w, S w → (S w → wpAnyH P md l.toArray Q S fuel (listed.setIfInBounds i true) a w) → K' a w) → if Region.wanted o (yielded l.toArray a.tmps) = true then Oper.wp P o a w K' Q else K' (a.put o.dst undef) w)
    (hs : AllReadyH P md l.toArray Q S fuel listed a w rs) : AllReadyH P md l.toArray Q S fuel listed a w (i :: rs) :=
  AllReadyH.cons (by
    have h1 : l[i]? = some o := by rw [← List.head?_drop, hi]; rfl
    simpa using h1) h hs
set_option linter.unusedSimpArgs false in
set_option maxHeartbeats 32000000 in
set_option maxRecDepth 100000 in
theorem checkScreen_any (s : Scr) (cv tv gv : Value) (w : World) (hV : ScrV w s cv tv gv) (hF : Fits s) :
    Calls Tryz.prog 21 #[.agg (scrA s cv tv gv)] w fun e w' => e = .returned (.int .i64 (scrErr s)) ∧ Below w.heap.size w w' := by
  obtain ⟨ca, cc, hcv⟩ := hV.c.shape
  obtain ⟨ta, tc, htv⟩ := hV.t.slice
  obtain ⟨ga, gc, hgv⟩ := hV.g.slice
  subst hcv htv hgv
  have x0 := heap_alloc_new w (.cells (scrA s (.slice ca s.cs.length cc) (.slice ta s.tabs.length tc) (.slice ga s.gone.length gc)) 32)
  have kb : Below w.heap.size w (w.alloc (.cells (scrA s (.slice ca s.cs.length cc) (.slice ta s.tabs.length tc) (.slice ga s.gone.length gc)) 32)) := (Below.refl _ _).alloc (Nat.le_refl _) _
  have HB0 : Hid _ := kb
  have HX0 : Hid _ := x0
  have HV : Hid (ScrV w s _ _ _) := hV
  have HF : Hid (Fits s) := hF
  obtain ⟨res, hres⟩ : ∃ res, scrErr s = res := ⟨_, rfl⟩
  rw [hres]
  have HC : Hid (scrErr s = res) := hres
  obtain ⟨⟨c0, c1, c2, c3, c4, c5, c6, c7, c8, c9, c10⟩, ⟨c11, c12, c13, c14, c15, c16, c17, c18, c19, c20, c21⟩, -⟩ := scr_cells x0
  have HGC := Grd.ref_any s.w s.h _ s.cs _ (HV.out.c.below HB0.out)
  clear x0 kb hV hF hres
  by_cases hz : gridErr s.w s.h s.cs = 0
  case neg =>
    have hzb : (gridErr s.w s.h s.cs != 0) = true := by simp [bne, hz]
    have HR : Hid (gridErr s.w s.h s.cs = res) := by
      unfold Hid
      rw [← HC.out]
      unfold scrErr
      rw [if_pos hz]
    clear hz
    generalize gridErr s.w s.h s.cs = ge at *
    go_enter Tryz.func21, Tryz.ntmps21
    go_wp2_with fail
    refine HGC.mono ?_
    rintro e W1 ⟨rfl, b⟩
    clear c0 c1 c2 c3 c4 c5 c6 c7 c8 c9 c10 c11 c12 c13 c14 c15 c16 c17 c18 c19 c20 c21
    go_wp2_with fail
    go_ret
    exact ⟨ret_int HR.out, HB0.out.trans (b.mono HB0.out.size)⟩
  obtain ⟨w1, w2, w3, w4⟩ := grid_size hz
  rw [hz] at HGC
  have HZ : Hid (gridErr s.w s.h s.cs = 0) := hz
  clear hz
  go_enter Tryz.func21, Tryz.ntmps21
  go_wp2_with fail
  refine HGC.mono ?_
  rintro e W1 ⟨rfl, b⟩
  have HX1 : Hid (W1.heap[w.heap.size]? = _) := Grd.carry HX0.out b
  have HB1 : Hid (Below w.heap.size w W1) := HB0.out.trans (b.mono HB0.out.size)
  clear c0 c1 c2 c3 c4 c5 c6 c7 c8 c9 c10 c11 c12 c13 c14 c15 c16 c17 c18 c19 c20 c21 b HGC
  go_upto_region 5 with fail
  go_cut [31] from 14 to 31 (fun c wx => c = .bool (!(hasC s.w s.h s.x s.y && hasC s.w s.h s.kx s.ky)) ∧ wx = W1)
  case first =>
    obtain ⟨⟨c0, c1, c2, c3, c4, c5, c6, c7, c8, c9, c10⟩, ⟨c11, c12, c13, c14, c15, c16, c17, c18, c19, c20, c21⟩, -⟩ := scr_cells HX1.out
    have H1 := within_any s.w s.h s.x s.y w.heap.size W1 c0 c1
    have H2 := within_any s.w s.h s.kx s.ky w.heap.size W1 c0 c1
    generalize hasC s.w s.h s.x s.y = b1 at *
    generalize hasC s.w s.h s.kx s.ky = b2 at *
    cases b1 with
    | false =>
      go_wp2_with fail
      refine H1.mono ?_
      rintro e V ⟨rfl, hv⟩
      subst hv
      go_wp2_with fail
      go_meet
      exact ⟨rfl, rfl⟩
    | true =>
      go_wp2_with fail
      refine H1.mono ?_
      rintro e V ⟨rfl, hv⟩
      subst hv
      go_wp2_with fail
      refine H2.mono ?_
      rintro e V ⟨rfl, hv⟩
      subst hv
      cases b2 with
      | false =>
        go_wp2_with fail
        go_meet
        exact ⟨rfl, rfl⟩
      | true =>
        go_wp2_with fail
        go_meet
        exact ⟨rfl, rfl⟩
  case rest =>
    obtain ⟨rfl, hwx⟩ := hcut
    subst hwx
    cases h12 : (hasC s.w s.h s.x s.y && hasC s.w s.h s.kx s.ky) with
    | false =>
      have HR : Hid (4 = res) := by
        unfold Hid
        rw [← HC.out]
        unfold scrErr placeOk
        rw [HZ.out, ← Bool.and_assoc, h12]
        simp
      go_wp2_with fail
      go_ret
      exact ⟨ret_int HR.out, HB1.out⟩
    | true =>
      have HH : Hid ((hasC s.w s.h s.x s.y && hasC s.w s.h s.kx s.ky) = true) := h12
      clear h12
      go_upto_region 7 with fail
      go_cut [62] from 32 to 62 (fun c wx => c = .bool (!regionOk s.h s.top s.bot) ∧ wx = wc)
      case first =>
        obtain ⟨⟨c0, c1, c2, c3, c4, c5, c6, c7, c8, c9, c10⟩, ⟨c11, c12, c13, c14, c15, c16, c17, c18, c19, c20, c21⟩, -⟩ := scr_cells HX1.out
        generalize hro : regionOk s.h s.top s.bot = ro at *
        have HRO : Hid (regionOk s.h s.top s.bot = ro) := hro
        clear hro
        go_wp2_with fail
        all_goals go_meet
        all_goals refine ⟨congrArg Value.bool ?_, rfl⟩
        all_goals (rw [← HRO.out]; unfold regionOk; rw [Bool.eq_iff_iff]; simp at *; try omega)
      case rest =>
        obtain ⟨rfl, hwx⟩ := hcut
        subst hwx
        cases h3 : regionOk s.h s.top s.bot with
        | false =>
          have HR : Hid (4 = res) := by
            unfold Hid
            rw [← HC.out]
            unfold scrErr placeOk
            rw [HZ.out, h3]
            simp
          go_wp2_with fail
          go_ret
          exact ⟨ret_int HR.out, HB1.out⟩
        | true =>
          have HP : Hid (placeOk s = true) := by
            unfold Hid placeOk
            rw [← Bool.and_assoc, HH.out, h3]
            rfl
          clear h3 HH
          go_upto_region 9 with fail
          go_cut [80] from 63 to 80 (fun c wx => c = .bool (lateBad s) ∧ wx = wc)
          case first =>
            obtain ⟨⟨c0, c1, c2, c3, c4, c5, c6, c7, c8, c9, c10⟩, ⟨c11, c12, c13, c14, c15, c16, c17, c18, c19, c20, c21⟩, -⟩ := scr_cells HX1.out
            cases hl : s.late with
            | false =>
              have HLT : Hid (lateBad s = false) := by unfold Hid lateBad; rw [hl]; rfl
              go_wp2_with fail
              go_meet
              exact ⟨by rw [HLT.out], rfl⟩
            | true =>
              by_cases hx : s.x = s.w - 1
              case neg =>
                have hxb : (s.x == s.w - 1) = false := by rw [beq_eq_false_iff_ne]; exact hx
                have HLT : Hid (lateBad s = true) := by unfold Hid lateBad; rw [hl, decide_eq_false hx]; rfl
                clear hx
                go_wp2_with fail
                go_meet
                exact ⟨by rw [HLT.out], rfl⟩
              have hxb : (s.x == s.w - 1) = true := by rw [beq_iff_eq]; exact hx
              by_cases hm4 : bits .and .i64 s.modes 4 = 0
              · have hmb : (bits .and .i64 s.modes 4 != 0) = false := by rw [bne_eq_false_iff_eq]; exact hm4
                have HLT : Hid (lateBad s = true) := by unfold Hid lateBad; rw [hl, decide_eq_true hm4]; simp
                clear hx hm4
                go_wp2_with fail
                go_meet
                exact ⟨by rw [HLT.out], rfl⟩
              · have hmb : (bits .and .i64 s.modes 4 != 0) = true := by rw [bne_iff_ne]; exact hm4
                have HLT : Hid (lateBad s = false) := by unfold Hid lateBad; rw [hl, decide_eq_false hm4, decide_eq_true hx]; rfl
                clear hx hm4
                go_wp2_with fail
                go_meet
                exact ⟨by rw [HLT.out], rfl⟩
          case rest =>
            obtain ⟨rfl, hwx⟩ := hcut
            subst hwx
            cases h4 : lateBad s with
            | true =>
              have HR : Hid (5 = res) := by
                unfold Hid
                rw [← HC.out]
                simp [scrErr, HZ.out, HP.out, h4]
              go_wp2_with fail
              go_ret
              exact ⟨ret_int HR.out, HB1.out⟩
            | false =>
              have HLT : Hid (lateBad s = false) := h4
              clear h4
              go_upto_region 11 with fail
              go_cut [120] from 81 to 120 (fun c wx => c = .bool (!looksOk s) ∧ Below w.heap.size w wx ∧ wx.heap[w.heap.size]? = some (.cells (scrA s (.slice ca s.cs.length cc) (.slice ta s.tabs.length tc) (.slice ga s.gone.length gc)) 32 (0, 0)))
              case first =>
                obtain ⟨⟨c0, c1, c2, c3, c4, c5, c6, c7, c8, c9, c10⟩, ⟨c11, c12, c13, c14, c15, c16, c17, c18, c19, c20, c21⟩, -⟩ := scr_cells HX1.out
                have HLO : Hid (looksOk s = (isSt (s.sf, s.sb, s.sx) && (isSt (s.kf, s.kb, s.kbits) && (decide (0 ≤ s.modes ∧ s.modes ≤ 63) && keptOk s.km)))) := rfl
                have H5 := Sty.isStyle_any s.sf s.sb s.sx wc
                have H6 : Hid (∀ W, Calls Tryz.prog 54 #[.agg #[.int .i64 s.kf, .int .i64 s.kb, .int .i64 s.kbits]] W fun e w' => e = .returned (.bool (isSt (s.kf, s.kb, s.kbits))) ∧ Below W.heap.size W w') := fun W => Sty.isStyle_any _ _ _ W
                generalize isSt (s.sf, s.sb, s.sx) = s1 at *
                generalize isSt (s.kf, s.kb, s.kbits) = s2 at *
                generalize looksOk s = lo at *
                go_wp2_with fail
                refine H5.mono ?_
                rintro e V ⟨rfl, b⟩
                have HXV : Hid (V.heap[w.heap.size]? = _) := Grd.carry HX1.out b
                have HBV : Hid (Below w.heap.size w V) := HB1.out.trans (b.mono HB1.out.size)
                clear c0 c1 c2 c3 c4 c5 c6 c7 c8 c9 c10 c11 c12 c13 c14 c15 c16 c17 c18 c19 c20 c21 b H5
                obtain ⟨⟨c0, c1, c2, c3, c4, c5, c6, c7, c8, c9, c10⟩, ⟨c11, c12, c13, c14, c15, c16, c17, c18, c19, c20, c21⟩, -⟩ := scr_cells HXV.out
                cases s1 with
                | false =>
                  go_wp2_with fail
                  go_meet
                  exact ⟨by rw [HLO.out]; rfl, HBV.out, HXV.out⟩
                | true =>
                  go_wp2_with fail
                  refine (H6.out V).mono ?_
                  rintro e V2 ⟨rfl, b⟩
                  have HXV2 : Hid (V2.heap[w.heap.size]? = _) := Grd.carry HXV.out b
                  have HBV2 : Hid (Below w.heap.size w V2) := HBV.out.trans (b.mono HBV.out.size)
                  clear c0 c1 c2 c3 c4 c5 c6 c7 c8 c9 c10 c11 c12 c13 c14 c15 c16 c17 c18 c19 c20 c21 b H6
                  obtain ⟨⟨c0, c1, c2, c3, c4, c5, c6, c7, c8, c9, c10⟩, ⟨c11, c12, c13, c14, c15, c16, c17, c18, c19, c20, c21⟩, -⟩ := scr_cells HXV2.out
                  cases s2 with
                  | false =>
                    go_wp2_with fail
                    go_meet
                    exact ⟨by rw [HLO.out]; rfl, HBV2.out, HXV2.out⟩
                  | true =>
                    by_cases m0 : s.modes < 0
                    · go_wp2_with fail
                      go_meet
                      exact ⟨by rw [HLO.out, decide_eq_false (by omega)]; rfl, HBV2.out, HXV2.out⟩
                    by_cases m1 : 63 < s.modes
                    · go_wp2_with fail
                      go_meet
                      exact ⟨by rw [HLO.out, decide_eq_false (by omega)]; rfl, HBV2.out, HXV2.out⟩
                    by_cases k0 : s.km < 0
                    · have hkk : keptOk s.km = false := by
                        cases h : keptOk s.km with
                        | false => rfl
                        | true => have := kept_range _ h; omega
                      have HLN : Hid ((!lo) = true) := by unfold Hid; rw [HLO.out, hkk]; simp
                      clear hkk
                      go_wp2_with fail
                      go_meet
                      exact ⟨by rw [HLN.out], HBV2.out, HXV2.out⟩
                    by_cases k1 : bits .and .i64 s.km 57 = 0
                    case neg =>
                      have k1b : (bits .and .i64 s.km 57 != 0) = true := by rw [bne_iff_ne]; exact k1
                      have hkk : keptOk s.km = false := by
                        cases h : keptOk s.km with
                        | false => rfl
                        | true => have h2 := kept_range _ h; exact absurd ((kept_ref _ h2.1 h2.2).2 h) k1
                      have HLN : Hid ((!lo) = true) := by unfold Hid; rw [HLO.out, hkk]; simp
                      clear hkk k1
                      go_wp2_with fail
                      go_meet
                      exact ⟨by rw [HLN.out], HBV2.out, HXV2.out⟩
                    have k1b : (bits .and .i64 s.km 57 != 0) = false := by rw [bne_eq_false_iff_eq]; exact k1
                    by_cases k2 : 63 < s.km
                    · have hkk : keptOk s.km = false := by
                        cases h : keptOk s.km with
                        | false => rfl
                        | true => have := kept_range _ h; omega
                      have HLN : Hid ((!lo) = true) := by unfold Hid; rw [HLO.out, hkk]; simp
                      clear hkk k1
                      go_wp2_with fail
                      go_meet
                      exact ⟨by rw [HLN.out], HBV2.out, HXV2.out⟩
                    have hkk : keptOk s.km = true := (kept_ref _ (by omega) (by omega)).1 k1
                    have HLN : Hid ((!lo) = false) := by unfold Hid; rw [HLO.out, hkk, decide_eq_true ⟨by omega, by omega⟩]; rfl
                    clear hkk k1
                    go_wp2_with fail
                    go_meet
                    exact ⟨by rw [HLN.out]; refine congrArg Value.bool ?_; simp; omega, HBV2.out, HXV2.out⟩
              case rest =>
                obtain ⟨rfl, hBw, hXw⟩ := hcut
                cases h5 : looksOk s with
                | false =>
                  have HR : Hid (4 = res) := by
                    unfold Hid
                    rw [← HC.out]
                    simp [scrErr, HZ.out, HP.out, HLT.out, h5]
                  go_wp2_with fail
                  go_ret
                  exact ⟨ret_int HR.out, hBw⟩
                | true =>
                  have HLK : Hid (looksOk s = true) := h5
                  have HBW : Hid (Below w.heap.size w wc) := hBw
                  have HXW : Hid (wc.heap[w.heap.size]? = _) := hXw
                  clear h5 hBw hXw
                  go_upto_region 13 with fail
                  go_cut [153] from 121 to 153 (fun c wx => c = .bool (!restOk s) ∧ Below w.heap.size w wx ∧ wx.heap[w.heap.size]? = some (.cells (scrA s (.slice ca s.cs.length cc) (.slice ta s.tabs.length tc) (.slice ga s.gone.length gc)) 32 (0, 0)))
                  case first =>
                    obtain ⟨⟨c0, c1, c2, c3, c4, c5, c6, c7, c8, c9, c10⟩, ⟨c11, c12, c13, c14, c15, c16, c17, c18, c19, c20, c21⟩, -⟩ := scr_cells HXW.out
                    have htb := HF.out.bl
                    have z0 : ∀ d os, (grow (redrawn wc d) os).cell? ⟨w.heap.size, 0, none⟩ = some (.int .i64 s.w) := fun d os => cell_regrown c0 d os
                    have z12 : ∀ d os, (grow (redrawn wc d) os).cell? ⟨w.heap.size, 12, none⟩ = some (.slice ta s.tabs.length tc) := fun d os => cell_regrown c12 d os
                    have z19 : ∀ d os, (grow (redrawn wc d) os).cell? ⟨w.heap.size, 19, none⟩ = some (.int .i32 s.last) := fun d os => cell_regrown c19 d os
                    have z20 : ∀ d os, (grow (redrawn wc d) os).cell? ⟨w.heap.size, 20, none⟩ = some (.string s.title) := fun d os => cell_regrown c20 d os
                    have HRE : Hid (restOk s = (decide ((s.tabs.length : Int) = s.w) && ((decide (s.last = 0) || !decide (wd s.last = 0)) && ((s.title.toList == (Txt.bs (Txt.cleanL (Txt.runes s.title))).toList) && decide (Lib.runeCount s.title ≤ 20))))) := rfl
                    have HCU : Hid (∀ W, Calls Tryz.prog 55 #[.string s.title] W fun e w' => e = .returned (.string (Txt.bs (Txt.cleanL (Txt.runes s.title)))) ∧ Below W.heap.size W w') := fun W => Txt.cleanOf_any s.title W (by have := HF.out.tl; omega)
                    have HCG : Hid (∀ d os, Calls Tryz.prog 55 #[.string s.title] (grow (redrawn wc d) os) fun r w'' => r = .returned (.string (Txt.bs (Txt.cleanL (Txt.runes s.title)))) ∧ ∃ p : Regrown, w'' = grow (redrawn wc p.d) p.os) := fun d os => Calls.regrown_of (HCU.out _)
                    have HWG : Hid (∀ d os, Calls Tryz.prog 24 #[.int .i32 s.last] (grow (redrawn wc d) os) fun r w'' => r = .returned (.int .i64 (wd s.last)) ∧ ∃ p : Regrown, w'' = grow (redrawn wc p.d) p.os) := fun d os => Calls.regrown_of (Grd.widthOf_to s.last _ _ rfl)
                    generalize Txt.bs (Txt.cleanL (Txt.runes s.title)) = u at *
                    generalize restOk s = rb at *
                    by_cases t1 : (s.tabs.length : Int) = s.w
                    case neg =>
                      have t1b : ((s.tabs.length : Int) != s.w) = true := by rw [bne_iff_ne]; exact t1
                      have HRB : Hid (rb = false) := by unfold Hid; rw [HRE.out, decide_eq_false t1]; rfl
                      clear t1
                      refine wp_region_quiet_below (by kernel_rfl) (by kernel_rfl) ?_
                      repeat (first | go_big_quiet_skip | quiet_step (fail))
                      refine wpQuiet_nil ?_
                      intro _ hw'
                      obtain ⟨⟨dq, os⟩, hw''⟩ := hw'
                      subst hw''
                      go_wp2_with fail
                      go_meet
                      exact ⟨by rw [HRB.out]; rfl, HBW.out.trans ((below_regrown wc dq os).mono HBW.out.size), Grd.carry HXW.out (below_regrown wc dq os)⟩
                    have t1b : ((s.tabs.length : Int) != s.w) = false := by rw [bne_eq_false_iff_eq]; exact t1
                    have HRB1 : Hid (rb = ((decide (s.last = 0) || !decide (wd s.last = 0)) && ((s.title.toList == u.toList) && decide (Lib.runeCount s.title ≤ 20)))) := by unfold Hid; rw [HRE.out, decide_eq_true t1]; rfl
                    clear t1 HRE
                    by_cases l0 : s.last = 0
                    · have l0b : (s.last != 0) = false := by rw [bne_eq_false_iff_eq]; exact l0
                      have HRB0 : Hid (rb = ((s.title.toList == u.toList) && decide (Lib.runeCount s.title ≤ 20))) := by unfold Hid; rw [HRB1.out, decide_eq_true l0]; rfl
                      clear l0 HRB1
                      cases hq : (u.toList == s.title.toList) with
                      | false =>
                        have HRB : Hid (rb = false) := by
                          unfold Hid
                          rw [HRB0.out, show (s.title.toList == u.toList) = false by rw [beq_eq_false_iff_ne]; intro h; rw [h] at hq; simp at hq]
                          simp
                        refine wp_region_quiet_below (by kernel_rfl) (by kernel_rfl) ?_
                        repeat (first | go_big_quiet_skip | quiet_step (first | (go_at_call 55; exact HCG.out _ _)))
                        refine wpQuiet_nil ?_
                        intro _ hw'
                        obtain ⟨⟨dq, os⟩, hw''⟩ := hw'
                        subst hw''
                        go_wp2_with fail
                        go_meet
                        exact ⟨by rw [HRB.out]; rfl, HBW.out.trans ((below_regrown wc dq os).mono HBW.out.size), Grd.carry HXW.out (below_regrown wc dq os)⟩
                      | true =>
                        have HEQ : Hid ((s.title.toList == u.toList) = true) := by
                          unfold Hid
                          have hq2 := eq_of_beq hq
                          rw [hq2]
                          simp
                        have hcv := runes_conv s.title HF.out.tl
                        clear z0 z12 z19 z20
                        have HRB : Hid (rb = decide (Lib.runeCount s.title ≤ 20)) := by unfold Hid; rw [HRB0.out, HEQ.out, Bool.true_and]
                        have hrc : Lib.runeCount s.title ≤ 9223372036854775807 := by have := Lib.runeCountFrom_le s.title s.title.size 0; have := HF.out.tl; unfold Lib.runeCount; omega
                        have hst := start13 HBW.out HXW.out
                        clear c0 c1 c2 c3 c4 c5 c6 c7 c8 c9 c10 c11 c12 c13 c14 c15 c16 c17 c18 c19 c20 c21 HCG HWG
                        refine wp_region_held_drew (S := (fun wx => Below w.heap.size w wx ∧ wx.heap[w.heap.size]? = some (.cells (scrA s (.slice ca s.cs.length cc) (.slice ta s.tabs.length tc) (.slice ga s.gone.length gc)) 32 (0, 0)) ∧ wx.cell? ⟨w.heap.size, 0, none⟩ = some (.int .i64 s.w) ∧ wx.cell? ⟨w.heap.size, 12, none⟩ = some (.slice ta s.tabs.length tc) ∧ wx.cell? ⟨w.heap.size, 19, none⟩ = some (.int .i32 s.last) ∧ wx.cell? ⟨w.heap.size, 20, none⟩ = some (.string s.title))) (by kernel_rfl) (next13 hst ((Below.refl _ _).drew)) (fun hHeld => ?_)
                        refine heldTake (i := 0) (v := ?_) rfl (by kernel_rfl) (by kernel_rfl) (by kernel_rfl) (fun _ _ _ h => h) (Or.inl ⟨by rfl, ?_⟩) hHeld ?_
                        rotate_left
                        · (intro wq hSw; obtain ⟨-, -, e0, e12, e19, e20⟩ := hSw; go_simp; try with_reducible rfl)
                        try simp only [Act.put, List.setIfInBounds_toArray, List.set_cons_zero, List.set_cons_succ]
                        refine heldTake (i := 1) (v := ?_) rfl (by kernel_rfl) (by kernel_rfl) (by kernel_rfl) (fun _ _ _ h => h) (Or.inl ⟨by rfl, ?_⟩) hHeld ?_
                        rotate_left
                        · (intro wq hSw; obtain ⟨-, -, e0, e12, e19, e20⟩ := hSw; go_simp; try with_reducible rfl)
                        try simp only [Act.put, List.setIfInBounds_toArray, List.set_cons_zero, List.set_cons_succ]
                        refine heldTake (i := 2) (v := ?_) rfl (by kernel_rfl) (by kernel_rfl) (by kernel_rfl) (fun _ _ _ h => h) (Or.inl ⟨by rfl, ?_⟩) hHeld ?_
                        rotate_left
                        · (intro wq hSw; obtain ⟨-, -, e0, e12, e19, e20⟩ := hSw; go_simp; try with_reducible rfl)
                        try simp only [Act.put, List.setIfInBounds_toArray, List.set_cons_zero, List.set_cons_succ]
                        refine heldTake (i := 3) (v := ?_) rfl (by kernel_rfl) (by kernel_rfl) (by kernel_rfl) (fun _ _ _ h => h) (Or.inl ⟨by rfl, ?_⟩) hHeld ?_
                        rotate_left
                        · (intro wq hSw; obtain ⟨-, -, e0, e12, e19, e20⟩ := hSw; go_simp; try with_reducible rfl)
                        try simp only [Act.put, List.setIfInBounds_toArray, List.set_cons_zero, List.set_cons_succ]
                        refine heldTake (i := 4) (v := ?_) rfl (by kernel_rfl) (by kernel_rfl) (by kernel_rfl) (fun _ _ _ h => h) (Or.inl ⟨by rfl, ?_⟩) hHeld ?_
                        rotate_left
                        · (intro wq hSw; obtain ⟨-, -, e0, e12, e19, e20⟩ := hSw; go_simp; try with_reducible rfl)
                        try simp only [Act.put, List.setIfInBounds_toArray, List.set_cons_zero, List.set_cons_succ]
                        refine heldTake (i := 5) (v := ?_) rfl (by kernel_rfl) (by kernel_rfl) (by kernel_rfl) (fun _ _ _ h => h) (Or.inl ⟨by rfl, ?_⟩) hHeld ?_
                        rotate_left
                        · (intro wq hSw; obtain ⟨-, -, e0, e12, e19, e20⟩ := hSw; go_simp; try with_reducible rfl)
                        try simp only [Act.put, List.setIfInBounds_toArray, List.set_cons_zero, List.set_cons_succ]
                        refine heldTake (i := 6) (v := ?_) rfl (by kernel_rfl) (by kernel_rfl) (by kernel_rfl) (fun _ _ _ h => h) (Or.inl ⟨by rfl, ?_⟩) hHeld ?_
                        rotate_left
                        · (intro wq hSw; obtain ⟨-, -, e0, e12, e19, e20⟩ := hSw; go_simp; try with_reducible rfl)
                        try simp only [Act.put, List.setIfInBounds_toArray, List.set_cons_zero, List.set_cons_succ]
                        refine heldTake (i := 7) (v := ?_) rfl (by kernel_rfl) (by kernel_rfl) (by kernel_rfl) (fun _ _ _ h => h) (Or.inl ⟨by rfl, ?_⟩) hHeld ?_
                        rotate_left
                        · (intro wq hSw; obtain ⟨-, -, e0, e12, e19, e20⟩ := hSw; go_simp; try with_reducible rfl)
                        try simp only [Act.put, List.setIfInBounds_toArray, List.set_cons_zero, List.set_cons_succ]
                        refine heldTake (i := 8) (v := ?_) rfl (by kernel_rfl) (by kernel_rfl) (by kernel_rfl) (fun _ _ _ h => h) (Or.inl ⟨by rfl, ?_⟩) hHeld ?_
                        rotate_left
                        · (intro wq hSw; obtain ⟨-, -, e0, e12, e19, e20⟩ := hSw; go_simp; try with_reducible rfl)
                        try simp only [Act.put, List.setIfInBounds_toArray, List.set_cons_zero, List.set_cons_succ]
                        refine heldTake (i := 9) (v := ?_) rfl (by kernel_rfl) (by kernel_rfl) (by kernel_rfl) (fun _ _ _ h => h) (Or.inl ⟨by rfl, ?_⟩) hHeld ?_
                        rotate_left
                        · (intro wq hSw; obtain ⟨-, -, e0, e12, e19, e20⟩ := hSw; go_simp; try with_reducible rfl)
                        try simp only [Act.put, List.setIfInBounds_toArray, List.set_cons_zero, List.set_cons_succ]
                        refine heldTake (i := 10) (v := ?_) rfl (by kernel_rfl) (by kernel_rfl) (by kernel_rfl) (fun _ _ _ h => h) (Or.inl ⟨by rfl, ?_⟩) hHeld ?_
                        rotate_left
                        · (intro wq hSw; obtain ⟨-, -, e0, e12, e19, e20⟩ := hSw; go_simp; try with_reducible rfl)
                        try simp only [Act.put, List.setIfInBounds_toArray, List.set_cons_zero, List.set_cons_succ]
                        refine heldTake (i := 11) (v := ?_) rfl (by kernel_rfl) (by kernel_rfl) (by kernel_rfl) (fun _ _ _ h => h) (Or.inl ⟨by rfl, ?_⟩) hHeld ?_
                        rotate_left
                        · (intro wq hSw; obtain ⟨-, -, e0, e12, e19, e20⟩ := hSw; go_simp; try with_reducible rfl)
                        try simp only [Act.put, List.setIfInBounds_toArray, List.set_cons_zero, List.set_cons_succ]
                        refine heldTake (i := 12) (v := undef) rfl (by kernel_rfl) (by kernel_rfl) (by kernel_rfl) (fun _ _ _ h => h) (Or.inr ⟨by rfl, rfl⟩) hHeld ?_
                        try simp only [Act.put, List.setIfInBounds_toArray, List.set_cons_zero, List.set_cons_succ]
                        refine heldTake (i := 13) (v := undef) rfl (by kernel_rfl) (by kernel_rfl) (by kernel_rfl) (fun _ _ _ h => h) (Or.inr ⟨by rfl, rfl⟩) hHeld ?_
                        try simp only [Act.put, List.setIfInBounds_toArray, List.set_cons_zero, List.set_cons_succ]
                        refine heldTake (i := 14) (v := undef) rfl (by kernel_rfl) (by kernel_rfl) (by kernel_rfl) (fun _ _ _ h => h) (Or.inr ⟨by rfl, rfl⟩) hHeld ?_
                        try simp only [Act.put, List.setIfInBounds_toArray, List.set_cons_zero, List.set_cons_succ]
                        refine heldTake (i := 15) (v := undef) rfl (by kernel_rfl) (by kernel_rfl) (by kernel_rfl) (fun _ _ _ h => h) (Or.inr ⟨by rfl, rfl⟩) hHeld ?_
                        try simp only [Act.put, List.setIfInBounds_toArray, List.set_cons_zero, List.set_cons_succ]
                        refine heldTake (i := 16) (v := ?_) rfl (by kernel_rfl) (by kernel_rfl) (by kernel_rfl) (fun _ _ _ h => h) (Or.inl ⟨by rfl, ?_⟩) hHeld ?_
                        rotate_left
                        · (intro wq hSw; obtain ⟨-, -, e0, e12, e19, e20⟩ := hSw; go_simp; try with_reducible rfl)
                        try simp only [Act.put, List.setIfInBounds_toArray, List.set_cons_zero, List.set_cons_succ]
                        refine heldTake (i := 17) (v := ?_) rfl (by kernel_rfl) (by kernel_rfl) (by kernel_rfl) (fun _ _ _ h => h) (Or.inl ⟨by rfl, ?_⟩) hHeld ?_
                        rotate_left
                        · (intro wq hSw; obtain ⟨-, -, e0, e12, e19, e20⟩ := hSw; go_simp; try with_reducible rfl)
                        try simp only [Act.put, List.setIfInBounds_toArray, List.set_cons_zero, List.set_cons_succ]
                        refine heldTake (i := 18) (v := ?_) rfl (by kernel_rfl) (by kernel_rfl) (by kernel_rfl) (fun _ _ _ h => h) (Or.inl ⟨by rfl, ?_⟩) hHeld ?_
                        rotate_left
                        · (intro wq hSw; obtain ⟨-, -, e0, e12, e19, e20⟩ := hSw; go_simp; try with_reducible rfl)
                        try simp only [Act.put, List.setIfInBounds_toArray, List.set_cons_zero, List.set_cons_succ]
                        refine heldTake (i := 19) (v := ?_) rfl (by kernel_rfl) (by kernel_rfl) (by kernel_rfl) (fun _ _ _ h => h) (Or.inl ⟨by rfl, ?_⟩) hHeld ?_
                        rotate_left
                        · (intro wq hSw; obtain ⟨-, -, e0, e12, e19, e20⟩ := hSw; go_simp; try with_reducible rfl)
                        try simp only [Act.put, List.setIfInBounds_toArray, List.set_cons_zero, List.set_cons_succ]
                        refine heldTake (i := 20) (v := ?_) rfl (by kernel_rfl) (by kernel_rfl) (by kernel_rfl) (fun _ _ _ h => h) (Or.inl ⟨by rfl, ?_⟩) hHeld ?_
                        rotate_left
                        · (intro wq hSw; obtain ⟨-, -, e0, e12, e19, e20⟩ := hSw; go_simp; try with_reducible rfl)
                        try simp only [Act.put, List.setIfInBounds_toArray, List.set_cons_zero, List.set_cons_succ]
                        refine heldTake (i := 22) (v := ?_) rfl (by kernel_rfl) (by kernel_rfl) (by kernel_rfl) (fun _ _ _ h => h) (Or.inl ⟨by rfl, ?_⟩) hHeld ?_
                        rotate_left
                        · (intro wq hSw; obtain ⟨-, -, e0, e12, e19, e20⟩ := hSw; go_simp; try with_reducible rfl)
                        try simp only [Act.put, List.setIfInBounds_toArray, List.set_cons_zero, List.set_cons_succ]
                        refine heldTake (i := 23) (v := ?_) rfl (by kernel_rfl) (by kernel_rfl) (by kernel_rfl) (fun _ _ _ h => h) (Or.inl ⟨by rfl, ?_⟩) hHeld ?_
                        rotate_left
                        · (intro wq hSw; obtain ⟨-, -, e0, e12, e19, e20⟩ := hSw; go_simp; try with_reducible rfl)
                        try simp only [Act.put, List.setIfInBounds_toArray, List.set_cons_zero, List.set_cons_succ]
                        refine wpAnyH_ready (rs := [21]) (by kernel_rfl) (by simp) (heldCons rfl (fun K hK => ?_) AllReadyH.nil)
                        go_simp
                        refine (HCU.out _).mono ?_
                        rintro e V2 ⟨rfl, b2⟩
                        go_wp2_with fail
                        refine hK.out _ _ (next13 hHeld b2) (fun hHeld2 => ?_)
                        clear hK K hHeld
                        have hHeld := hHeld2
                        clear hHeld2
                        try simp only [Act.put, List.setIfInBounds_toArray, List.set_cons_zero, List.set_cons_succ]
                        refine heldTake (i := 24) (v := ?_) rfl (by kernel_rfl) (by kernel_rfl) (by kernel_rfl) (fun _ _ _ h => h) (Or.inl ⟨by rfl, ?_⟩) hHeld ?_
                        rotate_left
                        · (intro wq hSw; obtain ⟨-, -, e0, e12, e19, e20⟩ := hSw; go_simp; try with_reducible rfl)
                        try simp only [Act.put, List.setIfInBounds_toArray, List.set_cons_zero, List.set_cons_succ]
                        refine heldTake (i := 25) (v := ?_) rfl (by kernel_rfl) (by kernel_rfl) (by kernel_rfl) (fun _ _ _ h => h) (Or.inl ⟨by rfl, ?_⟩) hHeld ?_
                        rotate_left
                        · (intro wq hSw; obtain ⟨-, -, e0, e12, e19, e20⟩ := hSw; go_simp; try with_reducible rfl)
                        try simp only [Act.put, List.setIfInBounds_toArray, List.set_cons_zero, List.set_cons_succ]
                        refine heldTake (i := 26) (v := ?_) rfl (by kernel_rfl) (by kernel_rfl) (by kernel_rfl) (fun _ _ _ h => h) (Or.inl ⟨by rfl, ?_⟩) hHeld ?_
                        rotate_left
                        · (intro wq hSw; obtain ⟨-, -, e0, e12, e19, e20⟩ := hSw; go_simp; try with_reducible rfl)
                        try simp only [Act.put, List.setIfInBounds_toArray, List.set_cons_zero, List.set_cons_succ]
                        refine heldTake (i := 27) (v := ?_) rfl (by kernel_rfl) (by kernel_rfl) (by kernel_rfl) (fun _ _ _ h => h) (Or.inl ⟨by rfl, ?_⟩) hHeld ?_
                        rotate_left
                        · (intro wq hSw; obtain ⟨-, -, e0, e12, e19, e20⟩ := hSw; go_simp; try with_reducible rfl)
                        try simp only [Act.put, List.setIfInBounds_toArray, List.set_cons_zero, List.set_cons_succ]
                        refine heldTake (i := 28) (v := ?_) rfl (by kernel_rfl) (by kernel_rfl) (by kernel_rfl) (fun _ _ _ h => h) (Or.inl ⟨by rfl, ?_⟩) hHeld ?_
                        rotate_left
                        · (intro wq hSw; obtain ⟨-, -, e0, e12, e19, e20⟩ := hSw; go_simp; try with_reducible rfl)
                        try simp only [Act.put, List.setIfInBounds_toArray, List.set_cons_zero, List.set_cons_succ]
                        refine wpAnyH_ready (rs := [29]) (by kernel_rfl) (by simp) (heldCons rfl (fun K hK => ?_) AllReadyH.nil)
                        go_simp
                        refine hK.out _ _ (next13 hHeld (below_runesW _ _)) (fun hHeld2 => ?_)
                        clear hK K hHeld
                        have hHeld := hHeld2
                        clear hHeld2
                        try simp only [Act.put, List.setIfInBounds_toArray, List.set_cons_zero, List.set_cons_succ]
                        refine heldTake (i := 30) (v := ?_) rfl (by kernel_rfl) (by kernel_rfl) (by kernel_rfl) (fun _ _ _ h => h) (Or.inl ⟨by rfl, ?_⟩) hHeld ?_
                        rotate_left
                        · (intro wq hSw; obtain ⟨-, -, e0, e12, e19, e20⟩ := hSw; go_simp; try with_reducible rfl)
                        try simp only [Act.put, List.setIfInBounds_toArray, List.set_cons_zero, List.set_cons_succ]
                        refine heldTake (i := 31) (v := ?_) rfl (by kernel_rfl) (by kernel_rfl) (by kernel_rfl) (fun _ _ _ h => h) (Or.inl ⟨by rfl, ?_⟩) hHeld ?_
                        rotate_left
                        · (intro wq hSw; obtain ⟨-, -, e0, e12, e19, e20⟩ := hSw; go_simp; try with_reducible rfl)
                        try simp only [Act.put, List.setIfInBounds_toArray, List.set_cons_zero, List.set_cons_succ]
                        refine heldTake (i := 32) (v := ?_) rfl (by kernel_rfl) (by kernel_rfl) (by kernel_rfl) (fun _ _ _ h => h) (Or.inl ⟨by rfl, ?_⟩) hHeld ?_
                        rotate_left
                        · (intro wq hSw; obtain ⟨-, -, e0, e12, e19, e20⟩ := hSw; go_simp; try with_reducible rfl)
                        try simp only [Act.put, List.setIfInBounds_toArray, List.set_cons_zero, List.set_cons_succ]
                        refine wpAnyH_done (by kernel_rfl) ?_ _
                        all_goals clear hst
                        all_goals go_wp2_with fail
                        all_goals go_meet
                        all_goals refine fin13 (by assumption) ?_
                        all_goals (rw [HRB.out]; refine congrArg Value.bool ?_; rw [Bool.eq_iff_iff]; simp; try omega)
                    · have l0b : (s.last != 0) = true := by rw [bne_iff_ne]; exact l0
                      by_cases l1 : wd s.last = 0
                      · have l1b : (wd s.last == 0) = true := by rw [beq_iff_eq]; exact l1
                        have HRB : Hid (rb = false) := by unfold Hid; rw [HRB1.out, decide_eq_true l1, decide_eq_false l0]; rfl
                        clear l0 l1 HRB1
                        refine wp_region_quiet_below (by kernel_rfl) (by kernel_rfl) ?_
                        repeat (first | go_big_quiet_skip | quiet_step (first | (go_at_call 24; exact HWG.out _ _)))
                        refine wpQuiet_nil ?_
                        intro _ hw'
                        obtain ⟨⟨dq, os⟩, hw''⟩ := hw'
                        subst hw''
                        go_wp2_with fail
                        go_meet
                        exact ⟨by rw [HRB.out]; rfl, HBW.out.trans ((below_regrown wc dq os).mono HBW.out.size), Grd.carry HXW.out (below_regrown wc dq os)⟩
                      · have l1b : (wd s.last == 0) = false := by rw [beq_eq_false_iff_ne]; exact l1
                        have HRB0 : Hid (rb = ((s.title.toList == u.toList) && decide (Lib.runeCount s.title ≤ 20))) := by unfold Hid; rw [HRB1.out, decide_eq_false l1]; simp
                        clear l0 l1 HRB1
                        cases hq : (u.toList == s.title.toList) with
                        | false =>
                          have HRB : Hid (rb = false) := by
                            unfold Hid
                            rw [HRB0.out, show (s.title.toList == u.toList) = false by rw [beq_eq_false_iff_ne]; intro h; rw [h] at hq; simp at hq]
                            simp
                          refine wp_region_quiet_below (by kernel_rfl) (by kernel_rfl) ?_
                          repeat (first | go_big_quiet_skip | quiet_step (first | (go_at_call 24; exact HWG.out _ _) | (go_at_call 55; exact HCG.out _ _)))
                          refine wpQuiet_nil ?_
                          intro _ hw'
                          obtain ⟨⟨dq, os⟩, hw''⟩ := hw'
                          subst hw''
                          go_wp2_with fail
                          go_meet
                          exact ⟨by rw [HRB.out]; rfl, HBW.out.trans ((below_regrown wc dq os).mono HBW.out.size), Grd.carry HXW.out (below_regrown wc dq os)⟩
                        | true =>
                          have HEQ : Hid ((s.title.toList == u.toList) = true) := by
                            unfold Hid
                            have hq2 := eq_of_beq hq
                            rw [hq2]
                            simp
                          have hcv := runes_conv s.title HF.out.tl
                          clear z0 z12 z19 z20
                          have HRB : Hid (rb = decide (Lib.runeCount s.title ≤ 20)) := by unfold Hid; rw [HRB0.out, HEQ.out, Bool.true_and]
                          have hrc : Lib.runeCount s.title ≤ 9223372036854775807 := by have := Lib.runeCountFrom_le s.title s.title.size 0; have := HF.out.tl; unfold Lib.runeCount; omega
                          have hst := start13 HBW.out HXW.out
                          clear c0 c1 c2 c3 c4 c5 c6 c7 c8 c9 c10 c11 c12 c13 c14 c15 c16 c17 c18 c19 c20 c21 HCG HWG
                          refine wp_region_held_drew (S := (fun wx => Below w.heap.size w wx ∧ wx.heap[w.heap.size]? = some (.cells (scrA s (.slice ca s.cs.length cc) (.slice ta s.tabs.length tc) (.slice ga s.gone.length gc)) 32 (0, 0)) ∧ wx.cell? ⟨w.heap.size, 0, none⟩ = some (.int .i64 s.w) ∧ wx.cell? ⟨w.heap.size, 12, none⟩ = some (.slice ta s.tabs.length tc) ∧ wx.cell? ⟨w.heap.size, 19, none⟩ = some (.int .i32 s.last) ∧ wx.cell? ⟨w.heap.size, 20, none⟩ = some (.string s.title))) (by kernel_rfl) (next13 hst ((Below.refl _ _).drew)) (fun hHeld => ?_)
                          refine heldTake (i := 0) (v := ?_) rfl (by kernel_rfl) (by kernel_rfl) (by kernel_rfl) (fun _ _ _ h => h) (Or.inl ⟨by rfl, ?_⟩) hHeld ?_
                          rotate_left
                          · (intro wq hSw; obtain ⟨-, -, e0, e12, e19, e20⟩ := hSw; go_simp; try with_reducible rfl)
                          try simp only [Act.put, List.setIfInBounds_toArray, List.set_cons_zero, List.set_cons_succ]
                          refine heldTake (i := 1) (v := ?_) rfl (by kernel_rfl) (by kernel_rfl) (by kernel_rfl) (fun _ _ _ h => h) (Or.inl ⟨by rfl, ?_⟩) hHeld ?_
                          rotate_left
                          · (intro wq hSw; obtain ⟨-, -, e0, e12, e19, e20⟩ := hSw; go_simp; try with_reducible rfl)
                          try simp only [Act.put, List.setIfInBounds_toArray, List.set_cons_zero, List.set_cons_succ]
                          refine heldTake (i := 2) (v := ?_) rfl (by kernel_rfl) (by kernel_rfl) (by kernel_rfl) (fun _ _ _ h => h) (Or.inl ⟨by rfl, ?_⟩) hHeld ?_
                          rotate_left
                          · (intro wq hSw; obtain ⟨-, -, e0, e12, e19, e20⟩ := hSw; go_simp; try with_reducible rfl)
                          try simp only [Act.put, List.setIfInBounds_toArray, List.set_cons_zero, List.set_cons_succ]
                          refine heldTake (i := 3) (v := ?_) rfl (by kernel_rfl) (by kernel_rfl) (by kernel_rfl) (fun _ _ _ h => h) (Or.inl ⟨by rfl, ?_⟩) hHeld ?_
                          rotate_left
                          · (intro wq hSw; obtain ⟨-, -, e0, e12, e19, e20⟩ := hSw; go_simp; try with_reducible rfl)
                          try simp only [Act.put, List.setIfInBounds_toArray, List.set_cons_zero, List.set_cons_succ]
                          refine heldTake (i := 4) (v := ?_) rfl (by kernel_rfl) (by kernel_rfl) (by kernel_rfl) (fun _ _ _ h => h) (Or.inl ⟨by rfl, ?_⟩) hHeld ?_
                          rotate_left
                          · (intro wq hSw; obtain ⟨-, -, e0, e12, e19, e20⟩ := hSw; go_simp; try with_reducible rfl)
                          try simp only [Act.put, List.setIfInBounds_toArray, List.set_cons_zero, List.set_cons_succ]
                          refine heldTake (i := 5) (v := ?_) rfl (by kernel_rfl) (by kernel_rfl) (by kernel_rfl) (fun _ _ _ h => h) (Or.inl ⟨by rfl, ?_⟩) hHeld ?_
                          rotate_left
                          · (intro wq hSw; obtain ⟨-, -, e0, e12, e19, e20⟩ := hSw; go_simp; try with_reducible rfl)
                          try simp only [Act.put, List.setIfInBounds_toArray, List.set_cons_zero, List.set_cons_succ]
                          refine heldTake (i := 6) (v := ?_) rfl (by kernel_rfl) (by kernel_rfl) (by kernel_rfl) (fun _ _ _ h => h) (Or.inl ⟨by rfl, ?_⟩) hHeld ?_
                          rotate_left
                          · (intro wq hSw; obtain ⟨-, -, e0, e12, e19, e20⟩ := hSw; go_simp; try with_reducible rfl)
                          try simp only [Act.put, List.setIfInBounds_toArray, List.set_cons_zero, List.set_cons_succ]
                          refine heldTake (i := 7) (v := ?_) rfl (by kernel_rfl) (by kernel_rfl) (by kernel_rfl) (fun _ _ _ h => h) (Or.inl ⟨by rfl, ?_⟩) hHeld ?_
                          rotate_left
                          · (intro wq hSw; obtain ⟨-, -, e0, e12, e19, e20⟩ := hSw; go_simp; try with_reducible rfl)
                          try simp only [Act.put, List.setIfInBounds_toArray, List.set_cons_zero, List.set_cons_succ]
                          refine heldTake (i := 8) (v := ?_) rfl (by kernel_rfl) (by kernel_rfl) (by kernel_rfl) (fun _ _ _ h => h) (Or.inl ⟨by rfl, ?_⟩) hHeld ?_
                          rotate_left
                          · (intro wq hSw; obtain ⟨-, -, e0, e12, e19, e20⟩ := hSw; go_simp; try with_reducible rfl)
                          try simp only [Act.put, List.setIfInBounds_toArray, List.set_cons_zero, List.set_cons_succ]
                          refine heldTake (i := 9) (v := ?_) rfl (by kernel_rfl) (by kernel_rfl) (by kernel_rfl) (fun _ _ _ h => h) (Or.inl ⟨by rfl, ?_⟩) hHeld ?_
                          rotate_left
                          · (intro wq hSw; obtain ⟨-, -, e0, e12, e19, e20⟩ := hSw; go_simp; try with_reducible rfl)
                          try simp only [Act.put, List.setIfInBounds_toArray, List.set_cons_zero, List.set_cons_succ]
                          refine heldTake (i := 10) (v := ?_) rfl (by kernel_rfl) (by kernel_rfl) (by kernel_rfl) (fun _ _ _ h => h) (Or.inl ⟨by rfl, ?_⟩) hHeld ?_
                          rotate_left
                          · (intro wq hSw; obtain ⟨-, -, e0, e12, e19, e20⟩ := hSw; go_simp; try with_reducible rfl)
                          try simp only [Act.put, List.setIfInBounds_toArray, List.set_cons_zero, List.set_cons_succ]
                          refine heldTake (i := 11) (v := ?_) rfl (by kernel_rfl) (by kernel_rfl) (by kernel_rfl) (fun _ _ _ h => h) (Or.inl ⟨by rfl, ?_⟩) hHeld ?_
                          rotate_left
                          · (intro wq hSw; obtain ⟨-, -, e0, e12, e19, e20⟩ := hSw; go_simp; try with_reducible rfl)
                          try simp only [Act.put, List.setIfInBounds_toArray, List.set_cons_zero, List.set_cons_succ]
                          refine heldTake (i := 12) (v := ?_) rfl (by kernel_rfl) (by kernel_rfl) (by kernel_rfl) (fun _ _ _ h => h) (Or.inl ⟨by rfl, ?_⟩) hHeld ?_
                          rotate_left
                          · (intro wq hSw; obtain ⟨-, -, e0, e12, e19, e20⟩ := hSw; go_simp; try with_reducible rfl)
                          try simp only [Act.put, List.setIfInBounds_toArray, List.set_cons_zero, List.set_cons_succ]
                          refine heldTake (i := 13) (v := ?_) rfl (by kernel_rfl) (by kernel_rfl) (by kernel_rfl) (fun _ _ _ h => h) (Or.inl ⟨by rfl, ?_⟩) hHeld ?_
                          rotate_left
                          · (intro wq hSw; obtain ⟨-, -, e0, e12, e19, e20⟩ := hSw; go_simp; try with_reducible rfl)
                          try simp only [Act.put, List.setIfInBounds_toArray, List.set_cons_zero, List.set_cons_succ]
                          refine wpAnyH_ready (rs := [14]) (by kernel_rfl) (by simp) (heldCons rfl (fun K hK => ?_) AllReadyH.nil)
                          go_simp
                          refine (Grd.widthOf_to s.last _ _ rfl).mono ?_
                          rintro e V1 ⟨rfl, b1⟩
                          go_wp2_with fail
                          refine hK.out _ _ (next13 hHeld b1) (fun hHeld2 => ?_)
                          clear hK K hHeld
                          have hHeld := hHeld2
                          clear hHeld2
                          try simp only [Act.put, List.setIfInBounds_toArray, List.set_cons_zero, List.set_cons_succ]
                          refine heldTake (i := 15) (v := ?_) rfl (by kernel_rfl) (by kernel_rfl) (by kernel_rfl) (fun _ _ _ h => h) (Or.inl ⟨by rfl, ?_⟩) hHeld ?_
                          rotate_left
                          · (intro wq hSw; obtain ⟨-, -, e0, e12, e19, e20⟩ := hSw; go_simp; try with_reducible rfl)
                          try simp only [Act.put, List.setIfInBounds_toArray, List.set_cons_zero, List.set_cons_succ]
                          refine heldTake (i := 16) (v := ?_) rfl (by kernel_rfl) (by kernel_rfl) (by kernel_rfl) (fun _ _ _ h => h) (Or.inl ⟨by rfl, ?_⟩) hHeld ?_
                          rotate_left
                          · (intro wq hSw; obtain ⟨-, -, e0, e12, e19, e20⟩ := hSw; go_simp; try with_reducible rfl)
                          try simp only [Act.put, List.setIfInBounds_toArray, List.set_cons_zero, List.set_cons_succ]
                          refine heldTake (i := 17) (v := ?_) rfl (by kernel_rfl) (by kernel_rfl) (by kernel_rfl) (fun _ _ _ h => h) (Or.inl ⟨by rfl, ?_⟩) hHeld ?_
                          rotate_left
                          · (intro wq hSw; obtain ⟨-, -, e0, e12, e19, e20⟩ := hSw; go_simp; try with_reducible rfl)
                          try simp only [Act.put, List.setIfInBounds_toArray, List.set_cons_zero, List.set_cons_succ]
                          refine heldTake (i := 18) (v := ?_) rfl (by kernel_rfl) (by kernel_rfl) (by kernel_rfl) (fun _ _ _ h => h) (Or.inl ⟨by rfl, ?_⟩) hHeld ?_
                          rotate_left
                          · (intro wq hSw; obtain ⟨-, -, e0, e12, e19, e20⟩ := hSw; go_simp; try with_reducible rfl)
                          try simp only [Act.put, List.setIfInBounds_toArray, List.set_cons_zero, List.set_cons_succ]
                          refine heldTake (i := 19) (v := ?_) rfl (by kernel_rfl) (by kernel_rfl) (by kernel_rfl) (fun _ _ _ h => h) (Or.inl ⟨by rfl, ?_⟩) hHeld ?_
                          rotate_left
                          · (intro wq hSw; obtain ⟨-, -, e0, e12, e19, e20⟩ := hSw; go_simp; try with_reducible rfl)
                          try simp only [Act.put, List.setIfInBounds_toArray, List.set_cons_zero, List.set_cons_succ]
                          refine heldTake (i := 20) (v := ?_) rfl (by kernel_rfl) (by kernel_rfl) (by kernel_rfl) (fun _ _ _ h => h) (Or.inl ⟨by rfl, ?_⟩) hHeld ?_
                          rotate_left
                          · (intro wq hSw; obtain ⟨-, -, e0, e12, e19, e20⟩ := hSw; go_simp; try with_reducible rfl)
                          try simp only [Act.put, List.setIfInBounds_toArray, List.set_cons_zero, List.set_cons_succ]
                          refine heldTake (i := 22) (v := ?_) rfl (by kernel_rfl) (by kernel_rfl) (by kernel_rfl) (fun _ _ _ h => h) (Or.inl ⟨by rfl, ?_⟩) hHeld ?_
                          rotate_left
                          · (intro wq hSw; obtain ⟨-, -, e0, e12, e19, e20⟩ := hSw; go_simp; try with_reducible rfl)
                          try simp only [Act.put, List.setIfInBounds_toArray, List.set_cons_zero, List.set_cons_succ]
                          refine heldTake (i := 23) (v := ?_) rfl (by kernel_rfl) (by kernel_rfl) (by kernel_rfl) (fun _ _ _ h => h) (Or.inl ⟨by rfl, ?_⟩) hHeld ?_
                          rotate_left
                          · (intro wq hSw; obtain ⟨-, -, e0, e12, e19, e20⟩ := hSw; go_simp; try with_reducible rfl)
                          try simp only [Act.put, List.setIfInBounds_toArray, List.set_cons_zero, List.set_cons_succ]
                          refine wpAnyH_ready (rs := [21]) (by kernel_rfl) (by simp) (heldCons rfl (fun K hK => ?_) AllReadyH.nil)
                          go_simp
                          refine (HCU.out _).mono ?_
                          rintro e V2 ⟨rfl, b2⟩
                          go_wp2_with fail
                          refine hK.out _ _ (next13 hHeld b2) (fun hHeld2 => ?_)
                          clear hK K hHeld
                          have hHeld := hHeld2
                          clear hHeld2
                          try simp only [Act.put, List.setIfInBounds_toArray, List.set_cons_zero, List.set_cons_succ]
                          refine heldTake (i := 24) (v := ?_) rfl (by kernel_rfl) (by kernel_rfl) (by kernel_rfl) (fun _ _ _ h => h) (Or.inl ⟨by rfl, ?_⟩) hHeld ?_
                          rotate_left
                          · (intro wq hSw; obtain ⟨-, -, e0, e12, e19, e20⟩ := hSw; go_simp; try with_reducible rfl)
                          try simp only [Act.put, List.setIfInBounds_toArray, List.set_cons_zero, List.set_cons_succ]
                          refine heldTake (i := 25) (v := ?_) rfl (by kernel_rfl) (by kernel_rfl) (by kernel_rfl) (fun _ _ _ h => h) (Or.inl ⟨by rfl, ?_⟩) hHeld ?_
                          rotate_left
                          · (intro wq hSw; obtain ⟨-, -, e0, e12, e19, e20⟩ := hSw; go_simp; try with_reducible rfl)
                          try simp only [Act.put, List.setIfInBounds_toArray, List.set_cons_zero, List.set_cons_succ]
                          refine heldTake (i := 26) (v := ?_) rfl (by kernel_rfl) (by kernel_rfl) (by kernel_rfl) (fun _ _ _ h => h) (Or.inl ⟨by rfl, ?_⟩) hHeld ?_
                          rotate_left
                          · (intro wq hSw; obtain ⟨-, -, e0, e12, e19, e20⟩ := hSw; go_simp; try with_reducible rfl)
                          try simp only [Act.put, List.setIfInBounds_toArray, List.set_cons_zero, List.set_cons_succ]
                          refine heldTake (i := 27) (v := ?_) rfl (by kernel_rfl) (by kernel_rfl) (by kernel_rfl) (fun _ _ _ h => h) (Or.inl ⟨by rfl, ?_⟩) hHeld ?_
                          rotate_left
                          · (intro wq hSw; obtain ⟨-, -, e0, e12, e19, e20⟩ := hSw; go_simp; try with_reducible rfl)
                          try simp only [Act.put, List.setIfInBounds_toArray, List.set_cons_zero, List.set_cons_succ]
                          refine heldTake (i := 28) (v := ?_) rfl (by kernel_rfl) (by kernel_rfl) (by kernel_rfl) (fun _ _ _ h => h) (Or.inl ⟨by rfl, ?_⟩) hHeld ?_
                          rotate_left
                          · (intro wq hSw; obtain ⟨-, -, e0, e12, e19, e20⟩ := hSw; go_simp; try with_reducible rfl)
                          try simp only [Act.put, List.setIfInBounds_toArray, List.set_cons_zero, List.set_cons_succ]
                          refine wpAnyH_ready (rs := [29]) (by kernel_rfl) (by simp) (heldCons rfl (fun K hK => ?_) AllReadyH.nil)
                          go_simp
                          refine hK.out _ _ (next13 hHeld (below_runesW _ _)) (fun hHeld2 => ?_)
                          clear hK K hHeld
                          have hHeld := hHeld2
                          clear hHeld2
                          try simp only [Act.put, List.setIfInBounds_toArray, List.set_cons_zero, List.set_cons_succ]
                          refine heldTake (i := 30) (v := ?_) rfl (by kernel_rfl) (by kernel_rfl) (by kernel_rfl) (fun _ _ _ h => h) (Or.inl ⟨by rfl, ?_⟩) hHeld ?_
                          rotate_left
                          · (intro wq hSw; obtain ⟨-, -, e0, e12, e19, e20⟩ := hSw; go_simp; try with_reducible rfl)
                          try simp only [Act.put, List.setIfInBounds_toArray, List.set_cons_zero, List.set_cons_succ]
                          refine heldTake (i := 31) (v := ?_) rfl (by kernel_rfl) (by kernel_rfl) (by kernel_rfl) (fun _ _ _ h => h) (Or.inl ⟨by rfl, ?_⟩) hHeld ?_
                          rotate_left
                          · (intro wq hSw; obtain ⟨-, -, e0, e12, e19, e20⟩ := hSw; go_simp; try with_reducible rfl)
                          try simp only [Act.put, List.setIfInBounds_toArray, List.set_cons_zero, List.set_cons_succ]
                          refine heldTake (i := 32) (v := ?_) rfl (by kernel_rfl) (by kernel_rfl) (by kernel_rfl) (fun _ _ _ h => h) (Or.inl ⟨by rfl, ?_⟩) hHeld ?_
                          rotate_left
                          · (intro wq hSw; obtain ⟨-, -, e0, e12, e19, e20⟩ := hSw; go_simp; try with_reducible rfl)
                          try simp only [Act.put, List.setIfInBounds_toArray, List.set_cons_zero, List.set_cons_succ]
                          refine wpAnyH_done (by kernel_rfl) ?_ _
                          all_goals clear hst
                          all_goals go_wp2_with fail
                          all_goals go_meet
                          all_goals refine fin13 (by assumption) ?_
                          all_goals (rw [HRB.out]; refine congrArg Value.bool ?_; rw [Bool.eq_iff_iff]; simp; try omega)
                  case rest =>
                    obtain ⟨rfl, hBw, hXw⟩ := hcut
                    cases h6 : restOk s with
                    | false =>
                      have HR : Hid (5 = res) := by
                        unfold Hid
                        rw [← HC.out]
                        simp [scrErr, HZ.out, HP.out, HLT.out, HLK.out, h6]
                      go_wp2_with fail
                      go_ret
                      exact ⟨ret_int HR.out, hBw⟩
                    | true =>
                      have HRS : Hid (restOk s = true) := h6
                      have HB9 : Hid (Below w.heap.size w wc) := hBw
                      have HX9 : Hid (wc.heap[w.heap.size]? = _) := hXw
                      clear h6 hBw hXw
                      obtain ⟨⟨c0, c1, c2, c3, c4, c5, c6, c7, c8, c9, c10⟩, ⟨c11, c12, c13, c14, c15, c16, c17, c18, c19, c20, c21⟩, -⟩ := scr_cells HX9.out
                      by_cases g50 : 50 < s.gone.length
                      · have g51 : (50 : Int) < (s.gone.length : Int) := by omega
                        have HR : Hid (2 = res) := by
                          unfold Hid
                          rw [← HC.out]
                          simp [scrErr, HZ.out, HP.out, HLT.out, HLK.out, HRS.out, goneErr, g50]
                        go_wp2_with fail
                        go_ret
                        exact ⟨ret_int HR.out, HB9.out⟩
                      · have g51 : ¬ (50 : Int) < (s.gone.length : Int) := by omega
                        have HE : Hid (res = if goneBad s.gone then 5 else 0) := by
                          unfold Hid
                          rw [← HC.out]
                          simp [scrErr, HZ.out, HP.out, HLT.out, HLK.out, HRS.out, goneErr, g50]
                        go_wp2_with fail
                        clear c0 c1 c2 c3 c4 c5 c6 c7 c8 c9 c10 c11 c12 c13 c14 c15 c16 c17 c18 c19 c20 c21
                        go_loopg [161] s.gone.length (fun q i wr => ∃ k : Nat, k ≤ s.gone.length ∧ s.gone.length - k ≤ q ∧ i = .int .i64 k ∧ Below w.heap.size w wr ∧ goneBad (s.gone.drop k) = goneBad s.gone)
                        case atStart => exact ⟨0, by omega, by omega, rfl, HB9.out, rfl⟩
                        case round =>
                          obtain ⟨k, hk, hq, rfl, hb, hg⟩ := hrel
                          have HB : Hid (Below w.heap.size w wr) := hb
                          have HGB : Hid (goneBad (s.gone.drop k) = goneBad s.gone) := hg
                          clear hb hg
                          by_cases hlt : k < s.gone.length
                          · have lt1 : ((k : Int) < (s.gone.length : Int)) := by omega
                            rcases HV.out.g with ⟨he, -⟩ | ⟨b, o, c, hvv, -, -, hc⟩
                            · rw [he] at hlt
                              exact absurd hlt (by simp)
                            injection hvv with hvv1 hvv2 hvv3
                            subst hvv1 hvv3
                            obtain ⟨rv, hc1, hS⟩ := hc k hlt
                            have q0 := cell_stay HB.out hc1
                            have HCR := checkRow_any (s.gone.getD k []) rv wr (hS.below HB.out)
                            have HD : Hid (goneBad s.gone = (!decide (gridErr (s.gone.getD k []).length 1 (s.gone.getD k []) = 0) || goneBad (s.gone.drop (k + 1)))) := by
                              unfold Hid
                              rw [← HGB.out]
                              exact any_drop _ s.gone k hlt []
                            generalize s.gone.getD k [] = row at *
                            obtain ⟨ra, rc, hrv⟩ := hS.shape
                            subst hrv
                            clear hc hc1 hS
                            cases hz : decide (gridErr row.length 1 row = 0) with
                            | true =>
                              rw [hz] at HCR HD
                              go_wp2_with fail
                              refine HCR.mono ?_
                              rintro e V1 ⟨rfl, b1⟩
                              clear HCR
                              go_wp2_with fail
                              go_roundg (s.gone.length - (k + 1))
                              case measure => omega
                              case rel => exact ⟨k + 1, by omega, by omega, by go_num, HB.out.trans (b1.mono HB.out.size), by rw [HD.out]; rfl⟩
                            | false =>
                              rw [hz] at HCR HD
                              go_wp2_with fail
                              refine HCR.mono ?_
                              rintro e V1 ⟨rfl, b1⟩
                              clear HCR
                              go_wp2_with fail
                              go_ret
                              exact ⟨ret_int (by rw [HE.out, HD.out]; rfl), HB.out.trans (b1.mono HB.out.size)⟩
                          · have lt1 : ¬ ((k : Int) < (s.gone.length : Int)) := by omega
                            have HD2 : Hid (goneBad s.gone = false) := by
                              unfold Hid
                              rw [← HGB.out, List.drop_eq_nil_of_le (by omega)]
                              rfl
                            go_wp2_with fail
                            go_ret
                            exact ⟨ret_int (by rw [HE.out, HD2.out]; rfl), HB.out⟩
end Put
end Go.Proofs.YtooaikdaahpngaaGreatDoor

/- The closed fact of the laws on screens: three runes on two columns. -/
namespace Go.Proofs.YtooaikdaahpngaaGreatDoor
open Go.ChangeShapes Go.WideShapes Go.ChangeAt Go.RowKit
namespace Put
open Grd (C SliceAt CellsAt gridErr z0 nilV flat rowsL)
open Txt (wd)
def abc : ByteArray := ⟨#[97, 98, 99]⟩
def stq : Nat → Scr × List (List C)
  | 0 => (newScr 2 2, rowsL 2 (newScr 2 2).cs 2)
  | 1 => printP (newScr 2 2, rowsL 2 (newScr 2 2).cs 2) 97
  | 2 => printP (printP (newScr 2 2, rowsL 2 (newScr 2 2).cs 2) 97) 98
  | _ => printP (printP (printP (newScr 2 2, rowsL 2 (newScr 2 2).cs 2) 97) 98) 99
theorem abc_runes : Txt.runes abc = [(97, 1), (98, 1), (99, 1)] := by decide +kernel
theorem ok0 : stepOk (stq 0) 97 = true := by decide +kernel
theorem ok1 : stepOk (stq 1) 98 = true := by decide +kernel
theorem ok2 : stepOk (stq 2) 99 = true := by decide +kernel
theorem new22_ok : scrErr (newScr 2 2) = 0 := by decide +kernel
theorem new22_grid : gridErr (2 : Nat) (2 : Nat) (newScr 2 2).cs = 0 := by decide +kernel
theorem new22_fits : Fits (newScr 2 2) := ⟨by decide, by decide, by decide, by decide, by decide, by decide, by decide +kernel⟩
theorem end_x : (stq 3).1.x = 1 := by decide +kernel
theorem end_y : (stq 3).1.y = 1 := by decide +kernel
theorem end_late : (stq 3).1.late = false := by decide +kernel
theorem end_last : (stq 3).1.last = 99 := by decide +kernel
def abcCs : List C := [(97, 0, 0, 0), (98, 0, 0, 0), (99, 0, 0, 0), (32, 0, 0, 0)]
theorem end_cs : (stq 3).2.flatten = abcCs := by decide +kernel
theorem end_rows : RowsOk (stq 3).1 (stq 3).2 := by
  have hl : (stq 3).2.length = 2 := by decide +kernel
  have hg : (stq 3).1.gone = [] := by decide +kernel
  have h0 : (stq 3).2.getD 0 [] ≠ [] := by decide +kernel
  have h1 : (stq 3).2.getD 1 [] ≠ [] := by decide +kernel
  refine ⟨by rw [hl]; omega, by rw [hl]; omega, fun i hi => ?_, by rw [end_cs]; decide, by rw [hg]; decide, fun i hi => by rw [hg] at hi; exact absurd hi (by simp)⟩
  rw [hl] at hi
  match i, hi with
  | 0, _ => exact h0
  | 1, _ => exact h1
theorem plain_text : Plain 16 := by
  intro args W
  kernel_rfl
theorem abc_does (B M : Nat) (w : World) (hT : Txt.Tab w) (hB : w.cell? ⟨B, 0, none⟩ = some (.string abc)) : Does 16 #[.pointer (some ⟨B, 0, none⟩)] M w (stq 0).1 (stq 3).1 (stq 0).2 (stq 3).2 := by
  have h := text1_does abc B M w stq hB
  rw [abc_runes] at h
  refine h ?_
  intro i hi X p hb hS
  have hTX := Grd.Tab.next hT hb
  have hN : ∀ Y, Below w.heap.size X Y → Txt.Tab Y := fun Y hY => Grd.Tab.next hT (hb.trans hY)
  match i, hi with
  | 0, _ => exact print_step X M w.heap.size p (stq 0) 97 hTX hN hS ok0
  | 1, _ => exact print_step X M w.heap.size p (stq 1) 98 hTX hN hS ok1
  | 2, _ => exact print_step X M w.heap.size p (stq 2) 99 hTX hN hS ok2
theorem abc_text (cv tv gv : Value) (w0 w : World) (hT : Txt.Tab w) (hV : ScrV w0 (newScr 2 2) cv tv gv) (hb0 : Below w0.heap.size w0 w) : Calls Tryz.prog 5 #[.agg (scrA (newScr 2 2) cv tv gv), .string abc] w (Made w0 w { (stq 3).1 with cs := abcCs } 0) := by
  have h := putText_any (newScr 2 2) { (stq 3).1 with cs := abcCs } cv tv gv abc (by decide) w0 w hT hV hb0 new22_fits
  rw [new22_ok] at h
  refine h fun W B hW hB => ?_
  exact change_good 2 2 (newScr 2 2) (stq 3).1 (stq 3).2 cv tv gv _ plain_text _ w0 W hV (hb0.trans (hW.mono hb0.size)) new22_fits rfl rfl new22_grid (fun w1 hw1 => abc_does B _ w1 (Grd.Tab.next (Grd.Tab.next hT hW) hw1) (cell_stay hw1 hB)) end_rows abcCs end_cs
set_option maxHeartbeats 4000000 in
set_option maxRecDepth 100000 in
theorem printed_any (w : World) (hT : Txt.Tab w) : Calls Tryz.prog 6 #[] w fun e w' => e = .returned (.bool true) ∧ Below w.heap.size w w' := by
  have HN := new_good' 2 2 w (by decide)
  have HT : Hid (∀ W, Below w.heap.size w W → Txt.Tab W) := fun W h => Grd.Tab.next hT h
  clear hT
  go_enter Tryz.func6, Tryz.ntmps6
  go_wp2_with fail
  refine HN.mono ?_
  rintro e W1 ⟨cv, tv, gv, rfl, hO, b1⟩
  obtain ⟨a1, n1, c1, a2, n2, c2, a3, n3, c3, rfl, rfl, rfl⟩ := hO.shapes
  generalize hs : newScr 2 2 = s at *
  have x1 := heap_alloc_new W1 (.cells #[.int .i64 0, .int .i64 0, .slice none 0 0, .int .i64 0, .int .i64 0, .bool false, .int .i64 0, .int .i64 0, .int .i64 0, .int .i64 0, .int .i64 0, .int .i64 0, .slice none 0 0, .int .i64 0, .int .i64 0, .int .i64 0, .int .i64 0, .int .i64 0, .int .i64 0, .int .i32 0, .string ⟨#[]⟩, .slice none 0 0] 32)
  have HX1 : Hid ((W1.alloc (.cells #[.int .i64 0, .int .i64 0, .slice none 0 0, .int .i64 0, .int .i64 0, .bool false, .int .i64 0, .int .i64 0, .int .i64 0, .int .i64 0, .int .i64 0, .int .i64 0, .slice none 0 0, .int .i64 0, .int .i64 0, .int .i64 0, .int .i64 0, .int .i64 0, .int .i64 0, .int .i32 0, .string ⟨#[]⟩, .slice none 0 0] 32)).heap[W1.heap.size]? = _) := x1
  have HV : Hid (ScrV W1 s _ _ _) := hO.scr
  have HB1 : Hid (Below w.heap.size w W1) := b1
  clear HN hO b1 x1
  go_upto_region 2 with (refine wpList_store_row rfl 32 (.tmp 1) _ rfl W1.heap.size (scrA s (.slice a1 n1 c1) (.slice a2 n2 c2) (.slice a3 n3 c3)) rfl rfl _ _ HX1.out (by kernel_rfl) rfl (scr_one _ _ _ _ _ _ _ _ _ _) ?_)
  have HX2 : Hid (((W1.alloc (.cells #[.int .i64 0, .int .i64 0, .slice none 0 0, .int .i64 0, .int .i64 0, .bool false, .int .i64 0, .int .i64 0, .int .i64 0, .int .i64 0, .int .i64 0, .int .i64 0, .slice none 0 0, .int .i64 0, .int .i64 0, .int .i64 0, .int .i64 0, .int .i64 0, .int .i64 0, .int .i32 0, .string ⟨#[]⟩, .slice none 0 0] 32)).setRow W1.heap.size (scrA s (.slice a1 n1 c1) (.slice a2 n2 c2) (.slice a3 n3 c3))).heap[W1.heap.size]? = some (.cells (scrA s (.slice a1 n1 c1) (.slice a2 n2 c2) (.slice a3 n3 c3)) 32 (0, 0))) := setRow_heap _ _ _ _ _ _ HX1.out
  have HBX : Hid (Below W1.heap.size W1 ((W1.alloc (.cells #[.int .i64 0, .int .i64 0, .slice none 0 0, .int .i64 0, .int .i64 0, .bool false, .int .i64 0, .int .i64 0, .int .i64 0, .int .i64 0, .int .i64 0, .int .i64 0, .slice none 0 0, .int .i64 0, .int .i64 0, .int .i64 0, .int .i64 0, .int .i64 0, .int .i64 0, .int .i32 0, .string ⟨#[]⟩, .slice none 0 0] 32)).setRow W1.heap.size (scrA s (.slice a1 n1 c1) (.slice a2 n2 c2) (.slice a3 n3 c3)))) := below_setRow ((Below.refl _ _).alloc (Nat.le_refl _) _) (Nat.le_refl _) _
  have HHS : Hid (newScr 2 2 = s) := hs
  clear HX1 hs
  generalize ((W1.alloc (.cells #[.int .i64 0, .int .i64 0, .slice none 0 0, .int .i64 0, .int .i64 0, .bool false, .int .i64 0, .int .i64 0, .int .i64 0, .int .i64 0, .int .i64 0, .int .i64 0, .slice none 0 0, .int .i64 0, .int .i64 0, .int .i64 0, .int .i64 0, .int .i64 0, .int .i64 0, .int .i32 0, .string ⟨#[]⟩, .slice none 0 0] 32)).setRow W1.heap.size (scrA s (.slice a1 n1 c1) (.slice a2 n2 c2) (.slice a3 n3 c3))) = X at *
  have HTX : Calls Tryz.prog 5 #[.agg (scrA s (.slice a1 n1 c1) (.slice a2 n2 c2) (.slice a3 n3 c3)), .string ⟨#[97, 98, 99]⟩] X (Made W1 X { (stq 3).1 with cs := abcCs } 0) := by
    have hv := HV.out
    rw [← HHS.out] at hv ⊢
    exact abc_text _ _ _ W1 X (HT.out X (HB1.out.trans (HBX.out.mono HB1.out.size))) hv HBX.out
  have h1 := end_x
  have h2 := end_y
  have h3 := end_late
  have h4 := end_last
  obtain ⟨s2, hs2⟩ : ∃ s2 : Scr, s2 = { (stq 3).1 with cs := abcCs } := ⟨_, rfl⟩
  have k1 : s2.x = 1 := by rw [hs2]; exact h1
  have k2 : s2.y = 1 := by rw [hs2]; exact h2
  have k3 : s2.late = false := by rw [hs2]; exact h3
  have k4 : s2.last = 99 := by rw [hs2]; exact h4
  have k5 : s2.cs = abcCs := by rw [hs2]
  rw [← hs2] at HTX
  have K : Hid (s2.x = 1 ∧ s2.y = 1 ∧ s2.late = false ∧ s2.last = 99 ∧ s2.cs = abcCs) := ⟨k1, k2, k3, k4, k5⟩
  clear h1 h2 h3 h4 hs2 k1 k2 k3 k4 k5
  go_wp2_with (refine wpList_load_row rfl 32 (.tmp 1) rfl W1.heap.size rfl _ _ _ _ HX2.out Tryz.underlying32 rfl (by kernel_rfl) ?_)
  refine HTX.mono ?_
  rintro e W2 ⟨cv', tv', gv', rfl, hO, b2⟩
  obtain ⟨a4, n4, c4, a5, n5, c5, a6, n6, c6, -, rfl, rfl⟩ := hO.shapes
  have hc := hO.c
  rw [K.out.2.2.2.2] at hc
  rcases hc with ⟨he, -⟩ | ⟨g, cap, rest, t, hv, hg, hl, hm, hh⟩
  · exact absurd he (by decide)
  subst hv
  have x2 := heap_alloc_new W2 (.cells #[.int .i64 0, .int .i64 0, .slice none 0 0, .int .i64 0, .int .i64 0, .bool false, .int .i64 0, .int .i64 0, .int .i64 0, .int .i64 0, .int .i64 0, .int .i64 0, .slice none 0 0, .int .i64 0, .int .i64 0, .int .i64 0, .int .i64 0, .int .i64 0, .int .i64 0, .int .i32 0, .string ⟨#[]⟩, .slice none 0 0] 32)
  have HX3 : Hid ((W2.alloc (.cells #[.int .i64 0, .int .i64 0, .slice none 0 0, .int .i64 0, .int .i64 0, .bool false, .int .i64 0, .int .i64 0, .int .i64 0, .int .i64 0, .int .i64 0, .int .i64 0, .slice none 0 0, .int .i64 0, .int .i64 0, .int .i64 0, .int .i64 0, .int .i64 0, .int .i64 0, .int .i32 0, .string ⟨#[]⟩, .slice none 0 0] 32)).heap[W2.heap.size]? = _) := x2
  have HX4 : Hid (((W2.alloc (.cells #[.int .i64 0, .int .i64 0, .slice none 0 0, .int .i64 0, .int .i64 0, .bool false, .int .i64 0, .int .i64 0, .int .i64 0, .int .i64 0, .int .i64 0, .int .i64 0, .slice none 0 0, .int .i64 0, .int .i64 0, .int .i64 0, .int .i64 0, .int .i64 0, .int .i64 0, .int .i32 0, .string ⟨#[]⟩, .slice none 0 0] 32)).setRow W2.heap.size (scrA s2 (.slice (some ⟨g, 0, none⟩) 4 cap) (.slice a5 n5 c5) (.slice a6 n6 c6))).heap[W2.heap.size]? = some (.cells (scrA s2 (.slice (some ⟨g, 0, none⟩) 4 cap) (.slice a5 n5 c5) (.slice a6 n6 c6)) 32 (0, 0))) := setRow_heap _ _ _ _ _ _ HX3.out
  have hb2 : Below w.heap.size w W2 := (HB1.out.trans (HBX.out.mono HB1.out.size)).trans (b2.mono (HB1.out.trans (HBX.out.mono HB1.out.size)).size)
  have HBY : Hid (Below w.heap.size w ((W2.alloc (.cells #[.int .i64 0, .int .i64 0, .slice none 0 0, .int .i64 0, .int .i64 0, .bool false, .int .i64 0, .int .i64 0, .int .i64 0, .int .i64 0, .int .i64 0, .int .i64 0, .slice none 0 0, .int .i64 0, .int .i64 0, .int .i64 0, .int .i64 0, .int .i64 0, .int .i64 0, .int .i32 0, .string ⟨#[]⟩, .slice none 0 0] 32)).setRow W2.heap.size (scrA s2 (.slice (some ⟨g, 0, none⟩) 4 cap) (.slice a5 n5 c5) (.slice a6 n6 c6)))) := below_setRow (hb2.alloc hb2.size _) hb2.size _
  have HG : Hid (CellsAt ((W2.alloc (.cells #[.int .i64 0, .int .i64 0, .slice none 0 0, .int .i64 0, .int .i64 0, .bool false, .int .i64 0, .int .i64 0, .int .i64 0, .int .i64 0, .int .i64 0, .int .i64 0, .slice none 0 0, .int .i64 0, .int .i64 0, .int .i64 0, .int .i64 0, .int .i64 0, .int .i64 0, .int .i32 0, .string ⟨#[]⟩, .slice none 0 0] 32)).setRow W2.heap.size (scrA s2 (.slice (some ⟨g, 0, none⟩) 4 cap) (.slice a5 n5 c5) (.slice a6 n6 c6))) g 0 abcCs) := by
    refine Grd.cellsAt_flat (t := t) (rest := rest) ?_
    rw [setRow_other _ _ _ _ (Nat.ne_of_lt (heap_lt hh)), Below.heap_alloc _ _ _ (heap_lt hh)]
    exact hh
  clear HTX hO b2 x2 hh hb2 HX2 HBX HB1 HV
  go_upto_region 3 with (refine wpList_store_row rfl 32 (.tmp 3) _ rfl W2.heap.size (scrA s2 (.slice (some ⟨g, 0, none⟩) 4 cap) (.slice a5 n5 c5) (.slice a6 n6 c6)) rfl rfl _ _ HX3.out (by kernel_rfl) rfl (scr_one _ _ _ _ _ _ _ _ _ _) ?_)
  clear HX3
  generalize ((W2.alloc (.cells #[.int .i64 0, .int .i64 0, .slice none 0 0, .int .i64 0, .int .i64 0, .bool false, .int .i64 0, .int .i64 0, .int .i64 0, .int .i64 0, .int .i64 0, .int .i64 0, .slice none 0 0, .int .i64 0, .int .i64 0, .int .i64 0, .int .i64 0, .int .i64 0, .int .i64 0, .int .i32 0, .string ⟨#[]⟩, .slice none 0 0] 32)).setRow W2.heap.size (scrA s2 (.slice (some ⟨g, 0, none⟩) 4 cap) (.slice a5 n5 c5) (.slice a6 n6 c6))) = Y at *
  obtain ⟨⟨-, -, d2, d3, d4, d5, -⟩, ⟨-, -, -, -, -, -, -, -, d19, -⟩, -⟩ := scr_cells HX4.out
  rw [K.out.1] at d3
  rw [K.out.2.1] at d4
  rw [K.out.2.2.1] at d5
  rw [K.out.2.2.2.1] at d19
  obtain ⟨e8, -⟩ := HG.out 2 (by decide)
  have e8' : Y.cell? ⟨g, 8, none⟩ = some (.int .i32 99) := e8
  clear e8
  go_wp2_with fail
  go_ret
  exact ⟨rfl, HBY.out⟩
end Put
end Go.Proofs.YtooaikdaahpngaaGreatDoor
