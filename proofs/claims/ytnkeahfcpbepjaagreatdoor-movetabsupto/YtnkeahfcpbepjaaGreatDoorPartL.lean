/- The reference's CheckScreen.  -/
import Derived.Test.YtnkeahfcpbepjaaGreatDoorPartG
import Derived.Test.YtnkeahfcpbepjaaGreatDoorPartK
import Derived.Laws.IdiomStrings
import Derived.Lib.QuietBelow
import Derived.BigQuiet
import Derived.Deep.RegionWith
import Derived.Deep.RegionHeld3
import Derived.Deep.Cut
import Derived.Deep.CutRange
import Derived.Test.YtnkeahfcpbepjaaGreatDoorPartJ
import Derived.Test.YtnkeahfcpbepjaaGreatDoorPartE
namespace Go.Proofs.YtnkeahfcpbepjaaGreatDoor
open Go.ChangeShapes Go.WideShapes Go.ChangeAt Go.RowKit Go.Sort
namespace Put
open Grd (C SliceAt CellsAt gridErr z0)
open Sty (isSt)
open Txt (wd)
/-- The world behind a text that was turned into runes. -/
def runesW (W : World) (t : ByteArray) : World := W.drew.alloc (.cells (Conv.runesFrom t t.size 0 #[] ++ Array.replicate (grownCap W (Conv.runesFrom t t.size 0 #[]).size 0 21 - (Conv.runesFrom t t.size 0 #[]).size) (.int .i32 0)) 21)
theorem runes_size (t : ByteArray) : ∀ (f i : Nat) (acc : Array Value), (Conv.runesFrom t f i acc).size = acc.size + Lib.runeCountFrom t f i
  | 0, _, acc => by simp [Conv.runesFrom, Lib.runeCountFrom]
  | f + 1, i, acc => by
    unfold Conv.runesFrom Lib.runeCountFrom
    split
    · rw [runes_size t f]
      simp
      omega
    · simp
theorem runes_conv (t : ByteArray) (ht : t.size ≤ 1048576) (W : World) : (convert 9 52 (.string t)).run Tryz.prog W = .ok (.slice (some ⟨W.heap.size, 0, none⟩) (Lib.runeCount t) (grownCap W (Conv.runesFrom t t.size 0 #[]).size 0 21)) (runesW W t) := by
  have hs : (Conv.runesFrom t t.size 0 #[]).size = Lib.runeCount t := by rw [runes_size]; simp [Lib.runeCount]
  have h := run_runes_of_string (P := Tryz.prog) W 9 52 21 t (by kernel_rfl) (by kernel_rfl) (by kernel_rfl) (by rw [hs]; have := Lib.runeCountFrom_le t t.size 0; unfold Lib.runeCount; omega)
  rw [h]
  unfold runesW
  rw [hs]
theorem below_runesW (W : World) (t : ByteArray) : Below W.heap.size W (runesW W t) := ((Below.refl _ W).drew).alloc (Nat.le_refl _) _
set_option maxHeartbeats 2000000 in
theorem within_any (a h x y : Int) (R : Nat) (W : World) (c0 : W.cell? ⟨R, 0, none⟩ = some (.int .i64 a)) (c1 : W.cell? ⟨R, 1, none⟩ = some (.int .i64 h)) : Calls Tryz.prog 122 #[.int .i64 x, .int .i64 y, .pointer (some ⟨R, 0, none⟩)] W fun e w' => e = .returned (.bool (hasC a h x y)) ∧ W = w' := by
  go_enter Tryz.func122, Tryz.ntmps122
  go_wp2
  all_goals (go_ret; refine ⟨ret_bool ?_, rfl⟩; clear c0 c1)
  all_goals (unfold hasC; rw [Bool.eq_iff_iff]; simp; try omega)
theorem checkRow_any (row : List C) (v : Value) (w : World) (hS : SliceAt w v row) : Calls Tryz.prog 124 #[v] w fun e w' => e = .returned (.bool (decide (gridErr row.length 1 row = 0))) ∧ Below w.heap.size w w' := by
  obtain ⟨ra, rc, hrv⟩ := hS.shape
  have H := Grd.ref_any (row.length : Int) 1 v row w hS
  subst hrv
  clear hS
  generalize gridErr row.length 1 row = ge at *
  go_enter Tryz.func124, Tryz.ntmps124
  go_wp2_with fail
  refine H.mono ?_
  rintro e W1 ⟨rfl, b1⟩
  go_wp2_with fail
  go_ret
  refine ⟨ret_bool ?_, b1⟩
  rw [Bool.eq_iff_iff]
  simp
theorem start13 {w W : World} {R : Nat} {t : TypeId} {s : Scr} {cv tv gv : Value} (hb : Below w.heap.size w W) (h : W.heap[R]? = some (.cells (scrA s cv tv gv) t (0, 0))) : Below w.heap.size w W ∧ W.heap[R]? = some (.cells (scrA s cv tv gv) t (0, 0)) ∧ W.cell? ⟨R, 0, none⟩ = some (.int .i64 s.w) ∧ W.cell? ⟨R, 12, none⟩ = some tv ∧ W.cell? ⟨R, 19, none⟩ = some (.int .i32 s.last) ∧ W.cell? ⟨R, 20, none⟩ = some (.string s.title) := by
  obtain ⟨⟨c0, -⟩, ⟨-, c12, -, -, -, -, -, -, c19, c20, -⟩, -⟩ := scr_cells h
  exact ⟨hb, h, c0, c12, c19, c20⟩
theorem next13 {w W V : World} {R : Nat} {t : TypeId} {s : Scr} {cv tv gv : Value} (h : Below w.heap.size w W ∧ W.heap[R]? = some (.cells (scrA s cv tv gv) t (0, 0)) ∧ W.cell? ⟨R, 0, none⟩ = some (.int .i64 s.w) ∧ W.cell? ⟨R, 12, none⟩ = some tv ∧ W.cell? ⟨R, 19, none⟩ = some (.int .i32 s.last) ∧ W.cell? ⟨R, 20, none⟩ = some (.string s.title)) (b : Below W.heap.size W V) : Below w.heap.size w V ∧ V.heap[R]? = some (.cells (scrA s cv tv gv) t (0, 0)) ∧ V.cell? ⟨R, 0, none⟩ = some (.int .i64 s.w) ∧ V.cell? ⟨R, 12, none⟩ = some tv ∧ V.cell? ⟨R, 19, none⟩ = some (.int .i32 s.last) ∧ V.cell? ⟨R, 20, none⟩ = some (.string s.title) :=
  start13 (h.1.trans (b.mono h.1.size)) (Grd.carry h.2.1 b)
theorem fin13 {w W : World} {R : Nat} {t : TypeId} {s : Scr} {cv tv gv c d : Value} (h : Below w.heap.size w W ∧ W.heap[R]? = some (.cells (scrA s cv tv gv) t (0, 0)) ∧ W.cell? ⟨R, 0, none⟩ = some (.int .i64 s.w) ∧ W.cell? ⟨R, 12, none⟩ = some tv ∧ W.cell? ⟨R, 19, none⟩ = some (.int .i32 s.last) ∧ W.cell? ⟨R, 20, none⟩ = some (.string s.title)) (e : c = d) : c = d ∧ Below w.heap.size w W ∧ W.heap[R]? = some (.cells (scrA s cv tv gv) t (0, 0)) := ⟨e, h.1, h.2.1⟩
/-- An operation of a region that draws, taken first: the operation itself is named by what is left of the list. -/
theorem heldTake {P : Program} {md : Region.Mode} {l : List Oper} {Q : Exit → Act → World → Prop} {S : World → Prop} {i : Nat} {oi : Oper} {rest : List Oper} {v : Value} {fuel : Nat} {listed : Array Bool} {a : Act} {w : World} (hi : l.drop i = oi :: rest)
    (hs : Region.noSelect l.toArray = true) (hf : Region.free md l.toArray listed i = true) (hr : (Region.ready md l.toArray listed).contains i = true)
    (hQ : ∀ c a w, Q (.panic c) (a.put oi.dst v) w → Q (.panic c) a w) (hy : YieldsIf P l.toArray S oi v a) (hS : S w)
    (h : wpAnyH P md l.toArray Q S fuel (listed.setIfInBounds i true) (a.put oi.dst v) w) : wpAnyH P md l.toArray Q S (fuel + 1) listed a w :=
  wpAnyH_take (by
    have h1 : l[i]? = some oi := by rw [← List.head?_drop, hi]; rfl
    simpa using h1) hs hf hr hQ hy hS h
theorem heldCons {P : Program} {md : Region.Mode} {l : List Oper} {Q : Exit → Act → World → Prop} {S : World → Prop} {fuel : Nat} {listed : Array Bool} {a : Act} {w : World} {i : Nat} {o : Oper} {rest : List Oper} {rs : List Nat} (hi : l.drop i = o :: rest)
    (h : ∀ K' : Act → World → Prop, Shut (∀ a w, S w → (S w → wpAnyH P md l.toArray Q S fuel (listed.setIfInBounds i true) a w) → K' a w) → if Region.wanted o (yielded l.toArray a.tmps) = true then Oper.wp P o a w K' Q else K' (a.put o.dst undef) w)
    (hs : AllReadyH P md l.toArray Q S fuel listed a w rs) : AllReadyH P md l.toArray Q S fuel listed a w (i :: rs) :=
  AllReadyH.cons (by
    have h1 : l[i]? = some o := by rw [← List.head?_drop, hi]; rfl
    simpa using h1) h hs
set_option linter.unusedSimpArgs false in
set_option maxHeartbeats 32000000 in
set_option maxRecDepth 100000 in
theorem checkScreen_any (s : Scr) (cv tv gv : Value) (w : World) (hV : ScrV w s cv tv gv) (hF : Fits s) :
    Calls Tryz.prog 65 #[.agg (scrA s cv tv gv)] w fun e w' => e = .returned (.int .i64 (scrErr s)) ∧ Below w.heap.size w w' := by
  obtain ⟨ca, cc, hcv⟩ := hV.c.shape
  obtain ⟨ta, tc, htv⟩ := hV.t.slice
  obtain ⟨ga, gc, hgv⟩ := hV.g.slice
  subst hcv htv hgv
  have x0 := heap_alloc_new w (.cells (scrA s (.slice ca s.cs.length cc) (.slice ta s.tabs.length tc) (.slice ga s.gone.length gc)) 32)
  have kb : Below w.heap.size w (w.alloc (.cells (scrA s (.slice ca s.cs.length cc) (.slice ta s.tabs.length tc) (.slice ga s.gone.length gc)) 32)) := (Below.refl _ _).alloc (Nat.le_refl _) _
  have HB0 : Hid _ := kb
  have HX0 : Hid _ := x0
  have HV : Hid (ScrV w s _ _ _) := hV
  have HF : Hid (Fits s) := hF
  obtain ⟨res, hres⟩ : ∃ res, scrErr s = res := ⟨_, rfl⟩
  rw [hres]
  have HC : Hid (scrErr s = res) := hres
  obtain ⟨⟨c0, c1, c2, c3, c4, c5, c6, c7, c8, c9, c10⟩, ⟨c11, c12, c13, c14, c15, c16, c17, c18, c19, c20, c21⟩, -⟩ := scr_cells x0
  have HGC := Grd.ref_any s.w s.h _ s.cs _ (HV.out.c.below HB0.out)
  clear x0 kb hV hF hres
  by_cases hz : gridErr s.w s.h s.cs = 0
  case neg =>
    have hzb : (gridErr s.w s.h s.cs != 0) = true := by simp [bne, hz]
    have HR : Hid (gridErr s.w s.h s.cs = res) := by
      unfold Hid
      rw [← HC.out]
      unfold scrErr
      rw [if_pos hz]
    clear hz
    generalize gridErr s.w s.h s.cs = ge at *
    go_enter Tryz.func65, Tryz.ntmps65
    go_wp2_with fail
    refine HGC.mono ?_
    rintro e W1 ⟨rfl, b⟩
    clear c0 c1 c2 c3 c4 c5 c6 c7 c8 c9 c10 c11 c12 c13 c14 c15 c16 c17 c18 c19 c20 c21
    go_wp2_with fail
    go_ret
    exact ⟨ret_int HR.out, HB0.out.trans (b.mono HB0.out.size)⟩
  obtain ⟨w1, w2, w3, w4⟩ := grid_size hz
  rw [hz] at HGC
  have HZ : Hid (gridErr s.w s.h s.cs = 0) := hz
  clear hz
  go_enter Tryz.func65, Tryz.ntmps65
  go_wp2_with fail
  refine HGC.mono ?_
  rintro e W1 ⟨rfl, b⟩
  have HX1 : Hid (W1.heap[w.heap.size]? = _) := Grd.carry HX0.out b
  have HB1 : Hid (Below w.heap.size w W1) := HB0.out.trans (b.mono HB0.out.size)
  clear c0 c1 c2 c3 c4 c5 c6 c7 c8 c9 c10 c11 c12 c13 c14 c15 c16 c17 c18 c19 c20 c21 b HGC
  go_upto_region 5 with fail
  go_cut [31] from 14 to 31 (fun c wx => c = .bool (!(hasC s.w s.h s.x s.y && hasC s.w s.h s.kx s.ky)) ∧ wx = W1)
  case first =>
    obtain ⟨⟨c0, c1, c2, c3, c4, c5, c6, c7, c8, c9, c10⟩, ⟨c11, c12, c13, c14, c15, c16, c17, c18, c19, c20, c21⟩, -⟩ := scr_cells HX1.out
    have H1 := within_any s.w s.h s.x s.y w.heap.size W1 c0 c1
    have H2 := within_any s.w s.h s.kx s.ky w.heap.size W1 c0 c1
    generalize hasC s.w s.h s.x s.y = b1 at *
    generalize hasC s.w s.h s.kx s.ky = b2 at *
    cases b1 with
    | false =>
      go_wp2_with fail
      refine H1.mono ?_
      rintro e V ⟨rfl, hv⟩
      subst hv
      go_wp2_with fail
      go_meet
      exact ⟨rfl, rfl⟩
    | true =>
      go_wp2_with fail
      refine H1.mono ?_
      rintro e V ⟨rfl, hv⟩
      subst hv
      go_wp2_with fail
      refine H2.mono ?_
      rintro e V ⟨rfl, hv⟩
      subst hv
      cases b2 with
      | false =>
        go_wp2_with fail
        go_meet
        exact ⟨rfl, rfl⟩
      | true =>
        go_wp2_with fail
        go_meet
        exact ⟨rfl, rfl⟩
  case rest =>
    obtain ⟨rfl, hwx⟩ := hcut
    subst hwx
    cases h12 : (hasC s.w s.h s.x s.y && hasC s.w s.h s.kx s.ky) with
    | false =>
      have HR : Hid (4 = res) := by
        unfold Hid
        rw [← HC.out]
        unfold scrErr placeOk
        rw [HZ.out, ← Bool.and_assoc, h12]
        simp
      go_wp2_with fail
      go_ret
      exact ⟨ret_int HR.out, HB1.out⟩
    | true =>
      have HH : Hid ((hasC s.w s.h s.x s.y && hasC s.w s.h s.kx s.ky) = true) := h12
      clear h12
      go_upto_region 7 with fail
      go_cut [62] from 32 to 62 (fun c wx => c = .bool (!regionOk s.h s.top s.bot) ∧ wx = wc)
      case first =>
        obtain ⟨⟨c0, c1, c2, c3, c4, c5, c6, c7, c8, c9, c10⟩, ⟨c11, c12, c13, c14, c15, c16, c17, c18, c19, c20, c21⟩, -⟩ := scr_cells HX1.out
        generalize hro : regionOk s.h s.top s.bot = ro at *
        have HRO : Hid (regionOk s.h s.top s.bot = ro) := hro
        clear hro
        go_wp2_with fail
        all_goals go_meet
        all_goals refine ⟨congrArg Value.bool ?_, rfl⟩
        all_goals (rw [← HRO.out]; unfold regionOk; rw [Bool.eq_iff_iff]; simp at *; try omega)
      case rest =>
        obtain ⟨rfl, hwx⟩ := hcut
        subst hwx
        cases h3 : regionOk s.h s.top s.bot with
        | false =>
          have HR : Hid (4 = res) := by
            unfold Hid
            rw [← HC.out]
            unfold scrErr placeOk
            rw [HZ.out, h3]
            simp
          go_wp2_with fail
          go_ret
          exact ⟨ret_int HR.out, HB1.out⟩
        | true =>
          have HP : Hid (placeOk s = true) := by
            unfold Hid placeOk
            rw [← Bool.and_assoc, HH.out, h3]
            rfl
          clear h3 HH
          go_upto_region 9 with fail
          go_cut [80] from 63 to 80 (fun c wx => c = .bool (lateBad s) ∧ wx = wc)
          case first =>
            obtain ⟨⟨c0, c1, c2, c3, c4, c5, c6, c7, c8, c9, c10⟩, ⟨c11, c12, c13, c14, c15, c16, c17, c18, c19, c20, c21⟩, -⟩ := scr_cells HX1.out
            cases hl : s.late with
            | false =>
              have HLT : Hid (lateBad s = false) := by unfold Hid lateBad; rw [hl]; rfl
              go_wp2_with fail
              go_meet
              exact ⟨by rw [HLT.out], rfl⟩
            | true =>
              by_cases hx : s.x = s.w - 1
              case neg =>
                have hxb : (s.x == s.w - 1) = false := by rw [beq_eq_false_iff_ne]; exact hx
                have HLT : Hid (lateBad s = true) := by unfold Hid lateBad; rw [hl, decide_eq_false hx]; rfl
                clear hx
                go_wp2_with fail
                go_meet
                exact ⟨by rw [HLT.out], rfl⟩
              have hxb : (s.x == s.w - 1) = true := by rw [beq_iff_eq]; exact hx
              by_cases hm4 : bits .and .i64 s.modes 4 = 0
              · have hmb : (bits .and .i64 s.modes 4 != 0) = false := by rw [bne_eq_false_iff_eq]; exact hm4
                have HLT : Hid (lateBad s = true) := by unfold Hid lateBad; rw [hl, decide_eq_true hm4]; simp
                clear hx hm4
                go_wp2_with fail
                go_meet
                exact ⟨by rw [HLT.out], rfl⟩
              · have hmb : (bits .and .i64 s.modes 4 != 0) = true := by rw [bne_iff_ne]; exact hm4
                have HLT : Hid (lateBad s = false) := by unfold Hid lateBad; rw [hl, decide_eq_false hm4, decide_eq_true hx]; rfl
                clear hx hm4
                go_wp2_with fail
                go_meet
                exact ⟨by rw [HLT.out], rfl⟩
          case rest =>
            obtain ⟨rfl, hwx⟩ := hcut
            subst hwx
            cases h4 : lateBad s with
            | true =>
              have HR : Hid (5 = res) := by
                unfold Hid
                rw [← HC.out]
                simp [scrErr, HZ.out, HP.out, h4]
              go_wp2_with fail
              go_ret
              exact ⟨ret_int HR.out, HB1.out⟩
            | false =>
              have HLT : Hid (lateBad s = false) := h4
              clear h4
              go_upto_region 11 with fail
              go_cut [120] from 81 to 120 (fun c wx => c = .bool (!looksOk s) ∧ Below w.heap.size w wx ∧ wx.heap[w.heap.size]? = some (.cells (scrA s (.slice ca s.cs.length cc) (.slice ta s.tabs.length tc) (.slice ga s.gone.length gc)) 32 (0, 0)))
              case first =>
                obtain ⟨⟨c0, c1, c2, c3, c4, c5, c6, c7, c8, c9, c10⟩, ⟨c11, c12, c13, c14, c15, c16, c17, c18, c19, c20, c21⟩, -⟩ := scr_cells HX1.out
                have HLO : Hid (looksOk s = (isSt (s.sf, s.sb, s.sx) && (isSt (s.kf, s.kb, s.kbits) && (decide (0 ≤ s.modes ∧ s.modes ≤ 63) && keptOk s.km)))) := rfl
                have H5 := Sty.isStyle_any s.sf s.sb s.sx wc
                have H6 : Hid (∀ W, Calls Tryz.prog 123 #[.agg #[.int .i64 s.kf, .int .i64 s.kb, .int .i64 s.kbits]] W fun e w' => e = .returned (.bool (isSt (s.kf, s.kb, s.kbits))) ∧ Below W.heap.size W w') := fun W => Sty.isStyle_any _ _ _ W
                generalize isSt (s.sf, s.sb, s.sx) = s1 at *
                generalize isSt (s.kf, s.kb, s.kbits) = s2 at *
                generalize looksOk s = lo at *
                go_wp2_with fail
                refine H5.mono ?_
                rintro e V ⟨rfl, b⟩
                have HXV : Hid (V.heap[w.heap.size]? = _) := Grd.carry HX1.out b
                have HBV : Hid (Below w.heap.size w V) := HB1.out.trans (b.mono HB1.out.size)
                clear c0 c1 c2 c3 c4 c5 c6 c7 c8 c9 c10 c11 c12 c13 c14 c15 c16 c17 c18 c19 c20 c21 b H5
                obtain ⟨⟨c0, c1, c2, c3, c4, c5, c6, c7, c8, c9, c10⟩, ⟨c11, c12, c13, c14, c15, c16, c17, c18, c19, c20, c21⟩, -⟩ := scr_cells HXV.out
                cases s1 with
                | false =>
                  go_wp2_with fail
                  go_meet
                  exact ⟨by rw [HLO.out]; rfl, HBV.out, HXV.out⟩
                | true =>
                  go_wp2_with fail
                  refine (H6.out V).mono ?_
                  rintro e V2 ⟨rfl, b⟩
                  have HXV2 : Hid (V2.heap[w.heap.size]? = _) := Grd.carry HXV.out b
                  have HBV2 : Hid (Below w.heap.size w V2) := HBV.out.trans (b.mono HBV.out.size)
                  clear c0 c1 c2 c3 c4 c5 c6 c7 c8 c9 c10 c11 c12 c13 c14 c15 c16 c17 c18 c19 c20 c21 b H6
                  obtain ⟨⟨c0, c1, c2, c3, c4, c5, c6, c7, c8, c9, c10⟩, ⟨c11, c12, c13, c14, c15, c16, c17, c18, c19, c20, c21⟩, -⟩ := scr_cells HXV2.out
                  cases s2 with
                  | false =>
                    go_wp2_with fail
                    go_meet
                    exact ⟨by rw [HLO.out]; rfl, HBV2.out, HXV2.out⟩
                  | true =>
                    by_cases m0 : s.modes < 0
                    · go_wp2_with fail
                      go_meet
                      exact ⟨by rw [HLO.out, decide_eq_false (by omega)]; rfl, HBV2.out, HXV2.out⟩
                    by_cases m1 : 63 < s.modes
                    · go_wp2_with fail
                      go_meet
                      exact ⟨by rw [HLO.out, decide_eq_false (by omega)]; rfl, HBV2.out, HXV2.out⟩
                    by_cases k0 : s.km < 0
                    · have hkk : keptOk s.km = false := by
                        cases h : keptOk s.km with
                        | false => rfl
                        | true => have := kept_range _ h; omega
                      have HLN : Hid ((!lo) = true) := by unfold Hid; rw [HLO.out, hkk]; simp
                      clear hkk
                      go_wp2_with fail
                      go_meet
                      exact ⟨by rw [HLN.out], HBV2.out, HXV2.out⟩
                    by_cases k1 : bits .and .i64 s.km 57 = 0
                    case neg =>
                      have k1b : (bits .and .i64 s.km 57 != 0) = true := by rw [bne_iff_ne]; exact k1
                      have hkk : keptOk s.km = false := by
                        cases h : keptOk s.km with
                        | false => rfl
                        | true => have h2 := kept_range _ h; exact absurd ((kept_ref _ h2.1 h2.2).2 h) k1
                      have HLN : Hid ((!lo) = true) := by unfold Hid; rw [HLO.out, hkk]; simp
                      clear hkk k1
                      go_wp2_with fail
                      go_meet
                      exact ⟨by rw [HLN.out], HBV2.out, HXV2.out⟩
                    have k1b : (bits .and .i64 s.km 57 != 0) = false := by rw [bne_eq_false_iff_eq]; exact k1
                    by_cases k2 : 63 < s.km
                    · have hkk : keptOk s.km = false := by
                        cases h : keptOk s.km with
                        | false => rfl
                        | true => have := kept_range _ h; omega
                      have HLN : Hid ((!lo) = true) := by unfold Hid; rw [HLO.out, hkk]; simp
                      clear hkk k1
                      go_wp2_with fail
                      go_meet
                      exact ⟨by rw [HLN.out], HBV2.out, HXV2.out⟩
                    have hkk : keptOk s.km = true := (kept_ref _ (by omega) (by omega)).1 k1
                    have HLN : Hid ((!lo) = false) := by unfold Hid; rw [HLO.out, hkk, decide_eq_true ⟨by omega, by omega⟩]; rfl
                    clear hkk k1
                    go_wp2_with fail
                    go_meet
                    exact ⟨by rw [HLN.out]; refine congrArg Value.bool ?_; simp; omega, HBV2.out, HXV2.out⟩
              case rest =>
                obtain ⟨rfl, hBw, hXw⟩ := hcut
                cases h5 : looksOk s with
                | false =>
                  have HR : Hid (4 = res) := by
                    unfold Hid
                    rw [← HC.out]
                    simp [scrErr, HZ.out, HP.out, HLT.out, h5]
                  go_wp2_with fail
                  go_ret
                  exact ⟨ret_int HR.out, hBw⟩
                | true =>
                  have HLK : Hid (looksOk s = true) := h5
                  have HBW : Hid (Below w.heap.size w wc) := hBw
                  have HXW : Hid (wc.heap[w.heap.size]? = _) := hXw
                  clear h5 hBw hXw
                  go_upto_region 13 with fail
                  go_cut [153] from 121 to 153 (fun c wx => c = .bool (!restOk s) ∧ Below w.heap.size w wx ∧ wx.heap[w.heap.size]? = some (.cells (scrA s (.slice ca s.cs.length cc) (.slice ta s.tabs.length tc) (.slice ga s.gone.length gc)) 32 (0, 0)))
                  case first =>
                    obtain ⟨⟨c0, c1, c2, c3, c4, c5, c6, c7, c8, c9, c10⟩, ⟨c11, c12, c13, c14, c15, c16, c17, c18, c19, c20, c21⟩, -⟩ := scr_cells HXW.out
                    have htb := HF.out.bl
                    have z0 : ∀ d os, (grow (redrawn wc d) os).cell? ⟨w.heap.size, 0, none⟩ = some (.int .i64 s.w) := fun d os => cell_regrown c0 d os
                    have z12 : ∀ d os, (grow (redrawn wc d) os).cell? ⟨w.heap.size, 12, none⟩ = some (.slice ta s.tabs.length tc) := fun d os => cell_regrown c12 d os
                    have z19 : ∀ d os, (grow (redrawn wc d) os).cell? ⟨w.heap.size, 19, none⟩ = some (.int .i32 s.last) := fun d os => cell_regrown c19 d os
                    have z20 : ∀ d os, (grow (redrawn wc d) os).cell? ⟨w.heap.size, 20, none⟩ = some (.string s.title) := fun d os => cell_regrown c20 d os
                    have HRE : Hid (restOk s = (decide ((s.tabs.length : Int) = s.w) && ((decide (s.last = 0) || !decide (wd s.last = 0)) && ((s.title.toList == (Txt.bs (Txt.cleanL (Txt.runes s.title))).toList) && decide (Lib.runeCount s.title ≤ 20))))) := rfl
                    have HCU : Hid (∀ W, Calls Tryz.prog 30 #[.string s.title] W fun e w' => e = .returned (.string (Txt.bs (Txt.cleanL (Txt.runes s.title)))) ∧ Below W.heap.size W w') := fun W => Txt.cleanOf_any s.title W (by have := HF.out.tl; omega)
                    have HCG : Hid (∀ d os, Calls Tryz.prog 30 #[.string s.title] (grow (redrawn wc d) os) fun r w'' => r = .returned (.string (Txt.bs (Txt.cleanL (Txt.runes s.title)))) ∧ ∃ p : Regrown, w'' = grow (redrawn wc p.d) p.os) := fun d os => Calls.regrown_of (HCU.out _)
                    have HWG : Hid (∀ d os, Calls Tryz.prog 69 #[.int .i32 s.last] (grow (redrawn wc d) os) fun r w'' => r = .returned (.int .i64 (wd s.last)) ∧ ∃ p : Regrown, w'' = grow (redrawn wc p.d) p.os) := fun d os => Calls.regrown_of (Grd.widthOf_to s.last _ _ rfl)
                    generalize Txt.bs (Txt.cleanL (Txt.runes s.title)) = u at *
                    generalize restOk s = rb at *
                    by_cases t1 : (s.tabs.length : Int) = s.w
                    case neg =>
                      have t1b : ((s.tabs.length : Int) != s.w) = true := by rw [bne_iff_ne]; exact t1
                      have HRB : Hid (rb = false) := by unfold Hid; rw [HRE.out, decide_eq_false t1]; rfl
                      clear t1
                      refine wp_region_quiet_below (by kernel_rfl) (by kernel_rfl) ?_
                      repeat (first | go_big_quiet_skip | quiet_step (fail))
                      refine wpQuiet_nil ?_
                      intro _ hw'
                      obtain ⟨⟨dq, os⟩, hw''⟩ := hw'
                      subst hw''
                      go_wp2_with fail
                      go_meet
                      exact ⟨by rw [HRB.out]; rfl, HBW.out.trans ((below_regrown wc dq os).mono HBW.out.size), Grd.carry HXW.out (below_regrown wc dq os)⟩
                    have t1b : ((s.tabs.length : Int) != s.w) = false := by rw [bne_eq_false_iff_eq]; exact t1
                    have HRB1 : Hid (rb = ((decide (s.last = 0) || !decide (wd s.last = 0)) && ((s.title.toList == u.toList) && decide (Lib.runeCount s.title ≤ 20)))) := by unfold Hid; rw [HRE.out, decide_eq_true t1]; rfl
                    clear t1 HRE
                    by_cases l0 : s.last = 0
                    · have l0b : (s.last != 0) = false := by rw [bne_eq_false_iff_eq]; exact l0
                      have HRB0 : Hid (rb = ((s.title.toList == u.toList) && decide (Lib.runeCount s.title ≤ 20))) := by unfold Hid; rw [HRB1.out, decide_eq_true l0]; rfl
                      clear l0 HRB1
                      cases hq : (u.toList == s.title.toList) with
                      | false =>
                        have HRB : Hid (rb = false) := by
                          unfold Hid
                          rw [HRB0.out, show (s.title.toList == u.toList) = false by rw [beq_eq_false_iff_ne]; intro h; rw [h] at hq; simp at hq]
                          simp
                        refine wp_region_quiet_below (by kernel_rfl) (by kernel_rfl) ?_
                        repeat (first | go_big_quiet_skip | quiet_step (first | (go_at_call 30; exact HCG.out _ _)))
                        refine wpQuiet_nil ?_
                        intro _ hw'
                        obtain ⟨⟨dq, os⟩, hw''⟩ := hw'
                        subst hw''
                        go_wp2_with fail
                        go_meet
                        exact ⟨by rw [HRB.out]; rfl, HBW.out.trans ((below_regrown wc dq os).mono HBW.out.size), Grd.carry HXW.out (below_regrown wc dq os)⟩
                      | true =>
                        have HEQ : Hid ((s.title.toList == u.toList) = true) := by
                          unfold Hid
                          have hq2 := eq_of_beq hq
                          rw [hq2]
                          simp
                        have hcv := runes_conv s.title HF.out.tl
                        clear z0 z12 z19 z20
                        have HRB : Hid (rb = decide (Lib.runeCount s.title ≤ 20)) := by unfold Hid; rw [HRB0.out, HEQ.out, Bool.true_and]
                        have hrc : Lib.runeCount s.title ≤ 9223372036854775807 := by have := Lib.runeCountFrom_le s.title s.title.size 0; have := HF.out.tl; unfold Lib.runeCount; omega
                        have hst := start13 HBW.out HXW.out
                        clear c0 c1 c2 c3 c4 c5 c6 c7 c8 c9 c10 c11 c12 c13 c14 c15 c16 c17 c18 c19 c20 c21 HCG HWG
                        refine wp_region_held_drew (S := (fun wx => Below w.heap.size w wx ∧ wx.heap[w.heap.size]? = some (.cells (scrA s (.slice ca s.cs.length cc) (.slice ta s.tabs.length tc) (.slice ga s.gone.length gc)) 32 (0, 0)) ∧ wx.cell? ⟨w.heap.size, 0, none⟩ = some (.int .i64 s.w) ∧ wx.cell? ⟨w.heap.size, 12, none⟩ = some (.slice ta s.tabs.length tc) ∧ wx.cell? ⟨w.heap.size, 19, none⟩ = some (.int .i32 s.last) ∧ wx.cell? ⟨w.heap.size, 20, none⟩ = some (.string s.title))) (by kernel_rfl) (next13 hst ((Below.refl _ _).drew)) (fun hHeld => ?_)
                        refine heldTake (i := 0) (v := ?_) rfl (by kernel_rfl) (by kernel_rfl) (by kernel_rfl) (fun _ _ _ h => h) (Or.inl ⟨by rfl, ?_⟩) hHeld ?_
                        rotate_left
                        · (intro wq hSw; obtain ⟨-, -, e0, e12, e19, e20⟩ := hSw; go_simp; try with_reducible rfl)
                        try simp only [Act.put, List.setIfInBounds_toArray, List.set_cons_zero, List.set_cons_succ]
                        refine heldTake (i := 1) (v := ?_) rfl (by kernel_rfl) (by kernel_rfl) (by kernel_rfl) (fun _ _ _ h => h) (Or.inl ⟨by rfl, ?_⟩) hHeld ?_
                        rotate_left
                        · (intro wq hSw; obtain ⟨-, -, e0, e12, e19, e20⟩ := hSw; go_simp; try with_reducible rfl)
                        try simp only [Act.put, List.setIfInBounds_toArray, List.set_cons_zero, List.set_cons_succ]
                        refine heldTake (i := 2) (v := ?_) rfl (by kernel_rfl) (by kernel_rfl) (by kernel_rfl) (fun _ _ _ h => h) (Or.inl ⟨by rfl, ?_⟩) hHeld ?_
                        rotate_left
                        · (intro wq hSw; obtain ⟨-, -, e0, e12, e19, e20⟩ := hSw; go_simp; try with_reducible rfl)
                        try simp only [Act.put, List.setIfInBounds_toArray, List.set_cons_zero, List.set_cons_succ]
                        refine heldTake (i := 3) (v := ?_) rfl (by kernel_rfl) (by kernel_rfl) (by kernel_rfl) (fun _ _ _ h => h) (Or.inl ⟨by rfl, ?_⟩) hHeld ?_
                        rotate_left
                        · (intro wq hSw; obtain ⟨-, -, e0, e12, e19, e20⟩ := hSw; go_simp; try with_reducible rfl)
                        try simp only [Act.put, List.setIfInBounds_toArray, List.set_cons_zero, List.set_cons_succ]
                        refine heldTake (i := 4) (v := ?_) rfl (by kernel_rfl) (by kernel_rfl) (by kernel_rfl) (fun _ _ _ h => h) (Or.inl ⟨by rfl, ?_⟩) hHeld ?_
                        rotate_left
                        · (intro wq hSw; obtain ⟨-, -, e0, e12, e19, e20⟩ := hSw; go_simp; try with_reducible rfl)
                        try simp only [Act.put, List.setIfInBounds_toArray, List.set_cons_zero, List.set_cons_succ]
                        refine heldTake (i := 5) (v := ?_) rfl (by kernel_rfl) (by kernel_rfl) (by kernel_rfl) (fun _ _ _ h => h) (Or.inl ⟨by rfl, ?_⟩) hHeld ?_
                        rotate_left
                        · (intro wq hSw; obtain ⟨-, -, e0, e12, e19, e20⟩ := hSw; go_simp; try with_reducible rfl)
                        try simp only [Act.put, List.setIfInBounds_toArray, List.set_cons_zero, List.set_cons_succ]
                        refine heldTake (i := 6) (v := ?_) rfl (by kernel_rfl) (by kernel_rfl) (by kernel_rfl) (fun _ _ _ h => h) (Or.inl ⟨by rfl, ?_⟩) hHeld ?_
                        rotate_left
                        · (intro wq hSw; obtain ⟨-, -, e0, e12, e19, e20⟩ := hSw; go_simp; try with_reducible rfl)
                        try simp only [Act.put, List.setIfInBounds_toArray, List.set_cons_zero, List.set_cons_succ]
                        refine heldTake (i := 7) (v := ?_) rfl (by kernel_rfl) (by kernel_rfl) (by kernel_rfl) (fun _ _ _ h => h) (Or.inl ⟨by rfl, ?_⟩) hHeld ?_
                        rotate_left
                        · (intro wq hSw; obtain ⟨-, -, e0, e12, e19, e20⟩ := hSw; go_simp; try with_reducible rfl)
                        try simp only [Act.put, List.setIfInBounds_toArray, List.set_cons_zero, List.set_cons_succ]
                        refine heldTake (i := 8) (v := ?_) rfl (by kernel_rfl) (by kernel_rfl) (by kernel_rfl) (fun _ _ _ h => h) (Or.inl ⟨by rfl, ?_⟩) hHeld ?_
                        rotate_left
                        · (intro wq hSw; obtain ⟨-, -, e0, e12, e19, e20⟩ := hSw; go_simp; try with_reducible rfl)
                        try simp only [Act.put, List.setIfInBounds_toArray, List.set_cons_zero, List.set_cons_succ]
                        refine heldTake (i := 9) (v := ?_) rfl (by kernel_rfl) (by kernel_rfl) (by kernel_rfl) (fun _ _ _ h => h) (Or.inl ⟨by rfl, ?_⟩) hHeld ?_
                        rotate_left
                        · (intro wq hSw; obtain ⟨-, -, e0, e12, e19, e20⟩ := hSw; go_simp; try with_reducible rfl)
                        try simp only [Act.put, List.setIfInBounds_toArray, List.set_cons_zero, List.set_cons_succ]
                        refine heldTake (i := 10) (v := ?_) rfl (by kernel_rfl) (by kernel_rfl) (by kernel_rfl) (fun _ _ _ h => h) (Or.inl ⟨by rfl, ?_⟩) hHeld ?_
                        rotate_left
                        · (intro wq hSw; obtain ⟨-, -, e0, e12, e19, e20⟩ := hSw; go_simp; try with_reducible rfl)
                        try simp only [Act.put, List.setIfInBounds_toArray, List.set_cons_zero, List.set_cons_succ]
                        refine heldTake (i := 11) (v := ?_) rfl (by kernel_rfl) (by kernel_rfl) (by kernel_rfl) (fun _ _ _ h => h) (Or.inl ⟨by rfl, ?_⟩) hHeld ?_
                        rotate_left
                        · (intro wq hSw; obtain ⟨-, -, e0, e12, e19, e20⟩ := hSw; go_simp; try with_reducible rfl)
                        try simp only [Act.put, List.setIfInBounds_toArray, List.set_cons_zero, List.set_cons_succ]
                        refine heldTake (i := 12) (v := undef) rfl (by kernel_rfl) (by kernel_rfl) (by kernel_rfl) (fun _ _ _ h => h) (Or.inr ⟨by rfl, rfl⟩) hHeld ?_
                        try simp only [Act.put, List.setIfInBounds_toArray, List.set_cons_zero, List.set_cons_succ]
                        refine heldTake (i := 13) (v := undef) rfl (by kernel_rfl) (by kernel_rfl) (by kernel_rfl) (fun _ _ _ h => h) (Or.inr ⟨by rfl, rfl⟩) hHeld ?_
                        try simp only [Act.put, List.setIfInBounds_toArray, List.set_cons_zero, List.set_cons_succ]
                        refine heldTake (i := 14) (v := undef) rfl (by kernel_rfl) (by kernel_rfl) (by kernel_rfl) (fun _ _ _ h => h) (Or.inr ⟨by rfl, rfl⟩) hHeld ?_
                        try simp only [Act.put, List.setIfInBounds_toArray, List.set_cons_zero, List.set_cons_succ]
                        refine heldTake (i := 15) (v := undef) rfl (by kernel_rfl) (by kernel_rfl) (by kernel_rfl) (fun _ _ _ h => h) (Or.inr ⟨by rfl, rfl⟩) hHeld ?_
                        try simp only [Act.put, List.setIfInBounds_toArray, List.set_cons_zero, List.set_cons_succ]
                        refine heldTake (i := 16) (v := ?_) rfl (by kernel_rfl) (by kernel_rfl) (by kernel_rfl) (fun _ _ _ h => h) (Or.inl ⟨by rfl, ?_⟩) hHeld ?_
                        rotate_left
                        · (intro wq hSw; obtain ⟨-, -, e0, e12, e19, e20⟩ := hSw; go_simp; try with_reducible rfl)
                        try simp only [Act.put, List.setIfInBounds_toArray, List.set_cons_zero, List.set_cons_succ]
                        refine heldTake (i := 17) (v := ?_) rfl (by kernel_rfl) (by kernel_rfl) (by kernel_rfl) (fun _ _ _ h => h) (Or.inl ⟨by rfl, ?_⟩) hHeld ?_
                        rotate_left
                        · (intro wq hSw; obtain ⟨-, -, e0, e12, e19, e20⟩ := hSw; go_simp; try with_reducible rfl)
                        try simp only [Act.put, List.setIfInBounds_toArray, List.set_cons_zero, List.set_cons_succ]
                        refine heldTake (i := 18) (v := ?_) rfl (by kernel_rfl) (by kernel_rfl) (by kernel_rfl) (fun _ _ _ h => h) (Or.inl ⟨by rfl, ?_⟩) hHeld ?_
                        rotate_left
                        · (intro wq hSw; obtain ⟨-, -, e0, e12, e19, e20⟩ := hSw; go_simp; try with_reducible rfl)
                        try simp only [Act.put, List.setIfInBounds_toArray, List.set_cons_zero, List.set_cons_succ]
                        refine heldTake (i := 19) (v := ?_) rfl (by kernel_rfl) (by kernel_rfl) (by kernel_rfl) (fun _ _ _ h => h) (Or.inl ⟨by rfl, ?_⟩) hHeld ?_
                        rotate_left
                        · (intro wq hSw; obtain ⟨-, -, e0, e12, e19, e20⟩ := hSw; go_simp; try with_reducible rfl)
                        try simp only [Act.put, List.setIfInBounds_toArray, List.set_cons_zero, List.set_cons_succ]
                        refine heldTake (i := 20) (v := ?_) rfl (by kernel_rfl) (by kernel_rfl) (by kernel_rfl) (fun _ _ _ h => h) (Or.inl ⟨by rfl, ?_⟩) hHeld ?_
                        rotate_left
                        · (intro wq hSw; obtain ⟨-, -, e0, e12, e19, e20⟩ := hSw; go_simp; try with_reducible rfl)
                        try simp only [Act.put, List.setIfInBounds_toArray, List.set_cons_zero, List.set_cons_succ]
                        refine heldTake (i := 22) (v := ?_) rfl (by kernel_rfl) (by kernel_rfl) (by kernel_rfl) (fun _ _ _ h => h) (Or.inl ⟨by rfl, ?_⟩) hHeld ?_
                        rotate_left
                        · (intro wq hSw; obtain ⟨-, -, e0, e12, e19, e20⟩ := hSw; go_simp; try with_reducible rfl)
                        try simp only [Act.put, List.setIfInBounds_toArray, List.set_cons_zero, List.set_cons_succ]
                        refine heldTake (i := 23) (v := ?_) rfl (by kernel_rfl) (by kernel_rfl) (by kernel_rfl) (fun _ _ _ h => h) (Or.inl ⟨by rfl, ?_⟩) hHeld ?_
                        rotate_left
                        · (intro wq hSw; obtain ⟨-, -, e0, e12, e19, e20⟩ := hSw; go_simp; try with_reducible rfl)
                        try simp only [Act.put, List.setIfInBounds_toArray, List.set_cons_zero, List.set_cons_succ]
                        refine wpAnyH_ready (rs := [21]) (by kernel_rfl) (by simp) (heldCons rfl (fun K hK => ?_) AllReadyH.nil)
                        go_simp
                        refine (HCU.out _).mono ?_
                        rintro e V2 ⟨rfl, b2⟩
                        go_wp2_with fail
                        refine hK.out _ _ (next13 hHeld b2) (fun hHeld2 => ?_)
                        clear hK K hHeld
                        have hHeld := hHeld2
                        clear hHeld2
                        try simp only [Act.put, List.setIfInBounds_toArray, List.set_cons_zero, List.set_cons_succ]
                        refine heldTake (i := 24) (v := ?_) rfl (by kernel_rfl) (by kernel_rfl) (by kernel_rfl) (fun _ _ _ h => h) (Or.inl ⟨by rfl, ?_⟩) hHeld ?_
                        rotate_left
                        · (intro wq hSw; obtain ⟨-, -, e0, e12, e19, e20⟩ := hSw; go_simp; try with_reducible rfl)
                        try simp only [Act.put, List.setIfInBounds_toArray, List.set_cons_zero, List.set_cons_succ]
                        refine heldTake (i := 25) (v := ?_) rfl (by kernel_rfl) (by kernel_rfl) (by kernel_rfl) (fun _ _ _ h => h) (Or.inl ⟨by rfl, ?_⟩) hHeld ?_
                        rotate_left
                        · (intro wq hSw; obtain ⟨-, -, e0, e12, e19, e20⟩ := hSw; go_simp; try with_reducible rfl)
                        try simp only [Act.put, List.setIfInBounds_toArray, List.set_cons_zero, List.set_cons_succ]
                        refine heldTake (i := 26) (v := ?_) rfl (by kernel_rfl) (by kernel_rfl) (by kernel_rfl) (fun _ _ _ h => h) (Or.inl ⟨by rfl, ?_⟩) hHeld ?_
                        rotate_left
                        · (intro wq hSw; obtain ⟨-, -, e0, e12, e19, e20⟩ := hSw; go_simp; try with_reducible rfl)
                        try simp only [Act.put, List.setIfInBounds_toArray, List.set_cons_zero, List.set_cons_succ]
                        refine heldTake (i := 27) (v := ?_) rfl (by kernel_rfl) (by kernel_rfl) (by kernel_rfl) (fun _ _ _ h => h) (Or.inl ⟨by rfl, ?_⟩) hHeld ?_
                        rotate_left
                        · (intro wq hSw; obtain ⟨-, -, e0, e12, e19, e20⟩ := hSw; go_simp; try with_reducible rfl)
                        try simp only [Act.put, List.setIfInBounds_toArray, List.set_cons_zero, List.set_cons_succ]
                        refine heldTake (i := 28) (v := ?_) rfl (by kernel_rfl) (by kernel_rfl) (by kernel_rfl) (fun _ _ _ h => h) (Or.inl ⟨by rfl, ?_⟩) hHeld ?_
                        rotate_left
                        · (intro wq hSw; obtain ⟨-, -, e0, e12, e19, e20⟩ := hSw; go_simp; try with_reducible rfl)
                        try simp only [Act.put, List.setIfInBounds_toArray, List.set_cons_zero, List.set_cons_succ]
                        refine wpAnyH_ready (rs := [29]) (by kernel_rfl) (by simp) (heldCons rfl (fun K hK => ?_) AllReadyH.nil)
                        go_simp
                        refine hK.out _ _ (next13 hHeld (below_runesW _ _)) (fun hHeld2 => ?_)
                        clear hK K hHeld
                        have hHeld := hHeld2
                        clear hHeld2
                        try simp only [Act.put, List.setIfInBounds_toArray, List.set_cons_zero, List.set_cons_succ]
                        refine heldTake (i := 30) (v := ?_) rfl (by kernel_rfl) (by kernel_rfl) (by kernel_rfl) (fun _ _ _ h => h) (Or.inl ⟨by rfl, ?_⟩) hHeld ?_
                        rotate_left
                        · (intro wq hSw; obtain ⟨-, -, e0, e12, e19, e20⟩ := hSw; go_simp; try with_reducible rfl)
                        try simp only [Act.put, List.setIfInBounds_toArray, List.set_cons_zero, List.set_cons_succ]
                        refine heldTake (i := 31) (v := ?_) rfl (by kernel_rfl) (by kernel_rfl) (by kernel_rfl) (fun _ _ _ h => h) (Or.inl ⟨by rfl, ?_⟩) hHeld ?_
                        rotate_left
                        · (intro wq hSw; obtain ⟨-, -, e0, e12, e19, e20⟩ := hSw; go_simp; try with_reducible rfl)
                        try simp only [Act.put, List.setIfInBounds_toArray, List.set_cons_zero, List.set_cons_succ]
                        refine heldTake (i := 32) (v := ?_) rfl (by kernel_rfl) (by kernel_rfl) (by kernel_rfl) (fun _ _ _ h => h) (Or.inl ⟨by rfl, ?_⟩) hHeld ?_
                        rotate_left
                        · (intro wq hSw; obtain ⟨-, -, e0, e12, e19, e20⟩ := hSw; go_simp; try with_reducible rfl)
                        try simp only [Act.put, List.setIfInBounds_toArray, List.set_cons_zero, List.set_cons_succ]
                        refine wpAnyH_done (by kernel_rfl) ?_ _
                        all_goals clear hst
                        all_goals go_wp2_with fail
                        all_goals go_meet
                        all_goals refine fin13 (by assumption) ?_
                        all_goals (rw [HRB.out]; refine congrArg Value.bool ?_; rw [Bool.eq_iff_iff]; simp; try omega)
                    · have l0b : (s.last != 0) = true := by rw [bne_iff_ne]; exact l0
                      by_cases l1 : wd s.last = 0
                      · have l1b : (wd s.last == 0) = true := by rw [beq_iff_eq]; exact l1
                        have HRB : Hid (rb = false) := by unfold Hid; rw [HRB1.out, decide_eq_true l1, decide_eq_false l0]; rfl
                        clear l0 l1 HRB1
                        refine wp_region_quiet_below (by kernel_rfl) (by kernel_rfl) ?_
                        repeat (first | go_big_quiet_skip | quiet_step (first | (go_at_call 69; exact HWG.out _ _)))
                        refine wpQuiet_nil ?_
                        intro _ hw'
                        obtain ⟨⟨dq, os⟩, hw''⟩ := hw'
                        subst hw''
                        go_wp2_with fail
                        go_meet
                        exact ⟨by rw [HRB.out]; rfl, HBW.out.trans ((below_regrown wc dq os).mono HBW.out.size), Grd.carry HXW.out (below_regrown wc dq os)⟩
                      · have l1b : (wd s.last == 0) = false := by rw [beq_eq_false_iff_ne]; exact l1
                        have HRB0 : Hid (rb = ((s.title.toList == u.toList) && decide (Lib.runeCount s.title ≤ 20))) := by unfold Hid; rw [HRB1.out, decide_eq_false l1]; simp
                        clear l0 l1 HRB1
                        cases hq : (u.toList == s.title.toList) with
                        | false =>
                          have HRB : Hid (rb = false) := by
                            unfold Hid
                            rw [HRB0.out, show (s.title.toList == u.toList) = false by rw [beq_eq_false_iff_ne]; intro h; rw [h] at hq; simp at hq]
                            simp
                          refine wp_region_quiet_below (by kernel_rfl) (by kernel_rfl) ?_
                          repeat (first | go_big_quiet_skip | quiet_step (first | (go_at_call 69; exact HWG.out _ _) | (go_at_call 30; exact HCG.out _ _)))
                          refine wpQuiet_nil ?_
                          intro _ hw'
                          obtain ⟨⟨dq, os⟩, hw''⟩ := hw'
                          subst hw''
                          go_wp2_with fail
                          go_meet
                          exact ⟨by rw [HRB.out]; rfl, HBW.out.trans ((below_regrown wc dq os).mono HBW.out.size), Grd.carry HXW.out (below_regrown wc dq os)⟩
                        | true =>
                          have HEQ : Hid ((s.title.toList == u.toList) = true) := by
                            unfold Hid
                            have hq2 := eq_of_beq hq
                            rw [hq2]
                            simp
                          have hcv := runes_conv s.title HF.out.tl
                          clear z0 z12 z19 z20
                          have HRB : Hid (rb = decide (Lib.runeCount s.title ≤ 20)) := by unfold Hid; rw [HRB0.out, HEQ.out, Bool.true_and]
                          have hrc : Lib.runeCount s.title ≤ 9223372036854775807 := by have := Lib.runeCountFrom_le s.title s.title.size 0; have := HF.out.tl; unfold Lib.runeCount; omega
                          have hst := start13 HBW.out HXW.out
                          clear c0 c1 c2 c3 c4 c5 c6 c7 c8 c9 c10 c11 c12 c13 c14 c15 c16 c17 c18 c19 c20 c21 HCG HWG
                          refine wp_region_held_drew (S := (fun wx => Below w.heap.size w wx ∧ wx.heap[w.heap.size]? = some (.cells (scrA s (.slice ca s.cs.length cc) (.slice ta s.tabs.length tc) (.slice ga s.gone.length gc)) 32 (0, 0)) ∧ wx.cell? ⟨w.heap.size, 0, none⟩ = some (.int .i64 s.w) ∧ wx.cell? ⟨w.heap.size, 12, none⟩ = some (.slice ta s.tabs.length tc) ∧ wx.cell? ⟨w.heap.size, 19, none⟩ = some (.int .i32 s.last) ∧ wx.cell? ⟨w.heap.size, 20, none⟩ = some (.string s.title))) (by kernel_rfl) (next13 hst ((Below.refl _ _).drew)) (fun hHeld => ?_)
                          refine heldTake (i := 0) (v := ?_) rfl (by kernel_rfl) (by kernel_rfl) (by kernel_rfl) (fun _ _ _ h => h) (Or.inl ⟨by rfl, ?_⟩) hHeld ?_
                          rotate_left
                          · (intro wq hSw; obtain ⟨-, -, e0, e12, e19, e20⟩ := hSw; go_simp; try with_reducible rfl)
                          try simp only [Act.put, List.setIfInBounds_toArray, List.set_cons_zero, List.set_cons_succ]
                          refine heldTake (i := 1) (v := ?_) rfl (by kernel_rfl) (by kernel_rfl) (by kernel_rfl) (fun _ _ _ h => h) (Or.inl ⟨by rfl, ?_⟩) hHeld ?_
                          rotate_left
                          · (intro wq hSw; obtain ⟨-, -, e0, e12, e19, e20⟩ := hSw; go_simp; try with_reducible rfl)
                          try simp only [Act.put, List.setIfInBounds_toArray, List.set_cons_zero, List.set_cons_succ]
                          refine heldTake (i := 2) (v := ?_) rfl (by kernel_rfl) (by kernel_rfl) (by kernel_rfl) (fun _ _ _ h => h) (Or.inl ⟨by rfl, ?_⟩) hHeld ?_
                          rotate_left
                          · (intro wq hSw; obtain ⟨-, -, e0, e12, e19, e20⟩ := hSw; go_simp; try with_reducible rfl)
                          try simp only [Act.put, List.setIfInBounds_toArray, List.set_cons_zero, List.set_cons_succ]
                          refine heldTake (i := 3) (v := ?_) rfl (by kernel_rfl) (by kernel_rfl) (by kernel_rfl) (fun _ _ _ h => h) (Or.inl ⟨by rfl, ?_⟩) hHeld ?_
                          rotate_left
                          · (intro wq hSw; obtain ⟨-, -, e0, e12, e19, e20⟩ := hSw; go_simp; try with_reducible rfl)
                          try simp only [Act.put, List.setIfInBounds_toArray, List.set_cons_zero, List.set_cons_succ]
                          refine heldTake (i := 4) (v := ?_) rfl (by kernel_rfl) (by kernel_rfl) (by kernel_rfl) (fun _ _ _ h => h) (Or.inl ⟨by rfl, ?_⟩) hHeld ?_
                          rotate_left
                          · (intro wq hSw; obtain ⟨-, -, e0, e12, e19, e20⟩ := hSw; go_simp; try with_reducible rfl)
                          try simp only [Act.put, List.setIfInBounds_toArray, List.set_cons_zero, List.set_cons_succ]
                          refine heldTake (i := 5) (v := ?_) rfl (by kernel_rfl) (by kernel_rfl) (by kernel_rfl) (fun _ _ _ h => h) (Or.inl ⟨by rfl, ?_⟩) hHeld ?_
                          rotate_left
                          · (intro wq hSw; obtain ⟨-, -, e0, e12, e19, e20⟩ := hSw; go_simp; try with_reducible rfl)
                          try simp only [Act.put, List.setIfInBounds_toArray, List.set_cons_zero, List.set_cons_succ]
                          refine heldTake (i := 6) (v := ?_) rfl (by kernel_rfl) (by kernel_rfl) (by kernel_rfl) (fun _ _ _ h => h) (Or.inl ⟨by rfl, ?_⟩) hHeld ?_
                          rotate_left
                          · (intro wq hSw; obtain ⟨-, -, e0, e12, e19, e20⟩ := hSw; go_simp; try with_reducible rfl)
                          try simp only [Act.put, List.setIfInBounds_toArray, List.set_cons_zero, List.set_cons_succ]
                          refine heldTake (i := 7) (v := ?_) rfl (by kernel_rfl) (by kernel_rfl) (by kernel_rfl) (fun _ _ _ h => h) (Or.inl ⟨by rfl, ?_⟩) hHeld ?_
                          rotate_left
                          · (intro wq hSw; obtain ⟨-, -, e0, e12, e19, e20⟩ := hSw; go_simp; try with_reducible rfl)
                          try simp only [Act.put, List.setIfInBounds_toArray, List.set_cons_zero, List.set_cons_succ]
                          refine heldTake (i := 8) (v := ?_) rfl (by kernel_rfl) (by kernel_rfl) (by kernel_rfl) (fun _ _ _ h => h) (Or.inl ⟨by rfl, ?_⟩) hHeld ?_
                          rotate_left
                          · (intro wq hSw; obtain ⟨-, -, e0, e12, e19, e20⟩ := hSw; go_simp; try with_reducible rfl)
                          try simp only [Act.put, List.setIfInBounds_toArray, List.set_cons_zero, List.set_cons_succ]
                          refine heldTake (i := 9) (v := ?_) rfl (by kernel_rfl) (by kernel_rfl) (by kernel_rfl) (fun _ _ _ h => h) (Or.inl ⟨by rfl, ?_⟩) hHeld ?_
                          rotate_left
                          · (intro wq hSw; obtain ⟨-, -, e0, e12, e19, e20⟩ := hSw; go_simp; try with_reducible rfl)
                          try simp only [Act.put, List.setIfInBounds_toArray, List.set_cons_zero, List.set_cons_succ]
                          refine heldTake (i := 10) (v := ?_) rfl (by kernel_rfl) (by kernel_rfl) (by kernel_rfl) (fun _ _ _ h => h) (Or.inl ⟨by rfl, ?_⟩) hHeld ?_
                          rotate_left
                          · (intro wq hSw; obtain ⟨-, -, e0, e12, e19, e20⟩ := hSw; go_simp; try with_reducible rfl)
                          try simp only [Act.put, List.setIfInBounds_toArray, List.set_cons_zero, List.set_cons_succ]
                          refine heldTake (i := 11) (v := ?_) rfl (by kernel_rfl) (by kernel_rfl) (by kernel_rfl) (fun _ _ _ h => h) (Or.inl ⟨by rfl, ?_⟩) hHeld ?_
                          rotate_left
                          · (intro wq hSw; obtain ⟨-, -, e0, e12, e19, e20⟩ := hSw; go_simp; try with_reducible rfl)
                          try simp only [Act.put, List.setIfInBounds_toArray, List.set_cons_zero, List.set_cons_succ]
                          refine heldTake (i := 12) (v := ?_) rfl (by kernel_rfl) (by kernel_rfl) (by kernel_rfl) (fun _ _ _ h => h) (Or.inl ⟨by rfl, ?_⟩) hHeld ?_
                          rotate_left
                          · (intro wq hSw; obtain ⟨-, -, e0, e12, e19, e20⟩ := hSw; go_simp; try with_reducible rfl)
                          try simp only [Act.put, List.setIfInBounds_toArray, List.set_cons_zero, List.set_cons_succ]
                          refine heldTake (i := 13) (v := ?_) rfl (by kernel_rfl) (by kernel_rfl) (by kernel_rfl) (fun _ _ _ h => h) (Or.inl ⟨by rfl, ?_⟩) hHeld ?_
                          rotate_left
                          · (intro wq hSw; obtain ⟨-, -, e0, e12, e19, e20⟩ := hSw; go_simp; try with_reducible rfl)
                          try simp only [Act.put, List.setIfInBounds_toArray, List.set_cons_zero, List.set_cons_succ]
                          refine wpAnyH_ready (rs := [14]) (by kernel_rfl) (by simp) (heldCons rfl (fun K hK => ?_) AllReadyH.nil)
                          go_simp
                          refine (Grd.widthOf_to s.last _ _ rfl).mono ?_
                          rintro e V1 ⟨rfl, b1⟩
                          go_wp2_with fail
                          refine hK.out _ _ (next13 hHeld b1) (fun hHeld2 => ?_)
                          clear hK K hHeld
                          have hHeld := hHeld2
                          clear hHeld2
                          try simp only [Act.put, List.setIfInBounds_toArray, List.set_cons_zero, List.set_cons_succ]
                          refine heldTake (i := 15) (v := ?_) rfl (by kernel_rfl) (by kernel_rfl) (by kernel_rfl) (fun _ _ _ h => h) (Or.inl ⟨by rfl, ?_⟩) hHeld ?_
                          rotate_left
                          · (intro wq hSw; obtain ⟨-, -, e0, e12, e19, e20⟩ := hSw; go_simp; try with_reducible rfl)
                          try simp only [Act.put, List.setIfInBounds_toArray, List.set_cons_zero, List.set_cons_succ]
                          refine heldTake (i := 16) (v := ?_) rfl (by kernel_rfl) (by kernel_rfl) (by kernel_rfl) (fun _ _ _ h => h) (Or.inl ⟨by rfl, ?_⟩) hHeld ?_
                          rotate_left
                          · (intro wq hSw; obtain ⟨-, -, e0, e12, e19, e20⟩ := hSw; go_simp; try with_reducible rfl)
                          try simp only [Act.put, List.setIfInBounds_toArray, List.set_cons_zero, List.set_cons_succ]
                          refine heldTake (i := 17) (v := ?_) rfl (by kernel_rfl) (by kernel_rfl) (by kernel_rfl) (fun _ _ _ h => h) (Or.inl ⟨by rfl, ?_⟩) hHeld ?_
                          rotate_left
                          · (intro wq hSw; obtain ⟨-, -, e0, e12, e19, e20⟩ := hSw; go_simp; try with_reducible rfl)
                          try simp only [Act.put, List.setIfInBounds_toArray, List.set_cons_zero, List.set_cons_succ]
                          refine heldTake (i := 18) (v := ?_) rfl (by kernel_rfl) (by kernel_rfl) (by kernel_rfl) (fun _ _ _ h => h) (Or.inl ⟨by rfl, ?_⟩) hHeld ?_
                          rotate_left
                          · (intro wq hSw; obtain ⟨-, -, e0, e12, e19, e20⟩ := hSw; go_simp; try with_reducible rfl)
                          try simp only [Act.put, List.setIfInBounds_toArray, List.set_cons_zero, List.set_cons_succ]
                          refine heldTake (i := 19) (v := ?_) rfl (by kernel_rfl) (by kernel_rfl) (by kernel_rfl) (fun _ _ _ h => h) (Or.inl ⟨by rfl, ?_⟩) hHeld ?_
                          rotate_left
                          · (intro wq hSw; obtain ⟨-, -, e0, e12, e19, e20⟩ := hSw; go_simp; try with_reducible rfl)
                          try simp only [Act.put, List.setIfInBounds_toArray, List.set_cons_zero, List.set_cons_succ]
                          refine heldTake (i := 20) (v := ?_) rfl (by kernel_rfl) (by kernel_rfl) (by kernel_rfl) (fun _ _ _ h => h) (Or.inl ⟨by rfl, ?_⟩) hHeld ?_
                          rotate_left
                          · (intro wq hSw; obtain ⟨-, -, e0, e12, e19, e20⟩ := hSw; go_simp; try with_reducible rfl)
                          try simp only [Act.put, List.setIfInBounds_toArray, List.set_cons_zero, List.set_cons_succ]
                          refine heldTake (i := 22) (v := ?_) rfl (by kernel_rfl) (by kernel_rfl) (by kernel_rfl) (fun _ _ _ h => h) (Or.inl ⟨by rfl, ?_⟩) hHeld ?_
                          rotate_left
                          · (intro wq hSw; obtain ⟨-, -, e0, e12, e19, e20⟩ := hSw; go_simp; try with_reducible rfl)
                          try simp only [Act.put, List.setIfInBounds_toArray, List.set_cons_zero, List.set_cons_succ]
                          refine heldTake (i := 23) (v := ?_) rfl (by kernel_rfl) (by kernel_rfl) (by kernel_rfl) (fun _ _ _ h => h) (Or.inl ⟨by rfl, ?_⟩) hHeld ?_
                          rotate_left
                          · (intro wq hSw; obtain ⟨-, -, e0, e12, e19, e20⟩ := hSw; go_simp; try with_reducible rfl)
                          try simp only [Act.put, List.setIfInBounds_toArray, List.set_cons_zero, List.set_cons_succ]
                          refine wpAnyH_ready (rs := [21]) (by kernel_rfl) (by simp) (heldCons rfl (fun K hK => ?_) AllReadyH.nil)
                          go_simp
                          refine (HCU.out _).mono ?_
                          rintro e V2 ⟨rfl, b2⟩
                          go_wp2_with fail
                          refine hK.out _ _ (next13 hHeld b2) (fun hHeld2 => ?_)
                          clear hK K hHeld
                          have hHeld := hHeld2
                          clear hHeld2
                          try simp only [Act.put, List.setIfInBounds_toArray, List.set_cons_zero, List.set_cons_succ]
                          refine heldTake (i := 24) (v := ?_) rfl (by kernel_rfl) (by kernel_rfl) (by kernel_rfl) (fun _ _ _ h => h) (Or.inl ⟨by rfl, ?_⟩) hHeld ?_
                          rotate_left
                          · (intro wq hSw; obtain ⟨-, -, e0, e12, e19, e20⟩ := hSw; go_simp; try with_reducible rfl)
                          try simp only [Act.put, List.setIfInBounds_toArray, List.set_cons_zero, List.set_cons_succ]
                          refine heldTake (i := 25) (v := ?_) rfl (by kernel_rfl) (by kernel_rfl) (by kernel_rfl) (fun _ _ _ h => h) (Or.inl ⟨by rfl, ?_⟩) hHeld ?_
                          rotate_left
                          · (intro wq hSw; obtain ⟨-, -, e0, e12, e19, e20⟩ := hSw; go_simp; try with_reducible rfl)
                          try simp only [Act.put, List.setIfInBounds_toArray, List.set_cons_zero, List.set_cons_succ]
                          refine heldTake (i := 26) (v := ?_) rfl (by kernel_rfl) (by kernel_rfl) (by kernel_rfl) (fun _ _ _ h => h) (Or.inl ⟨by rfl, ?_⟩) hHeld ?_
                          rotate_left
                          · (intro wq hSw; obtain ⟨-, -, e0, e12, e19, e20⟩ := hSw; go_simp; try with_reducible rfl)
                          try simp only [Act.put, List.setIfInBounds_toArray, List.set_cons_zero, List.set_cons_succ]
                          refine heldTake (i := 27) (v := ?_) rfl (by kernel_rfl) (by kernel_rfl) (by kernel_rfl) (fun _ _ _ h => h) (Or.inl ⟨by rfl, ?_⟩) hHeld ?_
                          rotate_left
                          · (intro wq hSw; obtain ⟨-, -, e0, e12, e19, e20⟩ := hSw; go_simp; try with_reducible rfl)
                          try simp only [Act.put, List.setIfInBounds_toArray, List.set_cons_zero, List.set_cons_succ]
                          refine heldTake (i := 28) (v := ?_) rfl (by kernel_rfl) (by kernel_rfl) (by kernel_rfl) (fun _ _ _ h => h) (Or.inl ⟨by rfl, ?_⟩) hHeld ?_
                          rotate_left
                          · (intro wq hSw; obtain ⟨-, -, e0, e12, e19, e20⟩ := hSw; go_simp; try with_reducible rfl)
                          try simp only [Act.put, List.setIfInBounds_toArray, List.set_cons_zero, List.set_cons_succ]
                          refine wpAnyH_ready (rs := [29]) (by kernel_rfl) (by simp) (heldCons rfl (fun K hK => ?_) AllReadyH.nil)
                          go_simp
                          refine hK.out _ _ (next13 hHeld (below_runesW _ _)) (fun hHeld2 => ?_)
                          clear hK K hHeld
                          have hHeld := hHeld2
                          clear hHeld2
                          try simp only [Act.put, List.setIfInBounds_toArray, List.set_cons_zero, List.set_cons_succ]
                          refine heldTake (i := 30) (v := ?_) rfl (by kernel_rfl) (by kernel_rfl) (by kernel_rfl) (fun _ _ _ h => h) (Or.inl ⟨by rfl, ?_⟩) hHeld ?_
                          rotate_left
                          · (intro wq hSw; obtain ⟨-, -, e0, e12, e19, e20⟩ := hSw; go_simp; try with_reducible rfl)
                          try simp only [Act.put, List.setIfInBounds_toArray, List.set_cons_zero, List.set_cons_succ]
                          refine heldTake (i := 31) (v := ?_) rfl (by kernel_rfl) (by kernel_rfl) (by kernel_rfl) (fun _ _ _ h => h) (Or.inl ⟨by rfl, ?_⟩) hHeld ?_
                          rotate_left
                          · (intro wq hSw; obtain ⟨-, -, e0, e12, e19, e20⟩ := hSw; go_simp; try with_reducible rfl)
                          try simp only [Act.put, List.setIfInBounds_toArray, List.set_cons_zero, List.set_cons_succ]
                          refine heldTake (i := 32) (v := ?_) rfl (by kernel_rfl) (by kernel_rfl) (by kernel_rfl) (fun _ _ _ h => h) (Or.inl ⟨by rfl, ?_⟩) hHeld ?_
                          rotate_left
                          · (intro wq hSw; obtain ⟨-, -, e0, e12, e19, e20⟩ := hSw; go_simp; try with_reducible rfl)
                          try simp only [Act.put, List.setIfInBounds_toArray, List.set_cons_zero, List.set_cons_succ]
                          refine wpAnyH_done (by kernel_rfl) ?_ _
                          all_goals clear hst
                          all_goals go_wp2_with fail
                          all_goals go_meet
                          all_goals refine fin13 (by assumption) ?_
                          all_goals (rw [HRB.out]; refine congrArg Value.bool ?_; rw [Bool.eq_iff_iff]; simp; try omega)
                  case rest =>
                    obtain ⟨rfl, hBw, hXw⟩ := hcut
                    cases h6 : restOk s with
                    | false =>
                      have HR : Hid (5 = res) := by
                        unfold Hid
                        rw [← HC.out]
                        simp [scrErr, HZ.out, HP.out, HLT.out, HLK.out, h6]
                      go_wp2_with fail
                      go_ret
                      exact ⟨ret_int HR.out, hBw⟩
                    | true =>
                      have HRS : Hid (restOk s = true) := h6
                      have HB9 : Hid (Below w.heap.size w wc) := hBw
                      have HX9 : Hid (wc.heap[w.heap.size]? = _) := hXw
                      clear h6 hBw hXw
                      obtain ⟨⟨c0, c1, c2, c3, c4, c5, c6, c7, c8, c9, c10⟩, ⟨c11, c12, c13, c14, c15, c16, c17, c18, c19, c20, c21⟩, -⟩ := scr_cells HX9.out
                      by_cases g50 : 50 < s.gone.length
                      · have g51 : (50 : Int) < (s.gone.length : Int) := by omega
                        have HR : Hid (2 = res) := by
                          unfold Hid
                          rw [← HC.out]
                          simp [scrErr, HZ.out, HP.out, HLT.out, HLK.out, HRS.out, goneErr, g50]
                        go_wp2_with fail
                        go_ret
                        exact ⟨ret_int HR.out, HB9.out⟩
                      · have g51 : ¬ (50 : Int) < (s.gone.length : Int) := by omega
                        have HE : Hid (res = if goneBad s.gone then 5 else 0) := by
                          unfold Hid
                          rw [← HC.out]
                          simp [scrErr, HZ.out, HP.out, HLT.out, HLK.out, HRS.out, goneErr, g50]
                        go_wp2_with fail
                        clear c0 c1 c2 c3 c4 c5 c6 c7 c8 c9 c10 c11 c12 c13 c14 c15 c16 c17 c18 c19 c20 c21
                        go_loopg [161] s.gone.length (fun q i wr => ∃ k : Nat, k ≤ s.gone.length ∧ s.gone.length - k ≤ q ∧ i = .int .i64 k ∧ Below w.heap.size w wr ∧ goneBad (s.gone.drop k) = goneBad s.gone)
                        case atStart => exact ⟨0, by omega, by omega, rfl, HB9.out, rfl⟩
                        case round =>
                          obtain ⟨k, hk, hq, rfl, hb, hg⟩ := hrel
                          have HB : Hid (Below w.heap.size w wr) := hb
                          have HGB : Hid (goneBad (s.gone.drop k) = goneBad s.gone) := hg
                          clear hb hg
                          by_cases hlt : k < s.gone.length
                          · have lt1 : ((k : Int) < (s.gone.length : Int)) := by omega
                            rcases HV.out.g with ⟨he, -⟩ | ⟨b, o, c, hvv, -, -, hc⟩
                            · rw [he] at hlt
                              exact absurd hlt (by simp)
                            injection hvv with hvv1 hvv2 hvv3
                            subst hvv1 hvv3
                            obtain ⟨rv, hc1, hS⟩ := hc k hlt
                            have q0 := cell_stay HB.out hc1
                            have HCR := checkRow_any (s.gone.getD k []) rv wr (hS.below HB.out)
                            have HD : Hid (goneBad s.gone = (!decide (gridErr (s.gone.getD k []).length 1 (s.gone.getD k []) = 0) || goneBad (s.gone.drop (k + 1)))) := by
                              unfold Hid
                              rw [← HGB.out]
                              exact any_drop _ s.gone k hlt []
                            generalize s.gone.getD k [] = row at *
                            obtain ⟨ra, rc, hrv⟩ := hS.shape
                            subst hrv
                            clear hc hc1 hS
                            cases hz : decide (gridErr row.length 1 row = 0) with
                            | true =>
                              rw [hz] at HCR HD
                              go_wp2_with fail
                              refine HCR.mono ?_
                              rintro e V1 ⟨rfl, b1⟩
                              clear HCR
                              go_wp2_with fail
                              go_roundg (s.gone.length - (k + 1))
                              case measure => omega
                              case rel => exact ⟨k + 1, by omega, by omega, by go_num, HB.out.trans (b1.mono HB.out.size), by rw [HD.out]; rfl⟩
                            | false =>
                              rw [hz] at HCR HD
                              go_wp2_with fail
                              refine HCR.mono ?_
                              rintro e V1 ⟨rfl, b1⟩
                              clear HCR
                              go_wp2_with fail
                              go_ret
                              exact ⟨ret_int (by rw [HE.out, HD.out]; rfl), HB.out.trans (b1.mono HB.out.size)⟩
                          · have lt1 : ¬ ((k : Int) < (s.gone.length : Int)) := by omega
                            have HD2 : Hid (goneBad s.gone = false) := by
                              unfold Hid
                              rw [← HGB.out, List.drop_eq_nil_of_le (by omega)]
                              rfl
                            go_wp2_with fail
                            go_ret
                            exact ⟨ret_int (by rw [HE.out, HD2.out]; rfl), HB.out⟩
end Put
end Go.Proofs.YtnkeahfcpbepjaaGreatDoor

/- advance; (*sheet.Sheet).Feed. -/
namespace Go.Proofs.YtnkeahfcpbepjaaGreatDoor
open Go.ChangeShapes Go.WideShapes Go.ChangeAt Go.RowKit
namespace Put
open Grd (C)
theorem ShAt.framed {W : World} {M N p i : Nat} {s : Scr} {rows : List (List C)} {v : Value} (h : ShAt 64 W M N p s rows) : Framed W (W.setCell ⟨p, i, none⟩ v) := by
  obtain ⟨cv, tv, gv, rv, gvs, vs, h⟩ := h
  exact Framed.store h.blk not_other_sheet
theorem ShAt.put {W : World} {M N p : Nat} {s s' : Scr} {rows : List (List C)} (h : ShAt 64 W M N p s rows) (i : Nat) (v : Value) (e : ∀ cv tv gv rv, (shA s cv tv gv rv).setIfInBounds i v = shA s' cv tv gv rv) (h1 : s'.tabs = s.tabs) (h2 : s'.gone = s.gone) : ShAt 64 (W.setCell ⟨p, i, none⟩ v) M N p s' rows ∧ Below N W (W.setCell ⟨p, i, none⟩ v) ∧ Framed W (W.setCell ⟨p, i, none⟩ v) := ⟨h.set sheet_is i v e h1 h2, (Below.refl _ _).setCell h.lo _, h.framed⟩
/-- Behind what was written. -/
def advS (s : Scr) (k : Int) : Scr := if s.x + k = s.w then { s with x := s.w - 1, late := hasB s.modes 4 } else { s with x := s.x + k }
set_option maxHeartbeats 2000000 in
theorem advance_any (W : World) (M N p : Nat) (s : Scr) (rows : List (List C)) (k : Int) (hS : ShAt 64 W M N p s rows) (h0 : 0 ≤ s.x) (h1 : s.x ≤ 120) (h2 : 0 ≤ k) (h3 : k ≤ 2) (w1 : 1 ≤ s.w) (w2 : s.w ≤ 120) :
    Calls Tryz.prog 86 #[.pointer (some ⟨p, 0, none⟩), .int .i64 k] W (Ran W M N p (advS s k) rows) := by
  obtain ⟨c0, c1, c3, c4, c5, c9, c10, c11, c19, f⟩ := hS.words
  have f3 := f 3
  obtain ⟨hS1, hB1, hF1⟩ := hS.put 3 (.int .i64 (s.x + k)) (s' := { s with x := s.x + k }) (fun _ _ _ _ => rfl) rfl rfl
  have HE : Hid (advS s k = if s.x + k = s.w then { s with x := s.w - 1, late := hasB s.modes 4 } else { s with x := s.x + k }) := rfl
  generalize advS s k = s' at *
  by_cases heq : s.x + k = s.w
  · have HE2 : Hid (s' = { s with x := s.w - 1, late := hasB s.modes 4 }) := by unfold Hid; rw [HE.out, if_pos heq]
    have hq : (s.x + k == s.w) = true := by rw [beq_iff_eq]; exact heq
    have HQ : Hid (s.x + k = s.w) := heq
    clear heq c1 c4 c5 c9 c10 c11 c19 f HE hS
    have HS1 : Hid (ShAt 64 (W.setCell ⟨p, 3, none⟩ (.int .i64 (s.x + k))) M N p { s with x := s.x + k } rows) := hS1
    have HB1 : Hid _ := hB1
    have HF1 : Hid (Framed W (W.setCell ⟨p, 3, none⟩ (.int .i64 (s.x + k)))) := hF1
    clear hS1 hB1 hF1
    have hwr : IntKind.i64.wrap (s.x + k) = s.x + k := wrap_id _ (by omega) (by omega)
    go_enter Tryz.func86, Tryz.ntmps86
    go_upto_region 1 with fail
    obtain ⟨d0, -, d3, -, -, -, -, -, -, df⟩ := HS1.out.words
    clear c0 c3 f3
    generalize (W.setCell ⟨p, 3, none⟩ (.int .i64 (s.x + k))) = X at *
    go_region
    have HSd : Hid (ShAt 64 X.drew M N p { s with x := s.x + k } rows) := HS1.out.drew
    have HB2 : Hid (Below N W X.drew) := HB1.out.drew
    have HF2 : Hid (Framed W X.drew) := HF1.out.trans (Framed.of_below ((Below.refl _ _).drew))
    obtain ⟨d0, -, d3, -, -, -, -, -, -, df⟩ := HSd.out.words
    have g3 := df 3
    clear HS1 HB1 HF1 df
    generalize X.drew = Y at *
    obtain ⟨hS3, hB3, hF3⟩ := HSd.out.put 3 (.int .i64 (s.w - 1)) (s' := { s with x := s.w - 1 }) (fun _ _ _ _ => rfl) rfl rfl
    have H2 := has_any 4 _ hS3
    obtain ⟨e0, -, e3, -, e5, -, -, -, -, ef⟩ := hS3.words
    obtain ⟨hS4, hB4, hF4⟩ := hS3.put 5 (.bool (hasB s.modes 4)) (s' := { s with x := s.w - 1, late := hasB s.modes 4 }) (fun _ _ _ _ => rfl) rfl rfl
    have HR : Hid (Ran W M N p s' rows (.returned (.tuple #[])) ((Y.setCell ⟨p, 3, none⟩ (.int .i64 (s.w - 1))).setCell ⟨p, 5, none⟩ (.bool (hasB s.modes 4)))) := by
      unfold Hid
      rw [HE2.out]
      exact ⟨rfl, hS4, HB2.out.trans (hB3.trans hB4), HF2.out.trans (hF3.trans hF4)⟩
    have g5 := ef 5
    clear hS3 hB3 hF3 hS4 hB4 hF4 ef e0 e3
    generalize hasB s.modes 4 = hb at *
    go_wp2_with fail
    refine H2.mono ?_
    rintro e V ⟨rfl, hv⟩
    subst hv
    go_wp2_with fail
    go_end0
    exact HR.out
  · have HE2 : Hid (s' = { s with x := s.x + k }) := by unfold Hid; rw [HE.out, if_neg heq]
    have hq : (s.x + k == s.w) = false := by rw [beq_eq_false_iff_ne]; exact heq
    clear heq c1 c4 c5 c9 c10 c11 c19 f HE hS
    have HS1 : Hid (ShAt 64 (W.setCell ⟨p, 3, none⟩ (.int .i64 (s.x + k))) M N p { s with x := s.x + k } rows) := hS1
    have HB1 : Hid _ := hB1
    have HF1 : Hid (Framed W (W.setCell ⟨p, 3, none⟩ (.int .i64 (s.x + k)))) := hF1
    clear hS1 hB1 hF1
    have hwr : IntKind.i64.wrap (s.x + k) = s.x + k := wrap_id _ (by omega) (by omega)
    go_enter Tryz.func86, Tryz.ntmps86
    go_upto_region 1 with fail
    obtain ⟨d0, -, d3, -, -, -, -, -, -, df⟩ := HS1.out.words
    clear c0 c3 f3 df
    generalize (W.setCell ⟨p, 3, none⟩ (.int .i64 (s.x + k))) = X at *
    go_region
    go_wp2_with fail
    go_end0
    rw [HE2.out]
    exact ⟨rfl, HS1.out.drew, HB1.out.drew, HF1.out.trans (Framed.of_below ((Below.refl _ _).drew))⟩
/-- A row further, where nothing rolls. -/
def feedS (s : Scr) : Scr := if s.y < s.h - 1 then { s with late := false, y := s.y + 1 } else { s with late := false }
set_option maxHeartbeats 2000000 in
theorem feed_plain (W : World) (M N p : Nat) (s : Scr) (rows : List (List C)) (hS : ShAt 64 W M N p s rows) (h0 : 0 ≤ s.y) (h1 : s.y ≤ 60) (w1 : 1 ≤ s.h) (w2 : s.h ≤ 60) (hne : s.y ≠ s.bot) :
    Calls Tryz.prog 83 #[.pointer (some ⟨p, 0, none⟩)] W (Ran W M N p (feedS s) rows) := by
  obtain ⟨c0, c1, c3, c4, c5, c9, c10, c11, c19, f⟩ := hS.words
  have f5 := f 5
  obtain ⟨hS1, hB1, hF1⟩ := hS.put 5 (.bool false) (s' := { s with late := false }) (fun _ _ _ _ => rfl) rfl rfl
  have HE : Hid (feedS s = if s.y < s.h - 1 then { s with late := false, y := s.y + 1 } else { s with late := false }) := rfl
  generalize feedS s = s' at *
  have hq : (s.y == s.bot) = false := by rw [beq_eq_false_iff_ne]; exact hne
  have HS1 : Hid (ShAt 64 (W.setCell ⟨p, 5, none⟩ (.bool false)) M N p { s with late := false } rows) := hS1
  have HB1 : Hid _ := hB1
  have HF1 : Hid (Framed W (W.setCell ⟨p, 5, none⟩ (.bool false))) := hF1
  clear hS1 hB1 hF1 hS hne c0 c1 c3 c4 c9 c10 c11 c19 f
  have hwr : IntKind.i64.wrap (s.h - 1) = s.h - 1 := wrap_id _ (by omega) (by omega)
  go_enter Tryz.func83, Tryz.ntmps83
  go_upto_region 1 with fail
  obtain ⟨-, d1, -, d4, -, -, d10, -, -, df⟩ := HS1.out.words
  clear c5 f5 df
  generalize (W.setCell ⟨p, 5, none⟩ (.bool false)) = X at *
  go_region
  have HSd : Hid (ShAt 64 X.drew M N p { s with late := false } rows) := HS1.out.drew
  have HB2 : Hid (Below N W X.drew) := HB1.out.drew
  have HF2 : Hid (Framed W X.drew) := HF1.out.trans (Framed.of_below ((Below.refl _ _).drew))
  clear d1 d4 d10 HS1 HB1 HF1
  generalize X.drew = Y at *
  obtain ⟨-, d1, -, d4, -, -, d10, -, -, df⟩ := HSd.out.words
  clear df
  by_cases hlt : s.y < s.h - 1
  · have HE2 : Hid (s' = { s with late := false, y := s.y + 1 }) := by unfold Hid; rw [HE.out, if_pos hlt]
    go_upto_region 3 with fail
    go_region
    have HSe : Hid (ShAt 64 Y.drew M N p { s with late := false } rows) := HSd.out.drew
    have HB3 : Hid (Below N W Y.drew) := HB2.out.drew
    have HF3 : Hid (Framed W Y.drew) := HF2.out.trans (Framed.of_below ((Below.refl _ _).drew))
    clear d1 d4 d10 HSd HB2 HF2
    generalize Y.drew = Z at *
    obtain ⟨-, d1, -, d4, -, -, d10, -, -, df⟩ := HSe.out.words
    have g4 := df 4
    have hw2 : IntKind.i64.wrap (s.y + 1) = s.y + 1 := wrap_id _ (by omega) (by omega)
    obtain ⟨hS4, hB4, hF4⟩ := HSe.out.put 4 (.int .i64 (s.y + 1)) (s' := { s with late := false, y := s.y + 1 }) (fun _ _ _ _ => rfl) rfl rfl
    have HR : Hid (Ran W M N p s' rows (.returned (.tuple #[])) (Z.setCell ⟨p, 4, none⟩ (.int .i64 (s.y + 1)))) := by
      unfold Hid
      rw [HE2.out]
      exact ⟨rfl, hS4, HB3.out.trans hB4, HF3.out.trans hF4⟩
    clear hS4 hB4 hF4 df
    go_wp2_with fail
    go_end0
    exact HR.out
  · have HE2 : Hid (s' = { s with late := false }) := by unfold Hid; rw [HE.out, if_neg hlt]
    go_upto_region 3 with fail
    go_region
    go_wp2_with fail
    go_end0
    rw [HE2.out]
    exact ⟨rfl, HSd.out.drew, HB2.out.drew, HF2.out.trans (Framed.of_below ((Below.refl _ _).drew))⟩
end Put
end Go.Proofs.YtnkeahfcpbepjaaGreatDoor

/- halves.Mend of any row: halves of two runes that came together become blanks, too. -/
namespace Go.Proofs.YtnkeahfcpbepjaaGreatDoor
open Go.ChangeShapes Go.WideShapes Go.ChangeAt Go.RowKit
namespace Grd
open Txt (wd)
/-- Does the cell have the half of another rune behind it? -/
def partB (cs : List C) (x : Nat) : Bool := decide (wd (cs.getD x z0).1 = 2) && decide (x + 1 < cs.length ∧ (cs.getD (x + 1) z0).1 = 0 ∧ (cs.getD x z0).2 ≠ (cs.getD (x + 1) z0).2)
/-- First halves of runes whose second half isn't theirs: blanks. -/
def unpart (cs : List C) : List C := (List.range cs.length).map fun x => if partB cs x then (32, (cs.getD x z0).2) else cs.getD x z0
theorem unpart_len (cs : List C) : (unpart cs).length = cs.length := by simp [unpart]
theorem unpart_at (cs : List C) (x : Nat) (hx : x < cs.length) : (unpart cs).getD x z0 = if partB cs x then (32, (cs.getD x z0).2) else cs.getD x z0 := by
  simp [unpart, List.getD, hx]
theorem unpart_alike (cs : List C) (h : Alike cs) : unpart cs = cs := by
  refine List.ext_getElem (unpart_len cs) fun i h1 h2 => ?_
  have e1 : (unpart cs).getD i z0 = (unpart cs)[i] := by simp [List.getD, h1]
  have e2 : cs.getD i z0 = cs[i] := by simp [List.getD, h2]
  rw [← e1, ← e2, unpart_at cs i h2]
  have hp : partB cs i = false := by
    unfold partB
    by_cases hw : wd (cs.getD i z0).1 = 2
    · by_cases hq : i + 1 < cs.length ∧ (cs.getD (i + 1) z0).1 = 0 ∧ (cs.getD i z0).2 ≠ (cs.getD (i + 1) z0).2
      · exact absurd (h i hq.1 hw hq.2.1) hq.2.2
      · rw [decide_eq_false hq, Bool.and_false]
    · rw [decide_eq_false hw, Bool.false_and]
  rw [hp]
  rfl
theorem wd_blank : wd 32 ≠ 2 := by decide +kernel
theorem wd_zero : wd 0 ≠ 2 := by decide +kernel
def mendStepG (cs : List C) (x : Nat) : List C := if loose cs x || partB cs x then setR cs x else cs
def mendToG (cs : List C) : Nat → List C
  | 0 => cs
  | k + 1 => mendStepG (mendToG cs k) k
theorem mendStepG_len (cs : List C) (x : Nat) : (mendStepG cs x).length = cs.length := by
  unfold mendStepG setR
  split <;> simp
theorem mendToG_len (cs : List C) : ∀ k, (mendToG cs k).length = cs.length
  | 0 => rfl
  | k + 1 => by
    show (mendStepG (mendToG cs k) k).length = _
    rw [mendStepG_len, mendToG_len cs k]
theorem step_at (cs : List C) (k j : Nat) (hk : k < cs.length) (b : Bool) : (if b then setR cs k else cs).getD j z0 = if j = k ∧ b = true then (32, (cs.getD k z0).2) else cs.getD j z0 := by
  cases b with
  | false => simp
  | true =>
    rw [if_pos rfl, setR_at cs k j hk]
    by_cases e : j = k
    · rw [if_pos e, if_pos ⟨e, rfl⟩]
    · rw [if_neg e, if_neg (fun h => e h.1)]
/-- Cell by cell: what is mended is what mending the other row makes; what isn't yet is as it was. -/
theorem mendG_at (cs : List C) : ∀ k, k ≤ cs.length → ∀ j, j < cs.length → (mendToG cs k).getD j z0 = (if j < k then (mendTo (unpart cs) k).getD j z0 else cs.getD j z0) ∧ (k ≤ j → (mendTo (unpart cs) k).getD j z0 = (unpart cs).getD j z0)
  | 0, _, j, _ => by
    rw [if_neg (by omega)]
    exact ⟨rfl, fun _ => rfl⟩
  | k + 1, hk, j, hj => by
    have ih := mendG_at cs k (by omega)
    have hkl : k < cs.length := by omega
    have lA := mendToG_len cs k
    have lB : (mendTo (unpart cs) k).length = cs.length := by rw [mendTo_len, unpart_len]
    have Ak : (mendToG cs k).getD k z0 = cs.getD k z0 := by rw [(ih k hkl).1, if_neg (by omega)]
    have Bk : (mendTo (unpart cs) k).getD k z0 = (unpart cs).getD k z0 := (ih k hkl).2 (Nat.le_refl _)
    have Ak1 : k + 1 < cs.length → (mendToG cs k).getD (k + 1) z0 = cs.getD (k + 1) z0 := fun h => by rw [(ih (k + 1) h).1, if_neg (by omega)]
    have Bk1 : k + 1 < cs.length → (mendTo (unpart cs) k).getD (k + 1) z0 = (unpart cs).getD (k + 1) z0 := fun h => (ih (k + 1) h).2 (by omega)
    have Ap : 0 < k → (mendToG cs k).getD (k - 1) z0 = (mendTo (unpart cs) k).getD (k - 1) z0 := fun h => by rw [(ih (k - 1) (by omega)).1, if_pos (by omega)]
    have pA : partB (mendToG cs k) k = partB cs k := by
      unfold partB
      rw [Ak, lA]
      by_cases h1 : k + 1 < cs.length
      · rw [Ak1 h1]
      · have e1 : ¬ (k + 1 < cs.length ∧ ((mendToG cs k).getD (k + 1) z0).1 = 0 ∧ (cs.getD k z0).2 ≠ ((mendToG cs k).getD (k + 1) z0).2) := fun h => h1 h.1
        have e2 : ¬ (k + 1 < cs.length ∧ (cs.getD (k + 1) z0).1 = 0 ∧ (cs.getD k z0).2 ≠ (cs.getD (k + 1) z0).2) := fun h => h1 h.1
        rw [decide_eq_false e1, decide_eq_false e2]
    have zero1 : k + 1 < cs.length → (((unpart cs).getD (k + 1) z0).1 = 0 ↔ (cs.getD (k + 1) z0).1 = 0) := fun h1 => by
      rw [unpart_at cs (k + 1) h1]
      by_cases hp : partB cs (k + 1) = true
      · rw [if_pos hp]
        unfold partB at hp
        simp only [Bool.and_eq_true, decide_eq_true_eq] at hp
        constructor
        · intro h
          exact absurd (show (32 : Int) = 0 from h) (by decide)
        · intro h
          rw [h] at hp
          exact absurd hp.1 wd_zero
      · rw [if_neg hp]
    -- the cell k, behind both steps
    have key : (if loose (mendToG cs k) k || partB (mendToG cs k) k then ((32 : Int), ((mendToG cs k).getD k z0).2) else (mendToG cs k).getD k z0) = (if loose (mendTo (unpart cs) k) k then ((32 : Int), ((mendTo (unpart cs) k).getD k z0).2) else (mendTo (unpart cs) k).getD k z0) := by
      rw [pA]
      by_cases hp : partB cs k = true
      · have hu : (unpart cs).getD k z0 = (32, (cs.getD k z0).2) := by rw [unpart_at cs k hkl, if_pos hp]
        have hlB : loose (mendTo (unpart cs) k) k = false := by
          unfold loose
          rw [Bk, hu]
          show (if (32 : Int) = 0 then _ else _) = false
          rw [if_neg (by decide)]
          show (decide (wd 32 = 2) && _) = false
          rw [decide_eq_false wd_blank]
          rfl
        rw [hp, Bool.or_true, if_pos rfl, hlB, if_neg (by decide), Bk, hu, Ak]
      · have hp' : partB cs k = false := by simpa using hp
        have hu : (unpart cs).getD k z0 = cs.getD k z0 := by rw [unpart_at cs k hkl, if_neg hp]
        have hll : loose (mendToG cs k) k = loose (mendTo (unpart cs) k) k := by
          unfold loose
          rw [Ak, Bk, hu, lA, lB]
          by_cases h0 : (cs.getD k z0).1 = 0
          · rw [if_pos h0, if_pos h0]
            by_cases hk0 : k = 0
            · simp [hk0]
            · rw [Ap (by omega)]
          · rw [if_neg h0, if_neg h0]
            by_cases h1 : k + 1 = cs.length
            · simp [h1]
            · have h2 : k + 1 < cs.length := by omega
              rw [Ak1 h2, Bk1 h2]
              congr 2
              rw [decide_eq_decide]
              exact not_congr (zero1 h2).symm
        rw [hp', Bool.or_false, hll, Ak, Bk, hu]
    have eA : (mendToG cs (k + 1)).getD j z0 = if j = k ∧ (loose (mendToG cs k) k || partB (mendToG cs k) k) = true then (32, ((mendToG cs k).getD k z0).2) else (mendToG cs k).getD j z0 := step_at _ k j (by rw [lA]; exact hkl) _
    have eB : (mendTo (unpart cs) (k + 1)).getD j z0 = if j = k ∧ loose (mendTo (unpart cs) k) k = true then (32, ((mendTo (unpart cs) k).getD k z0).2) else (mendTo (unpart cs) k).getD j z0 := step_at _ k j (by rw [lB]; exact hkl) _
    by_cases e : j = k
    · rw [eA, eB]
      subst e
      refine ⟨?_, fun h => by omega⟩
      rw [if_pos (by omega : j < j + 1)]
      simp only [true_and]
      exact key
    · have eA' : (mendToG cs (k + 1)).getD j z0 = (mendToG cs k).getD j z0 := by rw [eA, if_neg (fun h => e h.1)]
      have eB' : (mendTo (unpart cs) (k + 1)).getD j z0 = (mendTo (unpart cs) k).getD j z0 := by rw [eB, if_neg (fun h => e h.1)]
      rw [eA', eB']
      by_cases hlt : j < k
      · rw [if_pos (by omega : j < k + 1), (ih j hj).1, if_pos hlt]
        exact ⟨rfl, fun h => by omega⟩
      · rw [if_neg (by omega : ¬ j < k + 1), (ih j hj).1, if_neg hlt]
        exact ⟨rfl, fun _ => (ih j hj).2 (by omega)⟩
theorem mendG_eq (cs : List C) : mendToG cs cs.length = mendL (unpart cs) := by
  have hl : (mendL (unpart cs)).length = cs.length := by unfold mendL; rw [mendTo_len, unpart_len]
  refine List.ext_getElem (by rw [mendToG_len, hl]) fun i h1 h2 => ?_
  have hi : i < cs.length := by rw [mendToG_len] at h1; exact h1
  have e1 : (mendToG cs cs.length).getD i z0 = (mendToG cs cs.length)[i] := by simp [List.getD, h1]
  have e2 : (mendL (unpart cs)).getD i z0 = (mendL (unpart cs))[i] := by simp [List.getD, h2]
  rw [← e1, ← e2, (mendG_at cs cs.length (Nat.le_refl _) i hi).1, if_pos hi]
  unfold mendL
  rw [unpart_len]
end Grd
end Go.Proofs.YtnkeahfcpbepjaaGreatDoor
