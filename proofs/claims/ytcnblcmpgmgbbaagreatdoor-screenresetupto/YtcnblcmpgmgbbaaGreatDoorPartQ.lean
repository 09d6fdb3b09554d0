/- Parts of the proof, shortened by a program. -/
import Derived.Test.YtcnblcmpgmgbbaaGreatDoorPartG
import Derived.Test.YtcnblcmpgmgbbaaGreatDoorPartF
import Derived.Test.YtcnblcmpgmgbbaaGreatDoorPartP
import Derived.Test.YtcnblcmpgmgbbaaGreatDoorPartJ
import Derived.Test.YtcnblcmpgmgbbaaGreatDoorPartO
import Derived.Deep.MidRow
import Derived.Test.YtcnblcmpgmgbbaaGreatDoorPartN
import Derived.Test.YtcnblcmpgmgbbaaGreatDoorPartI
import Derived.Test.YtcnblcmpgmgbbaaGreatDoorPartM
import Derived.Lib.ValidLaws
import Derived.Lib.MapLaws
import Derived.Lib.TrimUEq
import Derived.Deep.RegionWith
import Derived.Test.YtcnblcmpgmgbbaaGreatDoorPartH
namespace Go.Proofs.YtcnblcmpgmgbbaaGreatDoor
set_option linter.unusedVariables false
set_option linter.unusedSimpArgs false
set_option maxRecDepth 100000
open Go.ChangeShapes Go.WideShapes Go.ChangeAt Go.RowKit
namespace Put
open Grd (C SliceAt Qb Qf z0 Qx flat Qe)
theorem qc8 {W : World} {R : Nat} {v : Value} {t : TypeId} (h : W.heap[R]? = some (.cells #[v] t (0, 0))) : W.cell? ⟨R, 0, none⟩ = some v := by simp [World.cell?, h]
theorem qvs {w V : World} {s : Scr} {cv tv gv : Value} {A : Array Value} {t t' : TypeId} (hb : Below w.heap.size w V) (h0 : V.heap[w.heap.size]? = some (.cells (scrA s cv tv gv) t (0, 0))) (h1 : V.heap[w.heap.size + 2]? = some (.cells A t' (0, 0))) {s' : Scr} {cv' tv' gv' : Value} :
  Below w.heap.size w (V.setRow (w.heap.size + 2) (scrA s' cv' tv' gv')) ∧ Zg (V.setRow (w.heap.size + 2) (scrA s' cv' tv' gv')) (.pointer (some ⟨w.heap.size, 0, none⟩)) ∧ Z5 (V.setRow (w.heap.size + 2) (scrA s' cv' tv' gv')) (.pointer (some ⟨w.heap.size, 0, none⟩)) = scrA s cv tv gv ∧ Zc (V.setRow (w.heap.size + 2) (scrA s' cv' tv' gv')) (.pointer (some ⟨w.heap.size + 2, 0, none⟩)) := by
 have h2 : (V.setRow (w.heap.size + 2) (scrA s' cv' tv' gv')).heap[w.heap.size]? = _ := (setRow_other _ _ _ _ (by omega)).trans h0
 have h3 := setRow_heap V (w.heap.size + 2) A (scrA s' cv' tv' gv') t' _ h1
 exact ⟨below_setRow hb (by omega) _, (Qu h2).1, (Qu h2).2, Za h3 rfl⟩
section
attribute [local go_sem ↓] Jc Jj
attribute [local go_sem] Gj Xw X0
set_option maxHeartbeats 4000000 in
theorem qlv (s s' : Scr) (cv tv gv : Value) (t : ByteArray) (hlen : t.size ≤ 4000) (w0 w : World) (hT : Txt.Tab w) (hV : Zh w0 s cv tv gv) (hb0 : Below w0.heap.size w0 w) (hF : Fits s)
  (hCH : ∀ W B, Below w.heap.size w W → W.cell? ⟨B, 0, none⟩ = some (.string t) → Calls Tryz.prog 36 #[.agg (scrA s cv tv gv), .int .i64 (Qk s), .func (.func 37) #[] #[.pointer (some ⟨B, 0, none⟩)]] W (Made w0 W s' (Qk s))) :
  Calls Tryz.prog 14 #[.agg (scrA s cv tv gv), .string t] w (Made w0 w s' (Qk s)) := by
 obtain ⟨ca, cc, rfl⟩ := hV.c.shape
 obtain ⟨ta, tc, rfl⟩ := hV.t.slice
 obtain ⟨ga, gc, rfl⟩ := hV.g.slice
 have hx0 : (((w.alloc (.cells (scS s ca cc ta tc ga gc) 32)).alloc (.cells #[.string t] 9)).alloc (.cells zA 32)).heap[w.heap.size]? = some (.cells (scS s ca cc ta tc ga gc) 32 (0, 0)) := (Below.heap_alloc _ _ _ (by simp; omega)).trans ((Below.heap_alloc _ _ _ (by simp)).trans (heap_alloc_new _ _))
 have hxt : (((w.alloc (.cells (scS s ca cc ta tc ga gc) 32)).alloc (.cells #[.string t] 9)).alloc (.cells zA 32)).heap[w.heap.size + 1]? = some (.cells #[.string t] 9 (0, 0)) := (Below.heap_alloc _ _ _ (by simp)).trans (heap_alloc2_new w _ _)
 have hx1 : (((w.alloc (.cells (scS s ca cc ta tc ga gc) 32)).alloc (.cells #[.string t] 9)).alloc (.cells zA 32)).heap[w.heap.size + 2]? = some (.cells zA 32 (0, 0)) := by
  have h := heap_alloc_new ((w.alloc (.cells (scS s ca cc ta tc ga gc) 32)).alloc (.cells #[.string t] 9)) (.cells zA 32)
  have e : ((w.alloc (.cells (scS s ca cc ta tc ga gc) 32)).alloc (.cells #[.string t] 9)).heap.size = w.heap.size + 2 := by simp
  rw [e] at h
  exact h
 have hkb : Below w.heap.size w (((w.alloc (.cells (scS s ca cc ta tc ga gc) 32)).alloc (.cells #[.string t] 9)).alloc (.cells zA 32)) := (((Below.refl _ _).alloc (Nat.le_refl _) _).alloc (by simp) _).alloc (by simp; omega) _
 have HX0 : Hid _ := hx0
 have HX1 : Hid _ := hx1
 have HKB : Hid _ := hkb
 have HXT : Hid _ := hxt
 have HCK : Hid (∀ W, Below w.heap.size w W → Calls Tryz.prog 7 #[.agg (scS s ca cc ta tc ga gc)] W fun e w' => e = .returned (.int .i64 (Qk s)) ∧ Below W.heap.size W w') := fun W hW => Zq s _ _ _ W (Grd.Tab.next hT hW) (hV.next (hb0.trans (hW.mono hb0.size))) hF
 have HCH : Hid (∀ W, Below w.heap.size w W → W.cell? ⟨w.heap.size + 1, 0, none⟩ = some (.string t) → Calls Tryz.prog 36 #[.agg (scS s ca cc ta tc ga gc), .int .i64 (Qk s), .func (.func 37) #[] #[.pointer (some ⟨w.heap.size + 1, 0, none⟩)]] W (Made w0 W s' (Qk s))) := fun W => hCH W _
 have hM := hb0.size
 have ct := qc8 hxt
 have hl1 : ¬ (4000 : Int) < (t.size : Int) := by omega
 clear hx0 hx1 hkb hV hF hT hCH hb0 hxt
 generalize Qk s = er at *
 go_enter Tryz.func14, Tryz.ntmps14
 go_upto_region 3 with fail
 generalize (((w.alloc (.cells (scS s ca cc ta tc ga gc) 32)).alloc (.cells #[.string t] 9)).alloc (.cells zA 32)) = X at *
 have SK : Hid (∀ w', Below X.heap.size X w' → Below w.heap.size w w' ∧ Zg w' (.pointer (some ⟨w.heap.size, 0, none⟩)) ∧ Z5 w' (.pointer (some ⟨w.heap.size, 0, none⟩)) = (scS s ca cc ta tc ga gc) ∧ Zc w' (.pointer (some ⟨w.heap.size + 2, 0, none⟩))) := fun w' hb => by
  have h0 := Grd.carry HX0.out hb
  exact ⟨HKB.out.trans (hb.mono HKB.out.size), (Qu h0).1, (Qu h0).2, Za (Grd.carry HX1.out hb) rfl⟩
 have b0 : Below X.heap.size X X.drew := (Below.refl _ _).drew
 go_region_held3 (fun w' => Below w.heap.size w w' ∧ Zg w' (.pointer (some ⟨w.heap.size, 0, none⟩)) ∧ Z5 w' (.pointer (some ⟨w.heap.size, 0, none⟩)) = (scS s ca cc ta tc ga gc) ∧ Zc w' (.pointer (some ⟨w.heap.size + 2, 0, none⟩)))
  (first | exact KF.out | exact SK.out _ b2 | exact SK.out _ b1 | exact SK.out _ b0)
  (first | (go_at_call 7; refine (HCK.out _ (SK.out _ b0).1).mono ?_; rintro e V1 ⟨rfl, c1⟩; have b1 := b0.trans (c1.mono b0.size); clear c1) | (go_at_call 36; refine (HCH.out _ (SK.out _ b1).1 (qc8 (Grd.carry HXT.out b1))).mono ?_; rintro e V2 ⟨cv', tv', gv', rfl, hO, c2⟩; have b2 := b1.trans (c2.mono b1.size); obtain ⟨a1, n1, c1, a2, n2, c2', a3, n3, c3, rfl, rfl, rfl⟩ := hO.shapes; have HO : Hid (Qo V2 0 _ s' _ _ _) := hO; clear c2 hO; have HR : Hid (V2.heap[w.heap.size + 2]? = _) := Grd.carry HX1.out b2; have KF : Hid (Below w.heap.size w (V2.setRow (w.heap.size + 2) (scT s' a1 n1 c1 a2 n2 c2' a3 n3 c3)) ∧ Zg (V2.setRow (w.heap.size + 2) (scT s' a1 n1 c1 a2 n2 c2' a3 n3 c3)) (.pointer (some ⟨w.heap.size, 0, none⟩)) ∧ Z5 (V2.setRow (w.heap.size + 2) (scT s' a1 n1 c1 a2 n2 c2' a3 n3 c3)) (.pointer (some ⟨w.heap.size, 0, none⟩)) = (scS s ca cc ta tc ga gc) ∧ Zc (V2.setRow (w.heap.size + 2) (scT s' a1 n1 c1 a2 n2 c2' a3 n3 c3)) (.pointer (some ⟨w.heap.size + 2, 0, none⟩))) := qvs (SK.out _ b2).1 (Grd.carry HX0.out b2) HR.out))
 all_goals go_wp2_with fail
 all_goals (try simp only [Exit.inBlock, Exit.then])
 all_goals refine bodyPost_ret (v := .tuple #[.agg (scT s' a1 n1 c1 a2 n2 c2' a3 n3 c3), .int .i64 er]) ?_ rfl ⟨_, _, _, rfl, (Qo.off HO.out HR.out Ql (by omega) fun k hk => setRow_other _ _ _ _ hk).mono (SK.out _ b1).1.size, KF.out.1⟩
 all_goals exact Grd.Qd rfl _ _ (w.heap.size + 2) _ _ _ _ rfl (setRow_heap _ _ _ _ _ _ HR.out) Tryz.underlying32 rfl (by kernel_rfl) _ rfl
end
end Put
namespace Put
open Grd (C SliceAt Qb Qf z0 Qx flat Qe Q8 Zr)
open Sty (Q3)
open Txt (wd)
structure PJ (n hh : Nat) (s : Scr) (rows : List (List C)) : Prop where
 r : Qg { s with cs := rows.flatten } n hh
 rl : rows.length = hh
 rr : Je n rows
theorem PJ.start {s : Scr} {n hh : Nat} (h : Qg s n hh) : PJ n hh s (Qe n s.cs hh) := by
 refine ⟨?_, Grd.Qs _ _ _, Gb h⟩
 rw [h.flatten]
 exact h
theorem PJ.pi {n hh : Nat} {s : Scr} {rows : List (List C)} (h : PJ n hh s rows) : PI n hh s rows := by
 have hk := h.r.looks
 simp only [Q9, Bool.and_eq_true] at hk
 exact ⟨h.r.w, h.r.h, h.r.n1, h.r.n2, h.r.h1, h.r.h2, h.r.x0, h.r.x1, h.r.y0, h.r.y1, h.r.t0, h.r.t1, h.r.t2, hk.1, h.rl, h.rr, h.r.gl⟩
theorem Qg.at {s : Scr} {n hh : Nat} (h : Qg s n hh) (x y : Int) (late : Bool) (last : Int) (x0 : 0 ≤ x) (x1 : x < n) (y0 : 0 ≤ y) (y1 : y < hh) (hl : Zz { s with x := x, y := y, late := late, last := last } = false) (ha : last = 0 ∨ wd last ≠ 0) : Qg { s with x := x, y := y, late := late, last := last } n hh :=
 ⟨h.w, h.h, h.n1, h.n2, h.h1, h.h2, h.cl, h.gz, x0, x1, y0, y1, h.kx0, h.kx1, h.ky0, h.ky1, h.t0, h.t1, h.t2, h.t3, hl, h.looks, h.tl, ha, h.ti, h.gl, h.gr⟩
theorem PJ.rows {n hh : Nat} {s : Scr} {rows rows' : List (List C)} (h : PJ n hh s rows) (hl : rows'.length = hh) (hr : Je n rows') (g : List (List C)) (hg : g.length ≤ 50) (hg2 : ∀ row, row ∈ g → Qf row.length 1 row = 0) : PJ n hh { s with gone := g } rows' :=
 ⟨(Uv h.r g rows' hl hr hg hg2).1, hl, hr⟩
theorem PJ.at {n hh : Nat} {s : Scr} {rows : List (List C)} (h : PJ n hh s rows) (x y : Int) (late : Bool) (last : Int) (x0 : 0 ≤ x) (x1 : x < n) (y0 : 0 ≤ y) (y1 : y < hh) (hl : Zz { s with x := x, y := y, late := late, last := last } = false) (ha : last = 0 ∨ wd last ≠ 0) : PJ n hh { s with x := x, y := y, late := late, last := last } rows :=
 ⟨h.r.at x y late last x0 x1 y0 y1 hl ha, h.rl, h.rr⟩
theorem qe2 (s : Scr) (h : s.late = false) : Zz s = false := by
 unfold Zz
 rw [h]
 rfl
theorem PJ.fed {n hh : Nat} {s : Scr} {rows : List (List C)} (h : PJ n hh s rows) : PJ n hh (fedP n s rows).1 (fedP n s rows).2 := by
 have hp := h.pi.fed
 have hi := h.pi
 have n1 := hi.n1
 have y0 := hi.y0
 have y1 := hi.y1
 have t0 := hi.t0
 have t1 := hi.t1
 have t2 := hi.t2
 have rl := hi.rl
 have eh := hi.h
 have hla := h.r.la
 unfold fedP at hp ⊢
 by_cases hq : s.y = s.bot
 ·rw [if_pos hq] at hp ⊢
  have hgr : ∀ row, row ∈ (upS { s with x := 0, late := false } rows s.top.toNat).gone → Qf row.length 1 row = 0 := fun row hrow => by
   unfold upS at hrow
   split at hrow
   ·rcases qba hrow with q | q
    ·exact h.r.gr row q
    ·have h0 := h.rr 0 (by omega)
     rw [q, h0.1]
     exact qgx n _ hi.n1 hi.n2 h0.1 h0.2
   ·exact h.r.gr row hrow
  have hu := qf5 { s with x := 0, late := false } rows s.top.toNat
  have k := h.rows hp.rl hp.rr _ hp.gl hgr
  have k2 := k.at 0 s.y false s.last (by omega) (by omega) y0 y1 (qe2 _ rfl) hla
  dsimp only at k2 ⊢
  rw [hu]
  exact k2
 ·rw [if_neg hq]
  unfold G6
  dsimp only
  split
  ·exact h.at 0 (s.y + 1) false s.last (by omega) (by omega) (by omega) (by omega) (qe2 _ rfl) hla
  ·exact h.at 0 s.y false s.last (by omega) (by omega) y0 y1 (qe2 _ rfl) hla
theorem PJ.turn {n hh : Nat} {s : Scr} {rows : List (List C)} (h : PJ n hh s rows) (r : Int) : PJ n hh (Xe n s rows r).1 (Xe n s rows r).2 := by
 unfold Xe
 split
 ·exact h.fed
 ·exact h
theorem qui (n : Nat) (s : Scr) (rows : List (List C)) : (fedP n s rows).1.late = false := by
 unfold fedP
 split
 ·dsimp only
  rw [qf5]
 ·unfold G6
  dsimp only
  split <;> rfl
theorem qt0 (n : Nat) (s : Scr) (rows : List (List C)) (r : Int) : (Xe n s rows r).1.late = false := by
 unfold Xe
 by_cases hb : Kb s (wd r) = true
 ·rw [if_pos hb]
  exact qui n s rows
 ·rw [if_neg hb]
  have h2 : Kb s (wd r) = false := by simpa using hb
  unfold Kb at h2
  simp only [Bool.or_eq_false_iff] at h2
  exact h2.1
theorem qwv {s1 : Scr} {x : Int} {r : Int} (e : x = s1.w - 1) : Zz { s1 with x := x, late := hasB s1.modes 4, last := r } = false := by
 unfold Zz
 dsimp only
 cases hb : hasB s1.modes 4 with
 | false => rfl
 | true =>
  have h4 : bits .and .i64 s1.modes 4 = 4 := by simpa [hasB] using hb
  rw [h4]
  simp [e]
theorem PJ.print {n hh : Nat} {s : Scr} {rows : List (List C)} (h0 : PJ n hh s rows) (r : Int) : PJ n hh (Ut n s rows r).1 (Ut n s rows r).2 := by
 have hp := h0.pi.print r
 unfold Ut at hp ⊢
 by_cases hsk : wd r = 0 ∨ s.w < wd r
 ·rw [if_pos hsk]
  exact h0
 ·rw [if_neg hsk] at hp ⊢
  have h := h0.turn r
  have hlt := qt0 n s rows r
  generalize Xe n s rows r = t at *
  obtain ⟨s1, rows1⟩ := t
  dsimp only at h hlt hp ⊢
  by_cases hft : Jg s1 (wd r) = false
  ·rw [if_pos hft]
   exact h
  ·rw [if_neg hft] at hp ⊢
   have hf : Jg s1 (wd r) = true := by simpa using hft
   have hf' : wd r ≤ s1.w - s1.x := by simpa [Jg] using hf
   have hw0 : wd r ≠ 0 := fun e => hsk (.inl e)
   have hk := Txt.Vp r
   have n1 := h.pi.n1
   have x0 := h.pi.x0
   have ew := h.pi.w
   have k := h.rows hp.rl hp.rr s1.gone h.r.gl h.r.gr
   dsimp only at k ⊢
   by_cases hq : s1.x + wd r = s1.w
   ·have ea : Ke s1 (wd r) = { s1 with x := s1.w - 1, late := hasB s1.modes 4 } := by unfold Ke; rw [if_pos hq]
    rw [ea]
    exact k.at (s1.w - 1) s1.y (hasB s1.modes 4) r (by omega) (by omega) h.pi.y0 h.pi.y1 (qwv (s1 := s1) rfl) (.inr hw0)
   ·have ea : Ke s1 (wd r) = { s1 with x := s1.x + wd r } := by unfold Ke; rw [if_neg hq]
    rw [ea]
    exact k.at (s1.x + wd r) s1.y s1.late r (by omega) (by omega) h.pi.y0 h.pi.y1 (qe2 _ hlt) (.inr hw0)
end Put
namespace Put
open Grd (C SliceAt Qb Qf z0 Qx flat Qe)
open Sty (Q3)
open Txt (wd)
def Xu (s : Scr) (k : Int) : Scr := if Kb s k then G6 { s with x := 0 } else s
def Fv (q : Scr × List (List C)) (r : Int) : Scr × List (List C) :=
 ({ Ke (Xu q.1 (wd r)) (wd r) with last := r }, q.2.set (Xu q.1 (wd r)).y.toNat (F3 ((Xu q.1 (wd r)).sf, (Xu q.1 (wd r)).sb, (Xu q.1 (wd r)).sx) (q.2.getD (Xu q.1 (wd r)).y.toNat []) (Xu q.1 (wd r)).x.toNat r))
def qg1 (q : Scr × List (List C)) (r : Int) : Bool :=
 decide (wd r ≠ 0 ∧ wd r ≤ q.1.w ∧ 0 ≤ q.1.x ∧ q.1.x ≤ 120 ∧ 1 ≤ q.1.w ∧ q.1.w ≤ 120 ∧ 1 ≤ q.1.h ∧ q.1.h ≤ 60 ∧ 0 ≤ q.1.y ∧ q.1.y ≤ 60 ∧ (Kb q.1 (wd r) = true → q.1.y ≠ q.1.bot)) &&
 decide ((Xu q.1 (wd r)).w = q.1.w ∧ 0 ≤ (Xu q.1 (wd r)).x ∧ (Xu q.1 (wd r)).x < q.1.w ∧ 0 ≤ (Xu q.1 (wd r)).y ∧ (Xu q.1 (wd r)).y.toNat < q.2.length ∧ Jg (Xu q.1 (wd r)) (wd r) = true ∧ hasB (Xu q.1 (wd r)).modes 1 = false ∧
  ((q.2.getD (Xu q.1 (wd r)).y.toNat []).length : Int) = q.1.w ∧ Qf q.1.w 1 (q.2.getD (Xu q.1 (wd r)).y.toNat []) = 0 ∧ Q3 ((Xu q.1 (wd r)).sf, (Xu q.1 (wd r)).sb, (Xu q.1 (wd r)).sx) = true)
theorem qbq (W : World) (M N p : Nat) (q : Scr × List (List C)) (r : Int) (hT : Txt.Tab W) (hN : ∀ X, Below N W X → Txt.Tab X) (hS : ShAt 111 W M N p q.1 q.2) (hok : qg1 q r = true) :
  Calls Tryz.prog 38 #[.pointer (some ⟨p, 0, none⟩), .int .i32 r] W (Ran W M N p (Fv q r).1 (Fv q r).2) := by
 unfold qg1 at hok
 rw [Bool.and_eq_true, decide_eq_true_eq, decide_eq_true_eq] at hok
 obtain ⟨⟨a1, a2, a3, a4, a5, a6, a7, a8, a9, a10, a11⟩, b1, b2, b3, b4, b5, b6, b7, b8, b9, b10⟩ := hok
 unfold Fv
 obtain ⟨s1, hs1⟩ : ∃ s1, s1 = Xu q.1 (wd r) := ⟨_, rfl⟩
 rw [← hs1] at b1 b2 b3 b4 b5 b6 b7 b8 b9 b10 ⊢
 refine qhc W M N p q.1 s1 q.2 q.2 q.2 _ r hT hS a1 a2 a3 a4 a5 a6 ⟨?_, ?_, b1, b2, by omega⟩ b6 (fun h => by rw [b7] at h; cases h) (fun _ => rfl) ?_
 ·intro hb X _ hX
  have h := qbn X M N p { q.1 with x := 0 } q.2 hX a9 a10 a7 a8 (a11 hb)
  rw [hs1]
  unfold Xu
  rw [hb]
  exact h
 ·intro hb
  rw [hs1]
  unfold Xu
  rw [hb]
  exact ⟨rfl, rfl⟩
 ·intro X hX hSX
  exact qib X M N p s1 q.2 (hN X hX) hSX r q.1.w.toNat s1.x.toNat s1.y.toNat b5 _ rfl (by omega) (by omega) (by omega) (by omega) (by omega) (by rw [Int.toNat_of_nonneg (by omega)]; exact b9) b10 a1 (by
   have h : wd r ≤ s1.w - s1.x := by simpa [Jg] using b6
   omega)
end Put
namespace Put
open Grd (C SliceAt Qb Qf z0 Qx flat Qe)
open Txt (wd)
def abc : ByteArray := ⟨#[97, 98, 99]⟩
def stq : Nat → Scr × List (List C)
 | 0 => (Qp 2 2, Qe 2 (Qp 2 2).cs 2)
 | 1 => Fv (Qp 2 2, Qe 2 (Qp 2 2).cs 2) 97
 | 2 => Fv (Fv (Qp 2 2, Qe 2 (Qp 2 2).cs 2) 97) 98
 | _ => Fv (Fv (Fv (Qp 2 2, Qe 2 (Qp 2 2).cs 2) 97) 98) 99
theorem qt2 : Txt.runes abc = [(97, 1), (98, 1), (99, 1)] := by decide +kernel
theorem ok0 : qg1 (stq 0) 97 = true := by decide +kernel
theorem ok1 : qg1 (stq 1) 98 = true := by decide +kernel
theorem ok2 : qg1 (stq 2) 99 = true := by decide +kernel
theorem qx0 : Qk (Qp 2 2) = 0 := by decide +kernel
theorem qrl : Qf (2 : Nat) (2 : Nat) (Qp 2 2).cs = 0 := by decide +kernel
theorem qfk : Fits (Qp 2 2) := ⟨by decide, by decide, by decide, by decide, by decide, by decide, by decide +kernel⟩
theorem q13 : (stq 3).1.x = 1 := by decide +kernel
theorem q11 : (stq 3).1.y = 1 := by decide +kernel
theorem qxv : (stq 3).1.late = false := by decide +kernel
theorem qvt : (stq 3).1.last = 99 := by decide +kernel
def qcy : List C := [(97, 0, 0, 0), (98, 0, 0, 0), (99, 0, 0, 0), (32, 0, 0, 0)]
theorem qxy : (stq 3).2.flatten = qcy := by decide +kernel
theorem qvi : V8 (stq 3).1 (stq 3).2 := by
 have hl : (stq 3).2.length = 2 := by decide +kernel
 have hg : (stq 3).1.gone = [] := by decide +kernel
 have h0 : (stq 3).2.getD 0 [] ≠ [] := by decide +kernel
 have h1 : (stq 3).2.getD 1 [] ≠ [] := by decide +kernel
 refine ⟨by rw [hl]; omega, by rw [hl]; omega, fun i hi => ?_, by rw [qxy]; decide, by rw [hg]; decide, fun i hi => by rw [hg] at hi; exact absurd hi (by simp)⟩
 rw [hl] at hi
 match i, hi with
 | 0, _ => exact h0
 | 1, _ => exact h1
theorem qpb : Plain 37 := by
 intro args W
 kernel_rfl
theorem qv5 (B M : Nat) (w : World) (hT : Txt.Tab w) (hB : w.cell? ⟨B, 0, none⟩ = some (.string abc)) : Does 37 #[.pointer (some ⟨B, 0, none⟩)] M w (stq 0).1 (stq 3).1 (stq 0).2 (stq 3).2 := by
 have h := qp7 abc B M w stq hB
 rw [qt2] at h
 refine h ?_
 intro i hi X p hb hS
 have hTX := Grd.Tab.next hT hb
 have hN : ∀ Y, Below w.heap.size X Y → Txt.Tab Y := fun Y hY => Grd.Tab.next hT (hb.trans hY)
 match i, hi with
 | 0, _ => exact qbq X M w.heap.size p (stq 0) 97 hTX hN hS ok0
 | 1, _ => exact qbq X M w.heap.size p (stq 1) 98 hTX hN hS ok1
 | 2, _ => exact qbq X M w.heap.size p (stq 2) 99 hTX hN hS ok2
theorem qwm (cv tv gv : Value) (w0 w : World) (hT : Txt.Tab w) (hV : Zh w0 (Qp 2 2) cv tv gv) (hb0 : Below w0.heap.size w0 w) : Calls Tryz.prog 14 #[.agg (scrA (Qp 2 2) cv tv gv), .string abc] w (Made w0 w { (stq 3).1 with cs := qcy } 0) := by
 have h := qlv (Qp 2 2) { (stq 3).1 with cs := qcy } cv tv gv abc (by decide) w0 w hT hV hb0 qfk
 rw [qx0] at h
 refine h fun W B hW hB => ?_
 exact Jn 2 2 (Qp 2 2) (stq 3).1 (stq 3).2 cv tv gv _ qpb _ w0 W hV (hb0.trans (hW.mono hb0.size)) qfk rfl rfl qrl (fun w1 hw1 => qv5 B _ w1 (Grd.Tab.next (Grd.Tab.next hT hW) hw1) (Qa hw1 hB)) qvi qcy qxy
set_option maxHeartbeats 4000000 in
theorem qap (w : World) (hT : Txt.Tab w) : Calls Tryz.prog 6 #[] w fun e w' => e = .returned (.bool true) ∧ Below w.heap.size w w' := by
 have HN := qd0 2 2 w (by decide)
 have HT : Hid (∀ W, Below w.heap.size w W → Txt.Tab W) := fun W h => Grd.Tab.next hT h
 clear hT
 go_enter Tryz.func6, Tryz.ntmps6
 go_wp2_with fail
 refine HN.mono ?_
 rintro e W1 ⟨cv, tv, gv, rfl, hO, b1⟩
 obtain ⟨a1, n1, c1, a2, n2, c2, a3, n3, c3, rfl, rfl, rfl⟩ := hO.shapes
 generalize hs : Qp 2 2 = s at *
 have x1 := heap_alloc_new W1 (.cells zA 32)
 have HX1 : Hid ((W1.alloc (.cells zA 32)).heap[W1.heap.size]? = _) := x1
 have HV : Hid (Zh W1 s _ _ _) := hO.scr
 have HB1 : Hid (Below w.heap.size w W1) := b1
 clear HN hO b1 x1
 go_upto_region 2 with (refine wpList_store_row rfl 32 (.tmp 1) _ rfl W1.heap.size (scT s a1 n1 c1 a2 n2 c2 a3 n3 c3) rfl rfl _ _ HX1.out (by kernel_rfl) rfl (Qn _ _ _ _ _ _ _ _ _ _) ?_)
 have HX2 : Hid (((W1.alloc (.cells zA 32)).setRow W1.heap.size (scT s a1 n1 c1 a2 n2 c2 a3 n3 c3)).heap[W1.heap.size]? = some (.cells (scT s a1 n1 c1 a2 n2 c2 a3 n3 c3) 32 (0, 0))) := setRow_heap _ _ _ _ _ _ HX1.out
 have HBX : Hid (Below W1.heap.size W1 ((W1.alloc (.cells zA 32)).setRow W1.heap.size (scT s a1 n1 c1 a2 n2 c2 a3 n3 c3))) := below_setRow ((Below.refl _ _).alloc (Nat.le_refl _) _) (Nat.le_refl _) _
 have HHS : Hid (Qp 2 2 = s) := hs
 clear HX1 hs
 generalize ((W1.alloc (.cells zA 32)).setRow W1.heap.size (scT s a1 n1 c1 a2 n2 c2 a3 n3 c3)) = X at *
 have HTX : Calls Tryz.prog 14 #[.agg (scT s a1 n1 c1 a2 n2 c2 a3 n3 c3), .string ⟨#[97, 98, 99]⟩] X (Made W1 X { (stq 3).1 with cs := qcy } 0) := by
  have hv := HV.out
  rw [← HHS.out] at hv ⊢
  exact qwm _ _ _ W1 X (HT.out X (HB1.out.trans (HBX.out.mono HB1.out.size))) hv HBX.out
 have h1 := q13
 have h2 := q11
 have h3 := qxv
 have h4 := qvt
 obtain ⟨s2, hs2⟩ : ∃ s2 : Scr, s2 = { (stq 3).1 with cs := qcy } := ⟨_, rfl⟩
 have k1 : s2.x = 1 := by rw [hs2]; exact h1
 have k2 : s2.y = 1 := by rw [hs2]; exact h2
 have k3 : s2.late = false := by rw [hs2]; exact h3
 have k4 : s2.last = 99 := by rw [hs2]; exact h4
 have k5 : s2.cs = qcy := by rw [hs2]
 rw [← hs2] at HTX
 have K : Hid (s2.x = 1 ∧ s2.y = 1 ∧ s2.late = false ∧ s2.last = 99 ∧ s2.cs = qcy) := ⟨k1, k2, k3, k4, k5⟩
 clear h1 h2 h3 h4 hs2 k1 k2 k3 k4 k5
 go_wp2_with (refine wpList_load_row rfl 32 (.tmp 1) rfl W1.heap.size rfl _ _ _ _ HX2.out Tryz.underlying32 rfl (by kernel_rfl) ?_)
 refine HTX.mono ?_
 rintro e W2 ⟨cv', tv', gv', rfl, hO, b2⟩
 obtain ⟨a4, n4, c4, a5, n5, c5, a6, n6, c6, -, rfl, rfl⟩ := hO.shapes
 have hc := hO.c
 rw [K.out.2.2.2.2] at hc
 rcases hc with ⟨he, -⟩ | ⟨g, cap, rest, t, hv, hg, hl, hm, hh⟩
 ·exact absurd he (by decide)
 subst hv
 have x2 := heap_alloc_new W2 (.cells zA 32)
 have HX3 : Hid ((W2.alloc (.cells zA 32)).heap[W2.heap.size]? = _) := x2
 have HX4 : Hid (((W2.alloc (.cells zA 32)).setRow W2.heap.size (scrA s2 (.slice (some ⟨g, 0, none⟩) 4 cap) (.slice a5 n5 c5) (.slice a6 n6 c6))).heap[W2.heap.size]? = some (.cells (scrA s2 (.slice (some ⟨g, 0, none⟩) 4 cap) (.slice a5 n5 c5) (.slice a6 n6 c6)) 32 (0, 0))) := setRow_heap _ _ _ _ _ _ HX3.out
 have hb2 : Below w.heap.size w W2 := (HB1.out.trans (HBX.out.mono HB1.out.size)).trans (b2.mono (HB1.out.trans (HBX.out.mono HB1.out.size)).size)
 have HBY : Hid (Below w.heap.size w ((W2.alloc (.cells zA 32)).setRow W2.heap.size (scrA s2 (.slice (some ⟨g, 0, none⟩) 4 cap) (.slice a5 n5 c5) (.slice a6 n6 c6)))) := below_setRow (hb2.alloc hb2.size _) hb2.size _
 have HG : Hid (Qb ((W2.alloc (.cells zA 32)).setRow W2.heap.size (scrA s2 (.slice (some ⟨g, 0, none⟩) 4 cap) (.slice a5 n5 c5) (.slice a6 n6 c6))) g 0 qcy) := by
  refine Grd.Kz (t := t) (rest := rest) ?_
  rw [setRow_other _ _ _ _ (Nat.ne_of_lt (Qc hh)), Below.heap_alloc _ _ _ (Qc hh)]
  exact hh
 clear HTX hO b2 x2 hh hb2 HX2 HBX HB1 HV
 go_upto_region 3 with (refine wpList_store_row rfl 32 (.tmp 3) _ rfl W2.heap.size (scrA s2 (.slice (some ⟨g, 0, none⟩) 4 cap) (.slice a5 n5 c5) (.slice a6 n6 c6)) rfl rfl _ _ HX3.out (by kernel_rfl) rfl (Qn _ _ _ _ _ _ _ _ _ _) ?_)
 clear HX3
 generalize ((W2.alloc (.cells zA 32)).setRow W2.heap.size (scrA s2 (.slice (some ⟨g, 0, none⟩) 4 cap) (.slice a5 n5 c5) (.slice a6 n6 c6))) = Y at *
 obtain ⟨⟨-, -, d2, d3, d4, d5, -⟩, ⟨-, -, -, -, -, -, -, -, d19, -⟩, -⟩ := Qh HX4.out
 rw [K.out.1] at d3
 rw [K.out.2.1] at d4
 rw [K.out.2.2.1] at d5
 rw [K.out.2.2.2.1] at d19
 obtain ⟨e8, -⟩ := HG.out 2 (by decide)
 have e8' : Y.cell? ⟨g, 8, none⟩ = some (.int .i32 99) := e8
 clear e8
 go_wp2_with fail
 go_ret
 exact ⟨rfl, HBY.out⟩
end Put
namespace Put
open Grd (C SliceAt Qb Qf z0 Qx Qe Jw flat)
theorem q1m {w W : World} {A : Array Value} (hB : Below w.heap.size w W) :
  ((W.alloc (.cells zA 32)).setRow W.heap.size A).heap[W.heap.size]? = some (.cells A 32 (0, 0)) ∧ Below W.heap.size W ((W.alloc (.cells zA 32)).setRow W.heap.size A) ∧ Below w.heap.size w ((W.alloc (.cells zA 32)).setRow W.heap.size A) ∧ (W.alloc (.cells zA 32)).heap[W.heap.size]? = some (.cells zA 32 (0, 0)) := by
 have h1 : Below W.heap.size W ((W.alloc (.cells zA 32)).setRow W.heap.size A) := below_setRow ((Below.refl _ _).alloc (Nat.le_refl _) _) (Nat.le_refl _) _
 exact ⟨setRow_heap _ _ _ _ _ _ (heap_alloc_new W _), h1, hB.trans (h1.mono hB.size), heap_alloc_new W _⟩
end Put
namespace Put
open Grd (C SliceAt Qb Qf z0 Qx flat Qe)
open Sty (Q3)
theorem qmo (s' : Scr) (cs : List C) (h : cs = s'.cs) : ({ s' with cs := cs } : Scr) = s' := by
 subst h
 rfl
theorem qmt : Plain 136 := by
 intro args W
 kernel_rfl
theorem qn9 : Plain 137 := by
 intro args W
 kernel_rfl
theorem qtw {w0 w : World} {s : Scr} {cv tv gv : Value} {n hh : Nat} (h : Met w0 w s cv tv gv) (hR : Qg s n hh) : Calls Tryz.prog 94 #[.agg (scrA s cv tv gv)] w (Made w0 w (qei s) 0) :=
 qgh s _ cv tv gv 0 w0 w h.v h.b.size fun W _ hW => by
  have := qa7 (h.next hW) hR _ qmt #[] (Qe n s.cs hh) _ (fun w1 _ => qs6 _ w1 s _) (Ya hR (qei s) rfl) rfl
  rwa [qmo (qei s) _ hR.flatten] at this
theorem quj {w0 w : World} {s : Scr} {cv tv gv : Value} {n hh : Nat} (h : Met w0 w s cv tv gv) (hR : Qg s n hh) : Calls Tryz.prog 95 #[.agg (scrA s cv tv gv)] w (Made w0 w (qd9 s) 0) :=
 qcs s _ cv tv gv 0 w0 w h.v h.b.size fun W _ hW => by
  have := qa7 (h.next hW) hR _ qn9 #[] (Qe n s.cs hh) _ (fun w1 _ => qj5 _ w1 s _) (Ya hR (qd9 s) rfl) rfl
  rwa [qmo (qd9 s) _ hR.flatten] at this
theorem qx2 (m : Int) (h0 : 0 ≤ m) (h1 : m ≤ 63) : Kw (bits .and .i64 m 6) = true ∧ bits .and .i64 (bits .xor .i64 (bits .or .i64 (bits .andNot .i64 m 6) (bits .and .i64 m 6)) m) 6 = 0 := by
 have key : ∀ k : Fin 64, Kw (bits .and .i64 (k.val : Int) 6) = true ∧ bits .and .i64 (bits .xor .i64 (bits .or .i64 (bits .andNot .i64 (k.val : Int) 6) (bits .and .i64 (k.val : Int) 6)) (k.val : Int)) 6 = 0 := by decide +kernel
 have h := key ⟨m.toNat, by omega⟩
 have e : ((m.toNat : Nat) : Int) = m := by omega
 simp only [e] at h
 exact h
theorem qxh {s : Scr} {n hh : Nat} (h : Qg s n hh) : 0 ≤ s.modes ∧ s.modes ≤ 63 := by
 have := h.looks
 simp only [Q9, Bool.and_eq_true, decide_eq_true_eq] at this
 exact this.2.2.1
theorem qoe {s : Scr} {n hh : Nat} (h : Qg s n hh) : Qg (qei s) n hh := by
 have hm := qxh h
 have hk := h.looks
 simp only [Q9, Bool.and_eq_true] at hk
 have h2 : Q9 (qei s) = true := by
  simp only [Q9, Bool.and_eq_true]
  exact ⟨hk.1, hk.1, hk.2.2.1, (qx2 _ hm.1 hm.2).1⟩
 exact ⟨h.w, h.h, h.n1, h.n2, h.h1, h.h2, h.cl, h.gz, h.x0, h.x1, h.y0, h.y1, h.x0, h.x1, h.y0, h.y1, h.t0, h.t1, h.t2, h.t3, h.late, h2, h.tl, h.la, h.ti, h.gl, h.gr⟩
theorem qbt {s : Scr} {n hh : Nat} (h : Qg s n hh) (xs : List Int) : Qg (qch s xs) n hh := by
 have hk := h.looks
 simp only [Q9, Bool.and_eq_true] at hk
 have h2 : Q9 (qch s xs) = true := by
  simp only [Q9, Bool.and_eq_true]
  exact ⟨Stl.qjp xs (s.sf, s.sb, s.sx) hk.1, hk.2.1, hk.2.2.1, hk.2.2.2⟩
 exact ⟨h.w, h.h, h.n1, h.n2, h.h1, h.h2, h.cl, h.gz, h.x0, h.x1, h.y0, h.y1, h.kx0, h.kx1, h.ky0, h.ky1, h.t0, h.t1, h.t2, h.t3, h.late, h2, h.tl, h.la, h.ti, h.gl, h.gr⟩
theorem qqg {s : Scr} {n hh : Nat} (h : Qg s n hh) (ht : s.title.size ≤ 1048576) : Fits s := by
 have hm := qxh h
 have hk := h.looks
 simp only [Q9, Bool.and_eq_true] at hk
 have h4 : s.km = 0 ∨ s.km = 2 ∨ s.km = 4 ∨ s.km = 6 := by simpa [Kw] using hk.2.2.2
 exact ⟨by omega, by omega, by omega, by omega, ht, by have := h.gl; omega, by have := h.tl; have := h.n2; omega⟩
end Put
namespace Put
open Grd (C Qf)
theorem qy6 (n hh : Nat) (hs : Grd.Zi n hh = true) : Qf n hh (Qp n hh).cs = 0 := by
 refine (Grd.Zb n hh _).2 ⟨hs, by simp [Qp], fun y hy => ?_⟩
 have hle : y * n + n ≤ n * hh := by
  have : (y + 1) * n ≤ hh * n := Nat.mul_le_mul_right n hy
  rw [Nat.mul_comm n hh]
  rw [Nat.add_mul] at this
  omega
 have e : Grd.rowAt n (Qp n hh).cs y = List.replicate n (32, 0, 0, 0) := by
  unfold Grd.rowAt Qp
  dsimp only
  rw [List.drop_replicate, List.take_replicate]
  congr 1
  omega
 rw [e]
 exact U9 n 0 (by decide)
theorem q1b {n hh : Nat} {g : List (List C)} : Q9 { Qp n hh with gone := g } = true := by
 have h : Q9 (Qp 1 1) = true := by decide +kernel
 exact h
theorem q1n : J8 ⟨#[]⟩ = true := by decide +kernel
theorem qpn (n hh : Nat) (n1 : 1 ≤ n) (n2 : n ≤ 120) (h1 : 1 ≤ hh) (h2 : hh ≤ 60) (g : List (List C)) (g1 : g.length ≤ 50) (g2 : ∀ row, row ∈ g → Qf row.length 1 row = 0) : Qg { Qp n hh with gone := g } n hh := by
 have hs : Grd.Zi n hh = true := by simp [Grd.Zi]; omega
 have tl : (Yv n).length = n := by simp [Yv]
 exact ⟨rfl, rfl, n1, n2, h1, h2, by simp [Qp], qy6 n hh hs, by show (0 : Int) ≤ 0; omega, by show (0 : Int) < n; omega, by show (0 : Int) ≤ 0; omega, by show (0 : Int) < (hh : Int); omega, by show (0 : Int) ≤ 0; omega, by show (0 : Int) < n; omega, by show (0 : Int) ≤ 0; omega, by show (0 : Int) < (hh : Int); omega, by show (0 : Int) ≤ 0; omega, by show (0 : Int) ≤ (hh : Int) - 1; omega, by show (hh : Int) - 1 < (hh : Int); omega, by show (0 : Int) < (hh : Int) - 1 ∨ hh = 1; omega, by unfold Zz; rfl, q1b, tl, .inl rfl, q1n, g1, g2⟩
theorem Qg.qwu {s : Scr} {n hh : Nat} (h : Qg s n hh) (l : List Bool) (hl : l.length = n) : Qg { s with tabs := l } n hh :=
 ⟨h.w, h.h, h.n1, h.n2, h.h1, h.h2, h.cl, h.gz, h.x0, h.x1, h.y0, h.y1, h.kx0, h.kx1, h.ky0, h.ky1, h.t0, h.t1, h.t2, h.t3, h.late, h.looks, hl, h.la, h.ti, h.gl, h.gr⟩
theorem Qg.q15 {s : Scr} {n hh : Nat} (h : Qg s n hh) : Qg { s with gone := [] } n hh :=
 ⟨h.w, h.h, h.n1, h.n2, h.h1, h.h2, h.cl, h.gz, h.x0, h.x1, h.y0, h.y1, h.kx0, h.kx1, h.ky0, h.ky1, h.t0, h.t1, h.t2, h.t3, h.late, h.looks, h.tl, h.la, h.ti, by simp, by simp⟩
end Put
namespace Put
open Grd (C SliceAt Qb Qf z0 Qx flat Qe)
section
attribute [local go_sem ↓] Jc Jj
attribute [local go_sem] Gj Xw X0
set_option maxHeartbeats 4000000 in
theorem qki (s s' : Scr) (cv tv gv : Value) (a : Int) (w0 w : World) (hT : Txt.Tab w) (hV : Zh w0 s cv tv gv) (hb0 : Below w0.heap.size w0 w) (hF : Fits s)
  (hCH : ∀ W B D, Below w.heap.size w W → W.cell? ⟨B, 0, none⟩ = some (.int .i64 a) → W.heap[D]? = some (.cells (scrA s cv tv gv) 32 (0, 0)) → Calls Tryz.prog 36 #[.agg (scrA s cv tv gv), .int .i64 (Qk s), .func (.func 203) #[] #[.pointer (some ⟨B, 0, none⟩), .pointer (some ⟨D, 0, none⟩)]] W (Made w0 W s' (Qk s))) :
  Calls Tryz.prog 159 #[.agg (scrA s cv tv gv), .int .i64 a] w (Made w0 w s' (Qk s)) := by
 obtain ⟨ca, cc, rfl⟩ := hV.c.shape
 obtain ⟨ta, tc, rfl⟩ := hV.t.slice
 obtain ⟨ga, gc, rfl⟩ := hV.g.slice
 have hx0 : (((w.alloc (.cells (scS s ca cc ta tc ga gc) 32)).alloc (.cells #[.int .i64 a] 3)).alloc (.cells zA 32)).heap[w.heap.size]? = some (.cells (scS s ca cc ta tc ga gc) 32 (0, 0)) := (Below.heap_alloc _ _ _ (by simp; omega)).trans ((Below.heap_alloc _ _ _ (by simp)).trans (heap_alloc_new _ _))
 have hxt : (((w.alloc (.cells (scS s ca cc ta tc ga gc) 32)).alloc (.cells #[.int .i64 a] 3)).alloc (.cells zA 32)).heap[w.heap.size + 1]? = some (.cells #[.int .i64 a] 3 (0, 0)) := (Below.heap_alloc _ _ _ (by simp)).trans (heap_alloc2_new w _ _)
 have hx1 : (((w.alloc (.cells (scS s ca cc ta tc ga gc) 32)).alloc (.cells #[.int .i64 a] 3)).alloc (.cells zA 32)).heap[w.heap.size + 2]? = some (.cells zA 32 (0, 0)) := by
  have h := heap_alloc_new ((w.alloc (.cells (scS s ca cc ta tc ga gc) 32)).alloc (.cells #[.int .i64 a] 3)) (.cells zA 32)
  have e : ((w.alloc (.cells (scS s ca cc ta tc ga gc) 32)).alloc (.cells #[.int .i64 a] 3)).heap.size = w.heap.size + 2 := by simp
  rw [e] at h
  exact h
 have hkb : Below w.heap.size w (((w.alloc (.cells (scS s ca cc ta tc ga gc) 32)).alloc (.cells #[.int .i64 a] 3)).alloc (.cells zA 32)) := (((Below.refl _ _).alloc (Nat.le_refl _) _).alloc (by simp) _).alloc (by simp; omega) _
 have HX0 : Hid _ := hx0
 have HX1 : Hid _ := hx1
 have HKB : Hid _ := hkb
 have HXT : Hid _ := hxt
 have HCK : Hid (∀ W, Below w.heap.size w W → Calls Tryz.prog 7 #[.agg (scS s ca cc ta tc ga gc)] W fun e w' => e = .returned (.int .i64 (Qk s)) ∧ Below W.heap.size W w') := fun W hW => Zq s _ _ _ W (Grd.Tab.next hT hW) (hV.next (hb0.trans (hW.mono hb0.size))) hF
 have HCH : Hid (∀ W, Below w.heap.size w W → W.cell? ⟨w.heap.size + 1, 0, none⟩ = some (.int .i64 a) → W.heap[w.heap.size]? = some (.cells (scS s ca cc ta tc ga gc) 32 (0, 0)) → Calls Tryz.prog 36 #[.agg (scS s ca cc ta tc ga gc), .int .i64 (Qk s), .func (.func 203) #[] #[.pointer (some ⟨w.heap.size + 1, 0, none⟩), .pointer (some ⟨w.heap.size, 0, none⟩)]] W (Made w0 W s' (Qk s))) := fun W => hCH W _ _
 have hM := hb0.size
 clear hx0 hx1 hkb hV hF hT hCH hb0 hxt
 generalize Qk s = er at *
 go_enter Tryz.func159, Tryz.ntmps159
 go_upto_region 1 with fail
 generalize (((w.alloc (.cells (scS s ca cc ta tc ga gc) 32)).alloc (.cells #[.int .i64 a] 3)).alloc (.cells zA 32)) = X at *
 have SK : Hid (∀ w', Below X.heap.size X w' → Below w.heap.size w w' ∧ Zg w' (.pointer (some ⟨w.heap.size, 0, none⟩)) ∧ Z5 w' (.pointer (some ⟨w.heap.size, 0, none⟩)) = (scS s ca cc ta tc ga gc) ∧ Zc w' (.pointer (some ⟨w.heap.size + 2, 0, none⟩))) := fun w' hb => by
  have h0 := Grd.carry HX0.out hb
  exact ⟨HKB.out.trans (hb.mono HKB.out.size), (Qu h0).1, (Qu h0).2, Za (Grd.carry HX1.out hb) rfl⟩
 have b0 : Below X.heap.size X X.drew := (Below.refl _ _).drew
 go_region_held3 (fun w' => Below w.heap.size w w' ∧ Zg w' (.pointer (some ⟨w.heap.size, 0, none⟩)) ∧ Z5 w' (.pointer (some ⟨w.heap.size, 0, none⟩)) = (scS s ca cc ta tc ga gc) ∧ Zc w' (.pointer (some ⟨w.heap.size + 2, 0, none⟩)))
  (first | exact KF.out | exact SK.out _ b2 | exact SK.out _ b1 | exact SK.out _ b0)
  (first | (go_at_call 7; refine (HCK.out _ (SK.out _ b0).1).mono ?_; rintro e V1 ⟨rfl, c1⟩; have b1 := b0.trans (c1.mono b0.size); clear c1) | (go_at_call 36; refine (HCH.out _ (SK.out _ b1).1 (qc8 (Grd.carry HXT.out b1)) (Grd.carry HX0.out b1)).mono ?_; rintro e V2 ⟨cv', tv', gv', rfl, hO, c2⟩; have b2 := b1.trans (c2.mono b1.size); obtain ⟨a1, n1, c1, a2, n2, c2', a3, n3, c3, rfl, rfl, rfl⟩ := hO.shapes; have HO : Hid (Qo V2 0 _ s' _ _ _) := hO; clear c2 hO; have HR : Hid (V2.heap[w.heap.size + 2]? = _) := Grd.carry HX1.out b2; have KF : Hid (Below w.heap.size w (V2.setRow (w.heap.size + 2) (scT s' a1 n1 c1 a2 n2 c2' a3 n3 c3)) ∧ Zg (V2.setRow (w.heap.size + 2) (scT s' a1 n1 c1 a2 n2 c2' a3 n3 c3)) (.pointer (some ⟨w.heap.size, 0, none⟩)) ∧ Z5 (V2.setRow (w.heap.size + 2) (scT s' a1 n1 c1 a2 n2 c2' a3 n3 c3)) (.pointer (some ⟨w.heap.size, 0, none⟩)) = (scS s ca cc ta tc ga gc) ∧ Zc (V2.setRow (w.heap.size + 2) (scT s' a1 n1 c1 a2 n2 c2' a3 n3 c3)) (.pointer (some ⟨w.heap.size + 2, 0, none⟩))) := qvs (SK.out _ b2).1 (Grd.carry HX0.out b2) HR.out))
 all_goals go_wp2_with fail
 all_goals (try simp only [Exit.inBlock, Exit.then])
 all_goals refine bodyPost_ret (v := .tuple #[.agg (scT s' a1 n1 c1 a2 n2 c2' a3 n3 c3), .int .i64 er]) ?_ rfl ⟨_, _, _, rfl, (Qo.off HO.out HR.out Ql (by omega) fun k hk => setRow_other _ _ _ _ hk).mono (SK.out _ b1).1.size, KF.out.1⟩
 all_goals exact Grd.Qd rfl _ _ (w.heap.size + 2) _ _ _ _ rfl (setRow_heap _ _ _ _ _ _ HR.out) Tryz.underlying32 rfl (by kernel_rfl) _ rfl
end
end Put
namespace Put
open Grd (C SliceAt Qb Qf z0 Qx flat Qe)
open Txt (wd)
def agP (n : Nat) (r : Int) (x : Scr × List (List C)) : Nat → Scr × List (List C)
 | 0 => x
 | i + 1 => Ut n (agP n r x i).1 (agP n r x i).2 r
theorem PJ.again {n hh : Nat} {s : Scr} {rows : List (List C)} (h : PJ n hh s rows) (r : Int) : ∀ i, PJ n hh (agP n r (s, rows) i).1 (agP n r (s, rows) i).2
 | 0 => h
 | i + 1 => (PJ.again h r i).print r
def Gs (a : Int) : Nat := (min (max a 1) 7200).toNat
theorem qua (a : Int) : min (max a 1) 7200 = ((Gs a : Nat) : Int) := by unfold Gs; omega
def qjt (n hh : Nat) (a : Int) (s : Scr) : Scr := { (agP n s.last (s, Qe n s.cs hh) (Gs a)).1 with cs := (agP n s.last (s, Qe n s.cs hh) (Gs a)).2.flatten }
theorem qi7 : Plain 203 := by
 intro args W
 kernel_rfl
set_option maxHeartbeats 2000000 in
theorem qpi {n hh : Nat} {s : Scr} {rows : List (List C)} (h : PJ n hh s rows) (a : Int) (s0 : Scr) (cv tv gv : Value) (hs0 : s0.last = s.last) (B D M : Nat) (w : World) (hT : Txt.Tab w) (hB : w.cell? ⟨B, 0, none⟩ = some (.int .i64 a)) (hD : w.heap[D]? = some (.cells (scrA s0 cv tv gv) 32 (0, 0))) :
  Does 203 #[.pointer (some ⟨B, 0, none⟩), .pointer (some ⟨D, 0, none⟩)] M w s (agP n s.last (s, rows) (Gs a)).1 rows (agP n s.last (s, rows) (Gs a)).2 := by
 intro W p hb hS
 have q0 := Qa hb hB
 have HCL : Hid (∀ X, Below w.heap.size W X → X.cell? ⟨D, 19, none⟩ = some (.int .i32 s.last)) := fun X hX => by
  have h1 := Grd.carry hD (hb.trans hX)
  obtain ⟨-, ⟨-, -, -, -, -, -, -, -, c19, -⟩, -⟩ := Qh h1
  rw [hs0] at c19
  exact c19
 have HPR : Hid (∀ i X, Below w.heap.size W X → ShAt 111 X M w.heap.size p (agP n s.last (s, rows) i).1 (agP n s.last (s, rows) i).2 → Calls Tryz.prog 38 #[.pointer (some ⟨p, 0, none⟩), .int .i32 s.last] X (Ran X M w.heap.size p (agP n s.last (s, rows) (i + 1)).1 (agP n s.last (s, rows) (i + 1)).2)) := fun i X hX hSX => Us (h.again s.last i).pi s.last X M w.heap.size p (Grd.Tab.next hT (hb.trans hX)) hT.pos hSX
 have HS : Hid (ShAt 111 W M w.heap.size p (agP n s.last (s, rows) 0).1 (agP n s.last (s, rows) 0).2) := hS
 have m1 := Grd.max2 a 1
 have m2 := Grd.min2 (max a 1) 7200
 rw [qua a] at m2
 have hK : Gs a ≤ 7200 := by unfold Gs; omega
 generalize Gs a = K at *
 clear hS hB hD h hs0
 generalize agP n s.last (s, rows) = st at *
 generalize s.last = r at *
 go_enter Tryz.func203, Tryz.ntmps203
 go_wp2_with fail
 go_loopg [7] K (fun q v wr => ∃ i : Nat, v = .int .i64 (i : Int) ∧ i ≤ K ∧ K - i ≤ q ∧ ShAt 111 wr M w.heap.size p (st i).1 (st i).2 ∧ Below w.heap.size W wr)
 case atStart => exact ⟨0, rfl, by omega, by omega, HS.out, Below.refl _ _⟩
 case round =>
  obtain ⟨i, rfl, hi, hq, hSi, hBi⟩ := hrel
  by_cases hlt : i < K
  ·have lt1 : (i : Int) < (K : Int) := by omega
   have c19 := HCL.out wr hBi
   have HP := HPR.out i wr hBi hSi
   have HBI : Hid (Below w.heap.size W wr) := hBi
   clear hSi hBi
   go_wp2_with fail
   refine HP.mono ?_
   rintro e V ⟨rfl, hV, bV, -⟩
   have HV : Hid _ := hV
   have HBV : Hid (Below w.heap.size W V) := HBI.out.trans bV
   clear hV bV HP c19
   go_wp2_with fail
   go_roundg (K - (i + 1))
   case measure => omega
   case rel => exact ⟨i + 1, by go_num, by omega, by omega, HV.out, HBV.out⟩
  ·have lt1 : ¬ (i : Int) < (K : Int) := by omega
   have e : i = K := by omega
   subst e
   have HSI : Hid _ := hSi
   have HBI : Hid (Below w.heap.size W wr) := hBi
   clear hSi hBi
   go_wp2_with fail
   go_end0
   exact ⟨rfl, HSI.out, HBI.out⟩
theorem qm0 {s : Scr} {n hh : Nat} (hR : Qg s n hh) (a : Int) : Qg (qjt n hh a s) n hh := ((PJ.start hR).again s.last (Gs a)).r
theorem qo6 {w0 w : World} {s : Scr} {cv tv gv : Value} {n hh : Nat} (h : Met w0 w s cv tv gv) (hR : Qg s n hh) (a : Int) :
  Calls Tryz.prog 159 #[.agg (scrA s cv tv gv), .int .i64 a] w (Made w0 w (qjt n hh a s) 0) := by
 have hj := PJ.start hR
 have he := hj.again s.last (Gs a)
 have hz := Yn hR
 have key := qki s (qjt n hh a s) cv tv gv a w0 w h.t h.v h.b h.f
 rw [hz] at key
 refine key fun W B D hW hB hD => ?_
 exact Jn n hh s _ _ cv tv gv _ qi7 _ w0 W h.v (h.b.trans (hW.mono h.b.size)) h.f hR.w hR.h hR.gz (fun w1 hw1 => qpi hj a s cv tv gv rfl B D _ w1 (Grd.Tab.next (Grd.Tab.next h.t hW) hw1) (Qa hw1 hB) (Grd.carry hD hw1)) (Fy hR _ _ he.rl (fun i hi => (he.rr i hi).1) (Nat.le_succ_of_le he.r.gl) (fun i hi => by have := he.r.Uh i hi; exact Nat.le_trans this (by omega))) _ rfl
end Put
namespace Txt
end Txt
namespace Put
open Grd (C SliceAt Qb Qf z0 Qx flat Qe)
open Txt (wd)
def Vr (n : Nat) (x : Scr × List (List C)) (l : List (Int × Nat)) : Scr × List (List C) := l.foldl (fun x r => Ut n x.1 x.2 r.1) x
theorem qd8 (n : Nat) (x : Scr × List (List C)) (l l' : List (Int × Nat)) : Vr n x (l ++ l') = Vr n (Vr n x l) l' := by
 unfold Vr
 rw [List.foldl_append]
theorem qy7 (n : Nat) (s : Scr) (rows : List (List C)) (r : Int) (c : List C) : Xe n { s with cs := c } rows r = ({ (Xe n s rows r).1 with cs := c }, (Xe n s rows r).2) := by
 unfold Xe
 by_cases h : Kb s (wd r) = true
 ·have h' : Kb { s with cs := c } (wd r) = true := h
  rw [if_pos h, if_pos h']
  unfold fedP
  by_cases h2 : s.y = s.bot
  ·rw [if_pos (show ({ s with cs := c } : Scr).y = ({ s with cs := c } : Scr).bot from h2), if_pos h2]
   unfold upS
   dsimp only
   split <;> rfl
  ·rw [if_neg (show ¬ ({ s with cs := c } : Scr).y = ({ s with cs := c } : Scr).bot from h2), if_neg h2]
   unfold G6
   dsimp only
   split <;> rfl
 ·have h' : ¬ Kb { s with cs := c } (wd r) = true := h
  rw [if_neg h, if_neg h']
theorem qyy (n : Nat) (s : Scr) (rows : List (List C)) (r : Int) (c : List C) : Ut n { s with cs := c } rows r = ({ (Ut n s rows r).1 with cs := c }, (Ut n s rows r).2) := by
 unfold Ut
 rw [qy7]
 generalize Xe n s rows r = q
 by_cases h1 : wd r = 0 ∨ s.w < wd r
 ·rw [if_pos h1, if_pos (show wd r = 0 ∨ ({ s with cs := c } : Scr).w < wd r from h1)]
 ·rw [if_neg h1, if_neg (show ¬ (wd r = 0 ∨ ({ s with cs := c } : Scr).w < wd r) from h1)]
  by_cases h2 : Jg q.1 (wd r) = false
  ·rw [if_pos h2, if_pos (show Jg ({ q.1 with cs := c } : Scr) (wd r) = false from h2)]
  ·rw [if_neg h2, if_neg (show ¬ Jg ({ q.1 with cs := c } : Scr) (wd r) = false from h2)]
   unfold Ke
   dsimp only
   split <;> rfl
theorem qrs (n : Nat) (c : List C) : ∀ (l : List (Int × Nat)) (s : Scr) (rows : List (List C)), Vr n ({ s with cs := c }, rows) l = ({ (Vr n (s, rows) l).1 with cs := c }, (Vr n (s, rows) l).2)
 | [], s, rows => rfl
 | r :: l, s, rows => by
  have e : Vr n ({ s with cs := c }, rows) (r :: l) = Vr n (Ut n { s with cs := c } rows r.1) l := rfl
  have e2 : Vr n (s, rows) (r :: l) = Vr n (Ut n s rows r.1) l := rfl
  rw [e, e2, qyy]
  exact qrs n c l (Ut n s rows r.1).1 (Ut n s rows r.1).2
theorem PJ.back {n hh : Nat} {s : Scr} {rows : List (List C)} (h : PJ n hh s rows) : Qe n rows.flatten hh = rows :=
 (Uv h.r s.gone rows h.rl h.rr h.r.gl h.r.gr).2
end Put
namespace Txt
theorem qwl (n b0 b1 b2 b3 : Nat) : (Lib.decodeN n b0 b1 b2 b3).2 ≤ 4 := by
 unfold Lib.decodeN
 repeat' split
 all_goals simp
theorem qsn : ∀ (k : Nat) (l : List UInt8), l.length ≤ k → l.length ≤ 4 * (rn l).length
 | 0, l, h => by omega
 | k + 1, l, h => by
  by_cases hl : l = []
  ·subst hl
   simp
  ·rw [qrv l hl, List.length_cons]
   have h1 := Fz l
   have h2 : (dec l).2 ≤ 4 := qwl _ _ _ _ _
   have h3 := q09 l hl
   have ih := qsn k (l.drop (dec l).2) (by rw [List.length_drop]; omega)
   rw [List.length_drop] at ih
   omega
end Txt
namespace Put
open Grd (C SliceAt Qb Qf z0 Qx flat Qe)
theorem qni {t : ByteArray} (h : J8 t = true) : t.size ≤ 80 := by
 unfold J8 at h
 rw [Bool.and_eq_true, decide_eq_true_eq, Txt.qcw, Txt.qb3] at h
 have := Txt.qsn t.data.toList.length t.data.toList (Nat.le_refl _)
 have e : t.data.toList.length = t.size := Array.length_toList
 omega
theorem Qg.fits {s : Scr} {n hh : Nat} (h : Qg s n hh) : Fits s := qqg h (by have := qni h.ti; omega)
abbrev Phi := Nat → Nat → Scr → Scr
def Xb (f : Phi) : Prop := ∀ (s : Scr) (n hh : Nat), Qg s n hh → Qg (f n hh s) n hh
structure MetS (w0 w : World) (s : Scr) (cv tv gv : Value) : Prop where
 m : Met w0 w s cv tv gv
 l : Stl.Tab w
structure Ct (fid : FuncId) (xs : Array Value) (f : Phi) : Prop where
 plain : Plain fid
 keeps : Xb f
 runs : ∀ (w0 w : World) (s : Scr) (cv tv gv : Value) (n hh : Nat), MetS w0 w s cv tv gv → Qg s n hh → Calls Tryz.prog fid (#[.agg (scrA s cv tv gv)] ++ xs) w (Made w0 w (f n hh s) 0)
def qkj (k : Int) : Phi := fun _ _ s => Jf s (s.x + cnt k) s.y
def qjc (k : Int) : Phi := fun _ _ s => Jf s (s.x - cnt k) s.y
def phTo (a b : Int) : Phi := fun _ _ s => Jf s (cnt b - 1) (qcv s a)
def phUp (k : Int) : Phi := fun _ _ s => Jf s s.x (if s.top ≤ s.y then max (s.y - cnt k) s.top else s.y - cnt k)
def qgb (k : Int) : Phi := fun _ _ s => Jf s s.x (if s.y ≤ s.bot then min (s.y + cnt k) s.bot else s.y + cnt k)
def Ku : Phi := fun _ _ s => Jf s 0 s.y
def qfe (k : Int) : Phi := fun _ _ s => Jf s (cnt k - 1) s.y
def q0w (k : Int) : Phi := fun _ _ s => Jf s s.x (qcv s k)
def qrt (k : Int) : Phi := fun n _ s => Jf s ((Z7 (Jq s.tabs n) (cnt k).toNat s.x.toNat : Nat) : Int) s.y
def qid (k : Int) : Phi := fun _ _ s => Jf s ((Z7 (Kn s.tabs) (cnt k).toNat s.x.toNat : Nat) : Int) s.y
def qmd : Phi := fun _ _ s => { s with tabs := s.tabs.set s.x.toNat true, cs := s.cs }
def qg3 (k : Int) : Phi := fun _ _ s => { s with tabs := Vn s.tabs s.x.toNat k, cs := s.cs }
def q0x (k : Int) : Phi := fun n hh s => cinS s n hh k
def q0v (k : Int) : Phi := fun n hh s => cdlS s n hh k
def q0q (k : Int) : Phi := fun n hh s => { (Zu (rUp n s.top.toNat s.bot.toNat true) (Vj k s.top.toNat s.bot.toNat) (s, Qe n s.cs hh)).1 with cs := (Zu (rUp n s.top.toNat s.bot.toNat true) (Vj k s.top.toNat s.bot.toNat) (s, Qe n s.cs hh)).2.flatten }
def qr2 (k : Int) : Phi := fun n hh s => { (Zu (rDn n s.top.toNat s.bot.toNat) (Vj k s.top.toNat s.bot.toNat) (s, Qe n s.cs hh)).1 with cs := (Zu (rDn n s.top.toNat s.bot.toNat) (Vj k s.top.toNat s.bot.toNat) (s, Qe n s.cs hh)).2.flatten }
def qwq (k : Int) : Phi := fun n hh s => { (insZ s k n hh s.bot.toNat).1 with cs := (insZ s k n hh s.bot.toNat).2.flatten }
def qxw (k : Int) : Phi := fun n hh s => { (delZ s k n hh s.bot.toNat).1 with cs := (delZ s k n hh s.bot.toNat).2.flatten }
def qd1 : Phi := fun n hh s => { qcc s (Qe n s.cs hh) s.top.toNat with cs := (Gy s (Qe n s.cs hh) n s.top.toNat s.bot.toNat).flatten }
def qvx : Phi := fun n hh s => { qaa s with cs := (qce s (Qe n s.cs hh) n s.top.toNat s.bot.toNat).flatten }
def qfu (a b : Int) : Phi := fun _ _ s => regS s a b
def qv1 (k : Int) : Phi := fun n hh s => { s with late := false, cs := (qeo s k n hh).flatten }
def U0 (k : Int) : Phi := fun n hh s => if k ≤ 2 then { s with late := false, cs := (F4 s k n hh).flatten } else { (if k = 3 then { s with gone := [] } else s) with cs := s.cs }
def qr4 (k : Int) : Phi := fun n hh s => { s with late := false, cs := (qbr s k n hh).flatten }
def qen (b : Int) (on : Bool) : Phi := fun _ _ s => setS s (bits .and .i64 b 63) on
def qgv (t : ByteArray) : Phi := fun _ _ s => qcb s t
def qky : Phi := fun n hh s => Xt s n hh
def qah (xs : List Int) : Phi := fun _ _ s => qch s xs
def qkd : Phi := fun _ _ s => qei s
def qk1 : Phi := fun _ _ s => qd9 s
def qro (k : Int) : Phi := fun n hh s => qjt n hh k s
theorem MetS.came {w0 w : World} {s : Scr} {cv tv gv : Value} (h : MetS w0 w s cv tv gv) : Came w0 w s cv tv gv := h.m.came
theorem MetS.wipe {w0 w : World} {s : Scr} {cv tv gv : Value} (h : MetS w0 w s cv tv gv) : qbh w0 w s cv tv gv := ⟨h.m.t, h.m.v, h.m.b, h.m.f⟩
theorem Qg.U6 {s : Scr} {n hh : Nat} (h : Qg s n hh) : s.top = (s.top.toNat : Int) ∧ s.bot = (s.bot.toNat : Int) := by
 have := h.t0
 have := h.t1
 omega
theorem qr6 (k : Int) : Ct 150 #[.int .i64 k] (qkj k) := ⟨fun _ _ => by kernel_rfl, fun _ _ _ h => Xh h _ _, fun _ _ _ _ _ _ _ _ hm hR => qu7 hm.came hR k⟩
theorem qq6 (k : Int) : Ct 89 #[.int .i64 k] (qjc k) := ⟨fun _ _ => by kernel_rfl, fun _ _ _ h => Xh h _ _, fun _ _ _ _ _ _ _ _ hm hR => qvz hm.came hR k⟩
theorem ctTo (a b : Int) : Ct 165 #[.int .i64 a, .int .i64 b] (phTo a b) := ⟨fun _ _ => by kernel_rfl, fun _ _ _ h => Xh h _ _, fun _ _ _ _ _ _ _ _ hm hR => q1o hm.came hR a b⟩
theorem ctUp (k : Int) : Ct 148 #[.int .i64 k] (phUp k) := ⟨fun _ _ => by kernel_rfl, fun _ _ _ h => Xh h _ _, fun _ _ _ _ _ _ _ _ hm hR => q1s hm.came hR k⟩
theorem qkr (k : Int) : Ct 149 #[.int .i64 k] (qgb k) := ⟨fun _ _ => by kernel_rfl, fun _ _ _ h => Xh h _ _, fun _ _ _ _ _ _ _ _ hm hR => qxj hm.came hR k⟩
theorem Vo : Ct 93 #[] Ku := ⟨fun _ _ => by kernel_rfl, fun _ _ _ h => Xh h _ _, fun _ _ _ _ _ _ _ _ hm hR => qof hm.came hR⟩
theorem ql2 (k : Int) : Ct 151 #[.int .i64 k] (qfe k) := ⟨fun _ _ => by kernel_rfl, fun _ _ _ h => Xh h _ _, fun _ _ _ _ _ _ _ _ hm hR => qpm hm.came hR k⟩
theorem q1v (k : Int) : Ct 160 #[.int .i64 k] (q0w k) := ⟨fun _ _ => by kernel_rfl, fun _ _ _ h => Xh h _ _, fun _ _ _ _ _ _ _ _ hm hR => qzo hm.came hR k⟩
theorem qwg (k : Int) : Ct 91 #[.int .i64 k] (qrt k) := ⟨qqb, fun _ _ _ h => Xh h _ _, fun w0 W s cv tv gv nn hh hm hR => by
  have e1 := hR.w
  have n2 := hR.n2
  have x0 := hR.x0
  have x1 := hR.x1
  have hc := Xy k
  have hxx : s.x = (s.x.toNat : Int) := by omega
  have hcc : cnt k = ((cnt k).toNat : Int) := by omega
  have hxn : s.x.toNat < nn := by omega
  refine qts s _ cv tv gv k _ w0 W hm.m.v hm.m.b.size fun V hV' => qd2 (hm.m.next hV').came hR k 1 _ _ _ hxx hcc fun w1 W' p j hS => ?_
  exact qyq (s := { Vg s with x := ((Z7 (Jq s.tabs nn) j s.x.toNat : Nat) : Int) }) nn _ W' hS e1 rfl (qx9 s.tabs nn _ hxn j).1 n2 hR.tl⟩
theorem qu4 (k : Int) : Ct 158 #[.int .i64 k] (qid k) := ⟨qfs, fun _ _ _ h => Xh h _ _, fun w0 W s cv tv gv nn hh hm hR => by
  have e1 := hR.w
  have n2 := hR.n2
  have x0 := hR.x0
  have x1 := hR.x1
  have hc := Xy k
  have hxx : s.x = (s.x.toNat : Int) := by omega
  have hcc : cnt k = ((cnt k).toNat : Int) := by omega
  have hxn : s.x.toNat < nn := by omega
  have hlt : ∀ j, Z7 (Kn s.tabs) j s.x.toNat < nn := fun j => by have := qyk s.tabs nn _ hxn j; omega
  refine qhr s _ cv tv gv k _ w0 W hm.m.v hm.m.b.size fun V hV' => qd2 (hm.m.next hV').came hR k (-1) _ _ _ hxx hcc fun w1 W' p j hS => ?_
  exact qw2 (s := { Vg s with x := ((Z7 (Kn s.tabs) j s.x.toNat : Nat) : Int) }) nn _ W' hS e1 rfl (hlt j) n2 hR.tl⟩
theorem qnq : Ct 96 #[] qmd := ⟨qhw, fun _ _ _ h => h.qwu _ (by rw [List.length_set]; exact h.tl), fun w0 W s cv tv gv nn hh hm hR => by
  have n2 := hR.n2
  have x0 := hR.x0
  have x1 := hR.x1
  have hxx : s.x = (s.x.toNat : Int) := by omega
  have hxn : s.x.toNat < nn := by omega
  refine qjs s _ cv tv gv _ w0 W hm.m.v hm.m.b.size fun V _ hV' => ?_
  have h := Fe (hm.m.next hV').came (Xk hR) hR _ qi8 #[] (Qe nn s.cs hh) s.cs (fun w1 _ => qoa w0.heap.size w1 s _ nn _ hxx hxn hR.tl n2) (hR.rows (s' := { s with tabs := s.tabs.set s.x.toNat true }) rfl) hR.flatten
  rw [Xk hR] at h
  exact h⟩
theorem qz2 {s : Scr} {n hh : Nat} (hR : Qg s n hh) (k : Int) : (Vn s.tabs s.x.toNat k).length = n := by
 have := hR.tl
 unfold Vn
 split
 ·rw [List.length_set]
  omega
 ·split
  ·rw [List.length_replicate]
   omega
  ·omega
theorem qra (k : Int) : Ct 163 #[.int .i64 k] (qg3 k) := ⟨qev, fun _ _ _ h => h.qwu _ (qz2 h k), fun w0 W s cv tv gv nn hh hm hR => by
  have n2 := hR.n2
  have x0 := hR.x0
  have x1 := hR.x1
  have hxx : s.x = (s.x.toNat : Int) := by omega
  have hxn : s.x.toNat < nn := by omega
  refine qgp s _ cv tv gv k _ w0 W hm.m.v hm.m.b.size fun V B hV' hB' => ?_
  have h := Fe (hm.m.next hV').came (Xk hR) hR _ qf6 _ (Qe nn s.cs hh) s.cs (fun w1 hw1 => qhl k B w0.heap.size w1 s _ nn _ (Qa hw1 hB') hxx hxn hR.tl n2) (hR.rows (s' := { s with tabs := Vn s.tabs s.x.toNat k }) rfl) hR.flatten
  rw [Xk hR] at h
  exact h⟩
theorem q1u (k : Int) : Ct 147 #[.int .i64 k] (q0x k) := ⟨fun _ _ => by kernel_rfl, fun _ _ _ h => qu3 h k, fun _ _ _ _ _ _ _ _ hm hR => qnr hm.m hR k⟩
theorem q17 (k : Int) : Ct 154 #[.int .i64 k] (q0v k) := ⟨fun _ _ => by kernel_rfl, fun _ _ _ h => qtk h k, fun _ _ _ _ _ _ _ _ hm hR => qlt hm.m hR k⟩
theorem q10 (k : Int) : Ct 155 #[.int .i64 k] (q0q k) := ⟨fun _ _ => by kernel_rfl, fun _ _ _ h => sup_right h _ _ h.U6.1 h.U6.2 true _, fun _ _ _ _ _ _ _ _ hm hR => qzh hm.m hR _ _ hR.U6.1 hR.U6.2 k⟩
theorem qzp (k : Int) : Ct 156 #[.int .i64 k] (qr2 k) := ⟨fun _ _ => by kernel_rfl, fun _ _ _ h => qlx h _ _ h.U6.1 h.U6.2 _, fun _ _ _ _ _ _ _ _ hm hR => qtz hm.m hR _ _ hR.U6.1 hR.U6.2 k⟩
theorem q08 (k : Int) : Ct 152 #[.int .i64 k] (qwq k) := ⟨fun _ _ => by kernel_rfl, fun _ _ _ h => qo2 h k _ h.U6.2, fun _ _ _ _ _ _ _ _ hm hR => qzz hm.m hR _ hR.U6.2 k⟩
theorem q1p (k : Int) : Ct 153 #[.int .i64 k] (qxw k) := ⟨fun _ _ => by kernel_rfl, fun _ _ _ h => qq2 h k _ h.U6.2, fun _ _ _ _ _ _ _ _ hm hR => qzj hm.m hR _ hR.U6.2 k⟩
theorem qdr : Ct 92 #[] qd1 := ⟨fun _ _ => by kernel_rfl, fun _ _ _ h => qph h _ _ h.U6.1 h.U6.2, fun _ _ _ _ _ _ _ _ hm hR => qyr hm.m hR _ _ hR.U6.1 hR.U6.2⟩
theorem qxr : Ct 97 #[] qvx := ⟨fun _ _ => by kernel_rfl, fun _ _ _ h => qor h _ _ h.U6.1 h.U6.2, fun _ _ _ _ _ _ _ _ hm hR => qxu hm.m hR _ _ hR.U6.1 hR.U6.2⟩
theorem qwd (a b : Int) (ha : a ≤ 9223372036854775807) : Ct 167 #[.int .i64 a, .int .i64 b] (qfu a b) := ⟨fun _ _ => by kernel_rfl, fun _ _ _ h => qim h a b, fun _ _ _ _ _ _ _ _ hm hR => qq8 hm.m hR a b ha⟩
theorem q1g (k : Int) : Ct 162 #[.int .i64 k] (qv1 k) := ⟨fun _ _ => by kernel_rfl, fun _ _ _ h => (qbl h _ (Uc h k).1 (Uc h k).2).1, fun _ _ _ _ _ _ _ _ hm hR => qo1 hm.wipe hR (Yn hR) k⟩
theorem qzs (k : Int) : Ct 157 #[.int .i64 k] (qr4 k) := ⟨fun _ _ => by kernel_rfl, fun _ _ _ h => (qbl h _ (Fp h k).1 (Fp h k).2).1, fun _ _ _ _ _ _ _ _ hm hR => qnn hm.wipe hR (Yn hR) k⟩
theorem qws (k : Int) : Ct 161 #[.int .i64 k] (U0 k) := by
 by_cases hk : k ≤ 2
 ·have e : U0 k = fun n hh s => { s with late := false, cs := (F4 s k n hh).flatten } := by
   funext n hh s
   unfold U0
   rw [if_pos hk]
  rw [e]
  exact ⟨fun _ _ => by kernel_rfl, fun _ _ _ h => (qbl h _ (Ul h k).1 (Ul h k).2).1, fun _ _ _ _ _ _ _ _ hm hR => qkf hm.wipe hR (Yn hR) k hk⟩
 ·have e : U0 k = fun _ _ s => { (if k = 3 then { s with gone := [] } else s) with cs := s.cs } := by
   funext n hh s
   unfold U0
   rw [if_neg hk]
  rw [e]
  refine ⟨fun _ _ => by kernel_rfl, fun s n hh h => ?_, fun _ _ _ _ _ _ _ _ hm hR => qk3 hm.wipe hR (Yn hR) k hk⟩
  by_cases h3 : k = 3
  ·rw [if_pos h3]
   exact h.q15
  ·rw [if_neg h3]
   exact h
theorem qka : Ct 94 #[] qkd := ⟨fun _ _ => by kernel_rfl, fun _ _ _ h => qoe h, fun _ _ _ _ _ _ _ _ hm hR => qtw hm.m hR⟩
theorem qk5 : Ct 95 #[] qk1 := ⟨fun _ _ => by kernel_rfl, fun _ _ _ h => qrj h, fun _ _ _ _ _ _ _ _ hm hR => quj hm.m hR⟩
theorem qv4 (b : Int) (on : Bool) (h0 : 0 ≤ bits .and .i64 b 63) (h1 : bits .and .i64 b 63 ≤ 63) : Ct 146 #[.int .i64 b, .bool on] (qen b on) := ⟨fun _ _ => by kernel_rfl, fun _ _ _ h => set_right h _ h0 h1 on, fun _ _ _ _ _ _ _ _ hm hR => qxd hm.m hR b on⟩
theorem qp4 (t : ByteArray) (ht : t.size ≤ 1048576) : Ct 106 #[.string t] (qgv t) := ⟨fun _ _ => by kernel_rfl, fun _ _ _ h => qfy h t, fun _ _ _ _ _ _ _ _ hm hR => qty hm.m hR t ht⟩
theorem qjw : Ct 98 #[] qky := ⟨fun _ _ => by kernel_rfl, fun _ _ _ h => qpn _ _ h.n1 h.n2 h.h1 h.h2 _ h.gl h.gr, fun _ _ _ _ _ _ _ _ hm hR => qqr hm.m hR⟩
theorem qz3 (k : Int) : Ct 159 #[.int .i64 k] (qro k) := ⟨fun _ _ => by kernel_rfl, fun _ _ _ h => qm0 h k, fun _ _ _ _ _ _ _ _ hm hR => qo6 hm.m hR k⟩
theorem MetS.next {w0 w W : World} {s : Scr} {cv tv gv : Value} (h : MetS w0 w s cv tv gv) (hb : Below w.heap.size w W) : MetS w0 W s cv tv gv := ⟨h.m.next hb, h.l.below hb h.l.pos⟩
structure Jp (W : World) (fid : FuncId) (caps : Array Value) (f : Phi) : Prop where
 plain : Plain fid
 keeps : Xb f
 runs : ∀ (w0 w : World) (s : Scr) (cv tv gv : Value) (n hh : Nat), Below W.heap.size W w → MetS w0 w s cv tv gv → Qg s n hh → Calls Tryz.prog fid (#[.agg (scrA s cv tv gv)] ++ caps) w (Made w0 w (f n hh s) 0)
def Step (W : World) (v : Value) (f : Phi) : Prop := ∃ fid caps, v = .func (.func fid) #[] caps ∧ Jp W fid caps f
theorem Jp.next {W W' : World} {fid : FuncId} {caps : Array Value} {f : Phi} (h : Jp W fid caps f) (hb : Below W.heap.size W W') : Jp W' fid caps f := ⟨h.plain, h.keeps, fun w0 w s cv tv gv n hh hw => h.runs w0 w s cv tv gv n hh (hb.trans (hw.mono hb.size))⟩
theorem Step.next {W W' : World} {v : Value} {f : Phi} (h : Step W v f) (hb : Below W.heap.size W W') : Step W' v f := by
 obtain ⟨fid, caps, rfl, h⟩ := h
 exact ⟨fid, caps, rfl, h.next hb⟩
theorem qt6 : Plain 131 := fun _ _ => by kernel_rfl
set_option maxHeartbeats 4000000 in
theorem qxx (fid : FuncId) (k : Int) (f : Phi) (h : Ct fid #[.int .i64 k] f) (W : World) (B1 B2 : Nat) (h1 : W.cell? ⟨B1, 0, none⟩ = some (.func (.func fid) #[] #[])) (h2 : W.cell? ⟨B2, 0, none⟩ = some (.int .i64 k)) : Jp W 131 #[.pointer (some ⟨B1, 0, none⟩), .pointer (some ⟨B2, 0, none⟩)] f := by
 refine ⟨qt6, h.keeps, fun w0 w s cv tv gv n hh hw hm hR => ?_⟩
 obtain ⟨ca, cc, rfl⟩ := hm.m.v.c.shape
 obtain ⟨ta, tc, rfl⟩ := hm.m.v.t.slice
 obtain ⟨ga, gc, rfl⟩ := hm.m.v.g.slice
 have hkb : Below w.heap.size w ((w.alloc (.cells (scS s ca cc ta tc ga gc) 32)).alloc (.cells zA 32)) := (((Below.refl _ _).alloc (by simp) _).alloc (by simp) _)
 have hx0 : ((w.alloc (.cells (scS s ca cc ta tc ga gc) 32)).alloc (.cells zA 32)).heap[w.heap.size]? = _ := (Below.heap_alloc _ _ _ (by simp)).trans (heap_alloc_new w (.cells (scS s ca cc ta tc ga gc) 32))
 have hx1 : ((w.alloc (.cells (scS s ca cc ta tc ga gc) 32)).alloc (.cells zA 32)).heap[w.heap.size + 1]? = _ := heap_alloc2_new w (.cells (scS s ca cc ta tc ga gc) 32) (.cells zA 32)
 have HX0 : Hid _ := hx0
 have HXR : Hid _ := hx1
 have HKB : Hid _ := hkb
 have hsz := hkb.size
 have hM0 := hm.m.b.size
 have hX := hw.trans (hkb.mono hw.size)
 have d1 := Qa hX h1
 have d2 := Qa hX h2
 have HC := h.runs w0 _ s _ _ _ n hh (hm.next hkb) hR
 have hpl := h.plain
 unfold Plain at hpl
 clear hkb hw hm hx0 hx1 hX hR h
 generalize f n hh s = s' at *
 go_enter Tryz.func131, Tryz.ntmps131
 go_upto_region 1 with fail
 generalize ((w.alloc (.cells (scS s ca cc ta tc ga gc) 32)).alloc (.cells zA 32)) = V0 at *
 go_wp2_with (refine wpList_load_row rfl 32 (.tmp 3) rfl w.heap.size rfl _ _ _ _ HX0.out Tryz.underlying32 rfl (by kernel_rfl) ?_)
 refine HC.mono ?_
 rintro e V ⟨cv', tv', gv', rfl, hO, c2⟩
 obtain ⟨a1, n1, c1, a2, n2, c2', a3, n3, c3, rfl, rfl, rfl⟩ := hO.shapes
 have HO : Hid (Qo V 0 _ s' _ _ _) := hO
 have HR : Hid (V.heap[w.heap.size + 1]? = _) := Grd.carry HXR.out c2
 have HB : Hid (Below w.heap.size w V) := HKB.out.trans (c2.mono HKB.out.size)
 clear hO c2 HC
 go_wp2_with (refine wpList_store_row rfl 32 (.tmp 4) (.tmp 10) rfl (w.heap.size + 1) (scT s' a1 n1 c1 a2 n2 c2' a3 n3 c3) rfl rfl _ _ HR.out (by kernel_rfl) rfl (Qn _ _ _ _ _ _ _ _ _ _) ?_)
 (try simp only [Exit.inBlock, Exit.then])
 refine bodyPost_ret (v := .tuple #[.agg (scT s' a1 n1 c1 a2 n2 c2' a3 n3 c3), .int .i64 0]) ?_ rfl ⟨_, _, _, rfl, ?_, below_setRow HB.out (by omega) _⟩
 ·exact Grd.Qd rfl _ _ (w.heap.size + 1) _ _ _ _ rfl (setRow_heap _ _ _ _ _ _ HR.out) Tryz.underlying32 rfl (by kernel_rfl) _ rfl
 ·exact (Qo.off HO.out HR.out Ql (by omega) fun k hk => setRow_other _ _ _ _ hk).mono hsz
theorem qhu : Plain 105 := fun _ _ => by kernel_rfl
set_option maxHeartbeats 4000000 in
theorem qj0 (t : ByteArray) (ht : t.size ≤ 1048576) (W : World) (B : Nat) (h1 : W.cell? ⟨B, 0, none⟩ = some (.string t)) : Jp W 105 #[.pointer (some ⟨B, 0, none⟩)] (qgv t) := by
 refine ⟨qhu, (qp4 t ht).keeps, fun w0 w s cv tv gv n hh hw hm hR => ?_⟩
 obtain ⟨ca, cc, rfl⟩ := hm.m.v.c.shape
 obtain ⟨ta, tc, rfl⟩ := hm.m.v.t.slice
 obtain ⟨ga, gc, rfl⟩ := hm.m.v.g.slice
 have hkb : Below w.heap.size w ((w.alloc (.cells (scS s ca cc ta tc ga gc) 32)).alloc (.cells zA 32)) := (((Below.refl _ _).alloc (by simp) _).alloc (by simp) _)
 have hx0 : ((w.alloc (.cells (scS s ca cc ta tc ga gc) 32)).alloc (.cells zA 32)).heap[w.heap.size]? = _ := (Below.heap_alloc _ _ _ (by simp)).trans (heap_alloc_new w (.cells (scS s ca cc ta tc ga gc) 32))
 have hx1 : ((w.alloc (.cells (scS s ca cc ta tc ga gc) 32)).alloc (.cells zA 32)).heap[w.heap.size + 1]? = _ := heap_alloc2_new w (.cells (scS s ca cc ta tc ga gc) 32) (.cells zA 32)
 have HX0 : Hid _ := hx0
 have HXR : Hid _ := hx1
 have HKB : Hid _ := hkb
 have hsz := hkb.size
 have hM0 := hm.m.b.size
 have hX := hw.trans (hkb.mono hw.size)
 have d1 := Qa hX h1
 have HC := (qp4 t ht).runs w0 _ s _ _ _ n hh (hm.next hkb) hR
 clear hkb hw hm hx0 hx1 hX hR ht
 generalize (qgv t) n hh s = s' at *
 go_enter Tryz.func105, Tryz.ntmps105
 go_upto_region 1 with fail
 generalize ((w.alloc (.cells (scS s ca cc ta tc ga gc) 32)).alloc (.cells zA 32)) = V0 at *
 go_wp2_with (refine wpList_load_row rfl 32 (.tmp 2) rfl w.heap.size rfl _ _ _ _ HX0.out Tryz.underlying32 rfl (by kernel_rfl) ?_)
 refine HC.mono ?_
 rintro e V ⟨cv', tv', gv', rfl, hO, c2⟩
 obtain ⟨a1, n1, c1, a2, n2, c2', a3, n3, c3, rfl, rfl, rfl⟩ := hO.shapes
 have HO : Hid (Qo V 0 _ s' _ _ _) := hO
 have HR : Hid (V.heap[w.heap.size + 1]? = _) := Grd.carry HXR.out c2
 have HB : Hid (Below w.heap.size w V) := HKB.out.trans (c2.mono HKB.out.size)
 clear hO c2 HC
 go_wp2_with (refine wpList_store_row rfl 32 (.tmp 3) (.tmp 8) rfl (w.heap.size + 1) (scT s' a1 n1 c1 a2 n2 c2' a3 n3 c3) rfl rfl _ _ HR.out (by kernel_rfl) rfl (Qn _ _ _ _ _ _ _ _ _ _) ?_)
 (try simp only [Exit.inBlock, Exit.then])
 refine bodyPost_ret (v := .tuple #[.agg (scT s' a1 n1 c1 a2 n2 c2' a3 n3 c3), .int .i64 0]) ?_ rfl ⟨_, _, _, rfl, ?_, below_setRow HB.out (by omega) _⟩
 ·exact Grd.Qd rfl _ _ (w.heap.size + 1) _ _ _ _ rfl (setRow_heap _ _ _ _ _ _ HR.out) Tryz.underlying32 rfl (by kernel_rfl) _ rfl
 ·exact (Qo.off HO.out HR.out Ql (by omega) fun k hk => setRow_other _ _ _ _ hk).mono hsz
theorem qf8 : Plain 145 := fun _ _ => by kernel_rfl
set_option maxHeartbeats 4000000 in
theorem qht (b : Int) (on tu : Bool) (h0 : 0 ≤ bits .and .i64 b 63) (h63 : bits .and .i64 b 63 ≤ 63) (W : World) (B1 B2 B3 : Nat) (h1 : W.cell? ⟨B1, 0, none⟩ = some (.int .i64 b)) (h2 : W.cell? ⟨B2, 0, none⟩ = some (.bool on)) (h3 : W.cell? ⟨B3, 0, none⟩ = some (.bool tu)) : Jp W 145 #[.pointer (some ⟨B1, 0, none⟩), .pointer (some ⟨B2, 0, none⟩), .pointer (some ⟨B3, 0, none⟩)] (qen b (on != tu)) := by
 refine ⟨qf8, (qv4 b _ h0 h63).keeps, fun w0 w s cv tv gv n hh hw hm hR => ?_⟩
 obtain ⟨ca, cc, rfl⟩ := hm.m.v.c.shape
 obtain ⟨ta, tc, rfl⟩ := hm.m.v.t.slice
 obtain ⟨ga, gc, rfl⟩ := hm.m.v.g.slice
 have hkb : Below w.heap.size w ((w.alloc (.cells (scS s ca cc ta tc ga gc) 32)).alloc (.cells zA 32)) := (((Below.refl _ _).alloc (by simp) _).alloc (by simp) _)
 have hx0 : ((w.alloc (.cells (scS s ca cc ta tc ga gc) 32)).alloc (.cells zA 32)).heap[w.heap.size]? = _ := (Below.heap_alloc _ _ _ (by simp)).trans (heap_alloc_new w (.cells (scS s ca cc ta tc ga gc) 32))
 have hx1 : ((w.alloc (.cells (scS s ca cc ta tc ga gc) 32)).alloc (.cells zA 32)).heap[w.heap.size + 1]? = _ := heap_alloc2_new w (.cells (scS s ca cc ta tc ga gc) 32) (.cells zA 32)
 have HX0 : Hid _ := hx0
 have HXR : Hid _ := hx1
 have HKB : Hid _ := hkb
 have hsz := hkb.size
 have hM0 := hm.m.b.size
 have hX := hw.trans (hkb.mono hw.size)
 have d1 := Qa hX h1
 have d2 := Qa hX h2
 have d3 := Qa hX h3
 have HC := (qv4 b (on != tu) h0 h63).runs w0 _ s _ _ _ n hh (hm.next hkb) hR
 clear hkb hw hm hx0 hx1 hX hR h0 h63
 generalize (qen b (on != tu)) n hh s = s' at *
 go_enter Tryz.func145, Tryz.ntmps145
 go_upto_region 1 with fail
 generalize ((w.alloc (.cells (scS s ca cc ta tc ga gc) 32)).alloc (.cells zA 32)) = V0 at *
 go_wp2_with (refine wpList_load_row rfl 32 (.tmp 4) rfl w.heap.size rfl _ _ _ _ HX0.out Tryz.underlying32 rfl (by kernel_rfl) ?_)
 refine HC.mono ?_
 rintro e V ⟨cv', tv', gv', rfl, hO, c2⟩
 obtain ⟨a1, n1, c1, a2, n2, c2', a3, n3, c3, rfl, rfl, rfl⟩ := hO.shapes
 have HO : Hid (Qo V 0 _ s' _ _ _) := hO
 have HR : Hid (V.heap[w.heap.size + 1]? = _) := Grd.carry HXR.out c2
 have HB : Hid (Below w.heap.size w V) := HKB.out.trans (c2.mono HKB.out.size)
 clear hO c2 HC
 go_wp2_with (refine wpList_store_row rfl 32 (.tmp 5) (.tmp 13) rfl (w.heap.size + 1) (scT s' a1 n1 c1 a2 n2 c2' a3 n3 c3) rfl rfl _ _ HR.out (by kernel_rfl) rfl (Qn _ _ _ _ _ _ _ _ _ _) ?_)
 (try simp only [Exit.inBlock, Exit.then])
 refine bodyPost_ret (v := .tuple #[.agg (scT s' a1 n1 c1 a2 n2 c2' a3 n3 c3), .int .i64 0]) ?_ rfl ⟨_, _, _, rfl, ?_, below_setRow HB.out (by omega) _⟩
 ·exact Grd.Qd rfl _ _ (w.heap.size + 1) _ _ _ _ rfl (setRow_heap _ _ _ _ _ _ HR.out) Tryz.underlying32 rfl (by kernel_rfl) _ rfl
 ·exact (Qo.off HO.out HR.out Ql (by omega) fun k hk => setRow_other _ _ _ _ hk).mono hsz
theorem qhb : Plain 216 := fun _ _ => by kernel_rfl
set_option maxHeartbeats 4000000 in
theorem qhs (pl : Option Addr) (nl cl : Nat) (xs : List Int) (W : World) (B : Nat) (h1 : W.cell? ⟨B, 0, none⟩ = some (.slice pl nl cl)) (hI : Nums W (.slice pl nl cl) xs) : Jp W 216 #[.pointer (some ⟨B, 0, none⟩)] (qah xs) := by
 refine ⟨qhb, fun _ _ _ h => qbt h xs, fun w0 w s cv tv gv n hh hw hm hR => ?_⟩
 obtain ⟨ca, cc, rfl⟩ := hm.m.v.c.shape
 obtain ⟨ta, tc, rfl⟩ := hm.m.v.t.slice
 obtain ⟨ga, gc, rfl⟩ := hm.m.v.g.slice
 have hkb : Below w.heap.size w ((w.alloc (.cells (scS s ca cc ta tc ga gc) 32)).alloc (.cells zA 32)) := (((Below.refl _ _).alloc (by simp) _).alloc (by simp) _)
 have hx0 : ((w.alloc (.cells (scS s ca cc ta tc ga gc) 32)).alloc (.cells zA 32)).heap[w.heap.size]? = _ := (Below.heap_alloc _ _ _ (by simp)).trans (heap_alloc_new w (.cells (scS s ca cc ta tc ga gc) 32))
 have hx1 : ((w.alloc (.cells (scS s ca cc ta tc ga gc) 32)).alloc (.cells zA 32)).heap[w.heap.size + 1]? = _ := heap_alloc2_new w (.cells (scS s ca cc ta tc ga gc) 32) (.cells zA 32)
 have HX0 : Hid _ := hx0
 have HXR : Hid _ := hx1
 have HKB : Hid _ := hkb
 have hsz := hkb.size
 have hM0 := hm.m.b.size
 have hX := hw.trans (hkb.mono hw.size)
 have d1 := Qa hX h1
 have HC := qu1 (hm.next hkb).m hR pl nl cl xs (hm.next hkb).l (hI.next hX)
 replace HC : Calls Tryz.prog 217 _ _ (Made w0 _ (qah xs n hh s) 0) := HC
 clear hkb hw hm hx0 hx1 hX hR hI
 generalize (qah xs) n hh s = s' at *
 go_enter Tryz.func216, Tryz.ntmps216
 go_upto_region 1 with fail
 generalize ((w.alloc (.cells (scS s ca cc ta tc ga gc) 32)).alloc (.cells zA 32)) = V0 at *
 go_wp2_with (refine wpList_load_row rfl 32 (.tmp 2) rfl w.heap.size rfl _ _ _ _ HX0.out Tryz.underlying32 rfl (by kernel_rfl) ?_)
 refine HC.mono ?_
 rintro e V ⟨cv', tv', gv', rfl, hO, c2⟩
 obtain ⟨a1, n1, c1, a2, n2, c2', a3, n3, c3, rfl, rfl, rfl⟩ := hO.shapes
 have HO : Hid (Qo V 0 _ s' _ _ _) := hO
 have HR : Hid (V.heap[w.heap.size + 1]? = _) := Grd.carry HXR.out c2
 have HB : Hid (Below w.heap.size w V) := HKB.out.trans (c2.mono HKB.out.size)
 clear hO c2 HC
 go_wp2_with (refine wpList_store_row rfl 32 (.tmp 3) (.tmp 8) rfl (w.heap.size + 1) (scT s' a1 n1 c1 a2 n2 c2' a3 n3 c3) rfl rfl _ _ HR.out (by kernel_rfl) rfl (Qn _ _ _ _ _ _ _ _ _ _) ?_)
 (try simp only [Exit.inBlock, Exit.then])
 refine bodyPost_ret (v := .tuple #[.agg (scT s' a1 n1 c1 a2 n2 c2' a3 n3 c3), .int .i64 0]) ?_ rfl ⟨_, _, _, rfl, ?_, below_setRow HB.out (by omega) _⟩
 ·exact Grd.Qd rfl _ _ (w.heap.size + 1) _ _ _ _ rfl (setRow_heap _ _ _ _ _ _ HR.out) Tryz.underlying32 rfl (by kernel_rfl) _ rfl
 ·exact (Qo.off HO.out HR.out Ql (by omega) fun k hk => setRow_other _ _ _ _ hk).mono hsz
section
attribute [local go_sem ↓] Jc Jj
attribute [local go_sem] Gj Xw X0
set_option maxHeartbeats 4000000 in
theorem qna (s s' : Scr) (cv tv gv : Value) (w0 w : World) (hT : Txt.Tab w) (hV : Zh w0 s cv tv gv) (hb0 : Below w0.heap.size w0 w) (hF : Fits s)
  (hCH : ∀ W, Below w.heap.size w W → Calls Tryz.prog 36 #[.agg (scrA s cv tv gv), .int .i64 (Qk s), .func (.func 55) #[] #[]] W (Made w0 W s' (Qk s))) :
  Calls Tryz.prog 32 #[.agg (scrA s cv tv gv)] w (Made w0 w s' (Qk s)) := by
 obtain ⟨ca, cc, rfl⟩ := hV.c.shape
 obtain ⟨ta, tc, rfl⟩ := hV.t.slice
 obtain ⟨ga, gc, rfl⟩ := hV.g.slice
 have hx0 : ((w.alloc (.cells (scS s ca cc ta tc ga gc) 32)).alloc (.cells zA 32)).heap[w.heap.size]? = some (.cells (scS s ca cc ta tc ga gc) 32 (0, 0)) := (Below.heap_alloc _ _ _ (by simp)).trans (heap_alloc_new _ _)
 have hx1 : ((w.alloc (.cells (scS s ca cc ta tc ga gc) 32)).alloc (.cells zA 32)).heap[w.heap.size + 1]? = some (.cells zA 32 (0, 0)) := heap_alloc2_new w _ _
 have hkb : Below w.heap.size w ((w.alloc (.cells (scS s ca cc ta tc ga gc) 32)).alloc (.cells zA 32)) := ((Below.refl _ _).alloc (Nat.le_refl _) _).alloc (by simp) _
 have hsz : ((w.alloc (.cells (scS s ca cc ta tc ga gc) 32)).alloc (.cells zA 32)).heap.size = w.heap.size + 2 := by simp
 have HX0 : Hid _ := hx0
 have HX1 : Hid _ := hx1
 have HKB : Hid _ := hkb
 have HSZ : Hid _ := hsz
 have HCK : Hid (∀ W, Below w.heap.size w W → Calls Tryz.prog 7 #[.agg (scS s ca cc ta tc ga gc)] W fun e w' => e = .returned (.int .i64 (Qk s)) ∧ Below W.heap.size W w') := fun W hW => Zq s _ _ _ W (Grd.Tab.next hT hW) (hV.next (hb0.trans (hW.mono hb0.size))) hF
 have HCH : Hid (∀ W, Below w.heap.size w W → Calls Tryz.prog 36 #[.agg (scS s ca cc ta tc ga gc), .int .i64 (Qk s), .func (.func 55) #[] #[]] W (Made w0 W s' (Qk s))) := hCH
 have hM := hb0.size
 clear hx0 hx1 hkb hV hF hT hCH hb0 hsz
 generalize Qk s = er at *
 go_enter Tryz.func32, Tryz.ntmps32
 go_upto_region 1 with fail
 generalize ((w.alloc (.cells (scS s ca cc ta tc ga gc) 32)).alloc (.cells zA 32)) = X at *
 have SK : Hid (∀ w', Below X.heap.size X w' → Below w.heap.size w w' ∧ Zg w' (.pointer (some ⟨w.heap.size, 0, none⟩)) ∧ Z5 w' (.pointer (some ⟨w.heap.size, 0, none⟩)) = (scS s ca cc ta tc ga gc) ∧ Zc w' (.pointer (some ⟨w.heap.size + 1, 0, none⟩))) := fun w' hb => by
  have h0 := Grd.carry HX0.out hb
  exact ⟨HKB.out.trans (hb.mono HKB.out.size), (Qu h0).1, (Qu h0).2, Za (Grd.carry HX1.out hb) rfl⟩
 have b0 : Below X.heap.size X X.drew := (Below.refl _ _).drew
 go_region_held3 (fun w' => Below w.heap.size w w' ∧ Zg w' (.pointer (some ⟨w.heap.size, 0, none⟩)) ∧ Z5 w' (.pointer (some ⟨w.heap.size, 0, none⟩)) = (scS s ca cc ta tc ga gc) ∧ Zc w' (.pointer (some ⟨w.heap.size + 1, 0, none⟩)))
  (first | exact KF.out | exact SK.out _ b2 | exact SK.out _ b1 | exact SK.out _ b0)
  (first | (go_at_call 7; refine (HCK.out _ (SK.out _ b0).1).mono ?_; rintro e V1 ⟨rfl, c1⟩; have b1 := b0.trans (c1.mono b0.size); clear c1) | (go_at_call 36; refine (HCH.out _ (SK.out _ b1).1).mono ?_; rintro e V2 ⟨cv', tv', gv', rfl, hO, c2⟩; have b2 := b1.trans (c2.mono b1.size); obtain ⟨a1, n1, c1, a2, n2, c2', a3, n3, c3, rfl, rfl, rfl⟩ := hO.shapes; have HO : Hid (Qo V2 0 _ s' _ _ _) := hO; clear c2 hO; have HR : Hid (V2.heap[w.heap.size + 1]? = _) := Grd.carry HX1.out b2; have KF : Hid (Below w.heap.size w (V2.setRow (w.heap.size + 1) (scT s' a1 n1 c1 a2 n2 c2' a3 n3 c3)) ∧ Zg (V2.setRow (w.heap.size + 1) (scT s' a1 n1 c1 a2 n2 c2' a3 n3 c3)) (.pointer (some ⟨w.heap.size, 0, none⟩)) ∧ Z5 (V2.setRow (w.heap.size + 1) (scT s' a1 n1 c1 a2 n2 c2' a3 n3 c3)) (.pointer (some ⟨w.heap.size, 0, none⟩)) = (scS s ca cc ta tc ga gc) ∧ Zc (V2.setRow (w.heap.size + 1) (scT s' a1 n1 c1 a2 n2 c2' a3 n3 c3)) (.pointer (some ⟨w.heap.size + 1, 0, none⟩))) := qsa (SK.out _ b2).1 (Grd.carry HX0.out b2) HR.out))
 go_wp2_with fail
 (try simp only [Exit.inBlock, Exit.then])
 refine bodyPost_ret (v := .tuple #[.agg (scT s' a1 n1 c1 a2 n2 c2' a3 n3 c3), .int .i64 er]) ?_ rfl ⟨_, _, _, rfl, ?_, KF.out.1⟩
 ·exact Grd.Qd rfl _ _ (w.heap.size + 1) _ _ _ _ rfl (setRow_heap _ _ _ _ _ _ HR.out) Tryz.underlying32 rfl (by kernel_rfl) _ rfl
 ·exact (Qo.off HO.out HR.out Ql (by omega) fun k hk => setRow_other _ _ _ _ hk).mono (SK.out _ b1).1.size
set_option maxHeartbeats 4000000 in
theorem qh0 (s s' : Scr) (cv tv gv : Value) (B : Nat) (w0 w : World) (hT : Txt.Tab w) (hV : Zh w0 s cv tv gv) (hb0 : Below w0.heap.size w0 w) (hF : Fits s)
  (hCH : ∀ W, Below w.heap.size w W → Calls Tryz.prog 36 #[.agg (scrA s cv tv gv), .int .i64 (Qk s), .func (.func 57) #[] #[.pointer (some ⟨B, 0, none⟩)]] W (Made w0 W s' (Qk s))) :
  Calls Tryz.prog 56 #[.agg (scrA s cv tv gv), .pointer (some ⟨B, 0, none⟩)] w (Made w0 w s' (Qk s)) := by
 obtain ⟨ca, cc, rfl⟩ := hV.c.shape
 obtain ⟨ta, tc, rfl⟩ := hV.t.slice
 obtain ⟨ga, gc, rfl⟩ := hV.g.slice
 have hx0 : ((w.alloc (.cells (scS s ca cc ta tc ga gc) 32)).alloc (.cells zA 32)).heap[w.heap.size]? = some (.cells (scS s ca cc ta tc ga gc) 32 (0, 0)) := (Below.heap_alloc _ _ _ (by simp)).trans (heap_alloc_new _ _)
 have hx1 : ((w.alloc (.cells (scS s ca cc ta tc ga gc) 32)).alloc (.cells zA 32)).heap[w.heap.size + 1]? = some (.cells zA 32 (0, 0)) := heap_alloc2_new w _ _
 have hkb : Below w.heap.size w ((w.alloc (.cells (scS s ca cc ta tc ga gc) 32)).alloc (.cells zA 32)) := ((Below.refl _ _).alloc (Nat.le_refl _) _).alloc (by simp) _
 have hsz : ((w.alloc (.cells (scS s ca cc ta tc ga gc) 32)).alloc (.cells zA 32)).heap.size = w.heap.size + 2 := by simp
 have HX0 : Hid _ := hx0
 have HX1 : Hid _ := hx1
 have HKB : Hid _ := hkb
 have HSZ : Hid _ := hsz
 have HCK : Hid (∀ W, Below w.heap.size w W → Calls Tryz.prog 7 #[.agg (scS s ca cc ta tc ga gc)] W fun e w' => e = .returned (.int .i64 (Qk s)) ∧ Below W.heap.size W w') := fun W hW => Zq s _ _ _ W (Grd.Tab.next hT hW) (hV.next (hb0.trans (hW.mono hb0.size))) hF
 have HCH : Hid (∀ W, Below w.heap.size w W → Calls Tryz.prog 36 #[.agg (scS s ca cc ta tc ga gc), .int .i64 (Qk s), .func (.func 57) #[] #[.pointer (some ⟨B, 0, none⟩)]] W (Made w0 W s' (Qk s))) := hCH
 have hM := hb0.size
 clear hx0 hx1 hkb hV hF hT hCH hb0 hsz
 generalize Qk s = er at *
 go_enter Tryz.func56, Tryz.ntmps56
 go_upto_region 1 with fail
 generalize ((w.alloc (.cells (scS s ca cc ta tc ga gc) 32)).alloc (.cells zA 32)) = X at *
 have SK : Hid (∀ w', Below X.heap.size X w' → Below w.heap.size w w' ∧ Zg w' (.pointer (some ⟨w.heap.size, 0, none⟩)) ∧ Z5 w' (.pointer (some ⟨w.heap.size, 0, none⟩)) = (scS s ca cc ta tc ga gc) ∧ Zc w' (.pointer (some ⟨w.heap.size + 1, 0, none⟩))) := fun w' hb => by
  have h0 := Grd.carry HX0.out hb
  exact ⟨HKB.out.trans (hb.mono HKB.out.size), (Qu h0).1, (Qu h0).2, Za (Grd.carry HX1.out hb) rfl⟩
 have b0 : Below X.heap.size X X.drew := (Below.refl _ _).drew
 go_region_held3 (fun w' => Below w.heap.size w w' ∧ Zg w' (.pointer (some ⟨w.heap.size, 0, none⟩)) ∧ Z5 w' (.pointer (some ⟨w.heap.size, 0, none⟩)) = (scS s ca cc ta tc ga gc) ∧ Zc w' (.pointer (some ⟨w.heap.size + 1, 0, none⟩)))
  (first | exact KF.out | exact SK.out _ b2 | exact SK.out _ b1 | exact SK.out _ b0)
  (first | (go_at_call 7; refine (HCK.out _ (SK.out _ b0).1).mono ?_; rintro e V1 ⟨rfl, c1⟩; have b1 := b0.trans (c1.mono b0.size); clear c1) | (go_at_call 36; refine (HCH.out _ (SK.out _ b1).1).mono ?_; rintro e V2 ⟨cv', tv', gv', rfl, hO, c2⟩; have b2 := b1.trans (c2.mono b1.size); obtain ⟨a1, n1, c1, a2, n2, c2', a3, n3, c3, rfl, rfl, rfl⟩ := hO.shapes; have HO : Hid (Qo V2 0 _ s' _ _ _) := hO; clear c2 hO; have HR : Hid (V2.heap[w.heap.size + 1]? = _) := Grd.carry HX1.out b2; have KF : Hid (Below w.heap.size w (V2.setRow (w.heap.size + 1) (scT s' a1 n1 c1 a2 n2 c2' a3 n3 c3)) ∧ Zg (V2.setRow (w.heap.size + 1) (scT s' a1 n1 c1 a2 n2 c2' a3 n3 c3)) (.pointer (some ⟨w.heap.size, 0, none⟩)) ∧ Z5 (V2.setRow (w.heap.size + 1) (scT s' a1 n1 c1 a2 n2 c2' a3 n3 c3)) (.pointer (some ⟨w.heap.size, 0, none⟩)) = (scS s ca cc ta tc ga gc) ∧ Zc (V2.setRow (w.heap.size + 1) (scT s' a1 n1 c1 a2 n2 c2' a3 n3 c3)) (.pointer (some ⟨w.heap.size + 1, 0, none⟩))) := qsa (SK.out _ b2).1 (Grd.carry HX0.out b2) HR.out))
 all_goals go_wp2_with fail
 all_goals (try simp only [Exit.inBlock, Exit.then])
 all_goals refine bodyPost_ret (v := .tuple #[.agg (scT s' a1 n1 c1 a2 n2 c2' a3 n3 c3), .int .i64 er]) ?_ rfl ⟨_, _, _, rfl, ?_, KF.out.1⟩
 all_goals first | exact Grd.Qd rfl _ _ (w.heap.size + 1) _ _ _ _ rfl (setRow_heap _ _ _ _ _ _ HR.out) Tryz.underlying32 rfl (by kernel_rfl) _ rfl | exact (Qo.off HO.out HR.out Ql (by omega) fun k hk => setRow_other _ _ _ _ hk).mono (SK.out _ b1).1.size
end
end Put
end Go.Proofs.YtcnblcmpgmgbbaaGreatDoor
