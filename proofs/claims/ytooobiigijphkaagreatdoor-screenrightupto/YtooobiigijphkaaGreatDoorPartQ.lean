/- Parts of the proof, shortened by a program. -/
import Derived.Test.YtooobiigijphkaaGreatDoorPartG
import Derived.Test.YtooobiigijphkaaGreatDoorPartF
import Derived.Test.YtooobiigijphkaaGreatDoorPartP
import Derived.Test.YtooobiigijphkaaGreatDoorPartJ
import Derived.Test.YtooobiigijphkaaGreatDoorPartO
import Derived.Deep.MidRow
import Derived.Test.YtooobiigijphkaaGreatDoorPartN
import Derived.Test.YtooobiigijphkaaGreatDoorPartI
import Derived.Test.YtooobiigijphkaaGreatDoorPartM
import Derived.Lib.ValidLaws
import Derived.Lib.MapLaws
import Derived.Lib.TrimUEq
import Derived.Deep.RegionWith
import Derived.Test.YtooobiigijphkaaGreatDoorPartH
set_option maxHeartbeats 4000000
open Nat renaming le_refl → qd
open List renaming replicate → qe, getD → qy
open Go renaming heap_alloc_new → qf, setRow_other → qg, wpList_store_row → qh, below_setRow → qi, setRow_heap → qj, bodyPost_ret → qk, wpList_load_row → ql
open Go.RowKit.Below renaming refl → qr, heap_alloc → qs
open Go.Proofs.Tryz renaming prog → qP, underlying32 → qu
open Go.Exit renaming inBlock → qv, «then» → qw
namespace Go.Proofs.YtooobiigijphkaaGreatDoor
set_option linter.unusedVariables false
set_option linter.unusedSimpArgs false
set_option maxRecDepth 100000
open Go.ChangeShapes Go.WideShapes Go.ChangeAt Go.RowKit
namespace Put
open Grd (C SliceAt Qb Qf z0 Q0 flat Qe)
theorem qdr {W : World} {R : Nat} {v : Value} {t : TypeId} (h : W.heap[R]? = some (.cells #[v] t (0,0))) : W.cell? ⟨R,0,none⟩ = some v := by simp [World.cell?,h]
theorem qxq {w V : World} {s : Scr} {cv tv gv : Value} {A : Array Value} {t t' : TypeId} (hb : Below w.heap.size w V) (h0 : V.heap[w.heap.size]? = some (.cells (scrA s cv tv gv) t (0, 0))) (h1 : V.heap[w.heap.size + 2]? = some (.cells A t' (0, 0))) {s' : Scr} {cv' tv' gv' : Value} :
  Below w.heap.size w (V.setRow (w.heap.size + 2) (scrA s' cv' tv' gv')) ∧ Zj (V.setRow (w.heap.size + 2) (scrA s' cv' tv' gv')) (.pointer (some ⟨w.heap.size,0,none⟩)) ∧ Z7 (V.setRow (w.heap.size + 2) (scrA s' cv' tv' gv')) (.pointer (some ⟨w.heap.size,0,none⟩)) = scrA s cv tv gv ∧ Zc (V.setRow (w.heap.size + 2) (scrA s' cv' tv' gv')) (.pointer (some ⟨w.heap.size + 2,0,none⟩)) := by
 have h2 : (V.setRow (w.heap.size + 2) (scrA s' cv' tv' gv')).heap[w.heap.size]? = _ := (qg _ _ _ _ (by omega)).trans h0
 have h3 := qj V (w.heap.size + 2) A (scrA s' cv' tv' gv') t' _ h1;exact ⟨qi hb (by omega) _,(Qs h2).1,(Qs h2).2,Zb h3 rfl⟩
section
attribute [local go_sem ↓] Xp Jg
attribute [local go_sem] G7 Xx Xy
theorem qnz (s s' : Scr) (cv tv gv : Value) (t : ByteArray) (hlen : t.size ≤ 4000) (w0 w : World) (hT : Txt.Tab w) (hV : Zh w0 s cv tv gv) (hb0 : Below w0.heap.size w0 w) (hF : Fits s)
  (hCH : ∀ W B,Below w.heap.size w W → W.cell? ⟨B,0,none⟩ = some (.string t) → Calls qP 35 #[.agg (scrA s cv tv gv),.int .i64 (Qj s),.func (.func 36) #[] #[.pointer (some ⟨B,0,none⟩)]] W (Made w0 W s' (Qj s))) :
  Calls qP 13 #[.agg (scrA s cv tv gv),.string t] w (Made w0 w s' (Qj s)) := by
 obtain ⟨ca,cc,rfl⟩ := hV.c.shape;obtain ⟨ta,tc,rfl⟩ := hV.t.slice;obtain ⟨ga,gc,rfl⟩ := hV.g.slice;have hx0 : (((w.alloc (.cells (scS s ca cc ta tc ga gc) 32)).alloc (.cells #[.string t] 9)).alloc (.cells zA 32)).heap[w.heap.size]? = some (.cells (scS s ca cc ta tc ga gc) 32 (0,0)) := (qs _ _ _ (by simp;omega)).trans ((qs _ _ _ (by simp)).trans (qf _ _))
 have hxt : (((w.alloc (.cells (scS s ca cc ta tc ga gc) 32)).alloc (.cells #[.string t] 9)).alloc (.cells zA 32)).heap[w.heap.size + 1]? = some (.cells #[.string t] 9 (0,0)) := (qs _ _ _ (by simp)).trans (heap_alloc2_new w _ _)
 have hx1 : (((w.alloc (.cells (scS s ca cc ta tc ga gc) 32)).alloc (.cells #[.string t] 9)).alloc (.cells zA 32)).heap[w.heap.size + 2]? = some (.cells zA 32 (0,0)) := by
  have h := qf ((w.alloc (.cells (scS s ca cc ta tc ga gc) 32)).alloc (.cells #[.string t] 9)) (.cells zA 32);have e : ((w.alloc (.cells (scS s ca cc ta tc ga gc) 32)).alloc (.cells #[.string t] 9)).heap.size = w.heap.size + 2 := by simp
  rw [e] at h;exact h
 have hkb : Below w.heap.size w (((w.alloc (.cells (scS s ca cc ta tc ga gc) 32)).alloc (.cells #[.string t] 9)).alloc (.cells zA 32)) := (((qr _ _).alloc (qd _) _).alloc (by simp) _).alloc (by simp;omega) _
 have HX0 : Hid _ := hx0;have HX1 : Hid _ := hx1;have HKB : Hid _ := hkb;have HXT : Hid _ := hxt;have HCK : Hid (∀ W,Below w.heap.size w W → Calls qP 6 #[.agg (scS s ca cc ta tc ga gc)] W fun e w' => e = .returned (.int .i64 (Qj s)) ∧ Below W.heap.size W w') := fun W hW => Zt s _ _ _ W (Grd.Tab.next hT hW) (hV.next (hb0.trans (hW.mono hb0.size))) hF
 have HCH : Hid (∀ W,Below w.heap.size w W → W.cell? ⟨w.heap.size + 1,0,none⟩ = some (.string t) → Calls qP 35 #[.agg (scS s ca cc ta tc ga gc),.int .i64 (Qj s),.func (.func 36) #[] #[.pointer (some ⟨w.heap.size + 1,0,none⟩)]] W (Made w0 W s' (Qj s))) := fun W => hCH W _
 have hM := hb0.size;have ct := qdr hxt;have hl1 : ¬ (4000 : Int) < (t.size : Int) := by omega
 clear hx0 hx1 hkb hV hF hT hCH hb0 hxt;generalize Qj s = er at *;go_enter Tryz.func13,Tryz.ntmps13;go_upto_region 3 with fail
 generalize (((w.alloc (.cells (scS s ca cc ta tc ga gc) 32)).alloc (.cells #[.string t] 9)).alloc (.cells zA 32)) = X at *;have SK : Hid (∀ w',Below X.heap.size X w' → Below w.heap.size w w' ∧ Zj w' (.pointer (some ⟨w.heap.size,0,none⟩)) ∧ Z7 w' (.pointer (some ⟨w.heap.size,0,none⟩)) = (scS s ca cc ta tc ga gc) ∧ Zc w' (.pointer (some ⟨w.heap.size + 2,0,none⟩))) := fun w' hb => by
  have h0 := Grd.carry HX0.out hb;exact ⟨HKB.out.trans (hb.mono HKB.out.size),(Qs h0).1,(Qs h0).2,Zb (Grd.carry HX1.out hb) rfl⟩
 have b0 : Below X.heap.size X X.drew := (qr _ _).drew
 go_region_held3 (fun w' => Below w.heap.size w w' ∧ Zj w' (.pointer (some ⟨w.heap.size, 0, none⟩)) ∧ Z7 w' (.pointer (some ⟨w.heap.size, 0, none⟩)) = (scS s ca cc ta tc ga gc) ∧ Zc w' (.pointer (some ⟨w.heap.size + 2, 0, none⟩)))
  (first | exact KF.out | exact SK.out _ b2 | exact SK.out _ b1 | exact SK.out _ b0)
  (first | (go_at_call 6;refine (HCK.out _ (SK.out _ b0).1).mono ?_;rintro e V1 ⟨rfl,c1⟩;have b1 := b0.trans (c1.mono b0.size);clear c1) | (go_at_call 35;refine (HCH.out _ (SK.out _ b1).1 (qdr (Grd.carry HXT.out b1))).mono ?_;rintro e V2 ⟨cv',tv',gv',rfl,hO,c2⟩;have b2 := b1.trans (c2.mono b1.size);obtain ⟨a1,n1,c1,a2,n2,c2',a3,n3,c3,rfl,rfl,rfl⟩ := hO.shapes;have HO : Hid (Qo V2 0 _ s' _ _ _) := hO;clear c2 hO;have HR : Hid (V2.heap[w.heap.size + 2]? = _) := Grd.carry HX1.out b2;have KF : Hid (Below w.heap.size w (V2.setRow (w.heap.size + 2) (scT s' a1 n1 c1 a2 n2 c2' a3 n3 c3)) ∧ Zj (V2.setRow (w.heap.size + 2) (scT s' a1 n1 c1 a2 n2 c2' a3 n3 c3)) (.pointer (some ⟨w.heap.size,0,none⟩)) ∧ Z7 (V2.setRow (w.heap.size + 2) (scT s' a1 n1 c1 a2 n2 c2' a3 n3 c3)) (.pointer (some ⟨w.heap.size,0,none⟩)) = (scS s ca cc ta tc ga gc) ∧ Zc (V2.setRow (w.heap.size + 2) (scT s' a1 n1 c1 a2 n2 c2' a3 n3 c3)) (.pointer (some ⟨w.heap.size + 2,0,none⟩))) := qxq (SK.out _ b2).1 (Grd.carry HX0.out b2) HR.out))
 all_goals go_wp2_with fail
 all_goals (try simp only [qv,qw])
 all_goals refine qk (v := .tuple #[.agg (scT s' a1 n1 c1 a2 n2 c2' a3 n3 c3),.int .i64 er]) ?_ rfl ⟨_,_,_,rfl,(Qo.off HO.out HR.out Ql (by omega) fun k hk => qg _ _ _ _ hk).mono (SK.out _ b1).1.size,KF.out.1⟩
 all_goals exact Grd.Qd rfl _ _ (w.heap.size + 2) _ _ _ _ rfl (qj _ _ _ _ _ _ HR.out) qu rfl (by kernel_rfl) _ rfl
end
end Put
namespace Put
open Grd (C SliceAt Qb Qf z0 Q0 flat Qe Q8 Zu)
open Sty (Q5)
open Txt (wd)
structure PJ (n hh : Nat) (s : Scr) (rows : List (List C)) : Prop where
 r : Qg { s with cs := rows.flatten } n hh
 rl : rows.length = hh
 rr : Jd n rows
theorem PJ.start {s : Scr} {n hh : Nat} (h : Qg s n hh) : PJ n hh s (Qe n s.cs hh) := by
 refine ⟨?_,Grd.Qt _ _ _,Gl h⟩;rw [h.flatten];exact h
theorem PJ.pi {n hh : Nat} {s : Scr} {rows : List (List C)} (h : PJ n hh s rows) : PI n hh s rows := by
 have hk := h.r.looks;simp only [Za,Bool.and_eq_true] at hk;exact ⟨h.r.w,h.r.h,h.r.n1,h.r.n2,h.r.h1,h.r.h2,h.r.x0,h.r.x1,h.r.y0,h.r.y1,h.r.t0,h.r.t1,h.r.t2,hk.1,h.rl,h.rr,h.r.gl⟩
theorem Qg.at {s : Scr} {n hh : Nat} (h : Qg s n hh) (x y : Int) (late : Bool) (last : Int) (x0 : 0 ≤ x) (x1 : x < n) (y0 : 0 ≤ y) (y1 : y < hh) (hl : Z6 { s with x := x, y := y, late := late, last := last } = false) (ha : last = 0 ∨ wd last ≠ 0) : Qg { s with x := x, y := y, late := late, last := last } n hh :=
 ⟨h.w,h.h,h.n1,h.n2,h.h1,h.h2,h.cl,h.gz,x0,x1,y0,y1,h.kx0,h.kx1,h.ky0,h.ky1,h.t0,h.t1,h.t2,h.t3,hl,h.looks,h.tl,ha,h.ti,h.gl,h.gr⟩
theorem PJ.rows {n hh : Nat} {s : Scr} {rows rows' : List (List C)} (h : PJ n hh s rows) (hl : rows'.length = hh) (hr : Jd n rows') (g : List (List C)) (hg : g.length ≤ 50) (hg2 : ∀ row, row ∈ g → Qf row.length 1 row = 0) : PJ n hh { s with gone := g } rows' :=
 ⟨(Ux h.r g rows' hl hr hg hg2).1,hl,hr⟩
theorem PJ.at {n hh : Nat} {s : Scr} {rows : List (List C)} (h : PJ n hh s rows) (x y : Int) (late : Bool) (last : Int) (x0 : 0 ≤ x) (x1 : x < n) (y0 : 0 ≤ y) (y1 : y < hh) (hl : Z6 { s with x := x, y := y, late := late, last := last } = false) (ha : last = 0 ∨ wd last ≠ 0) : PJ n hh { s with x := x, y := y, late := late, last := last } rows :=
 ⟨h.r.at x y late last x0 x1 y0 y1 hl ha,h.rl,h.rr⟩
theorem qfb (s : Scr) (h : s.late = false) : Z6 s = false := by
 unfold Z6;rw [h]
 rfl
theorem PJ.fed {n hh : Nat} {s : Scr} {rows : List (List C)} (h : PJ n hh s rows) : PJ n hh (fedP n s rows).1 (fedP n s rows).2 := by
 have hp := h.pi.fed;have hi := h.pi;have n1 := hi.n1;have y0 := hi.y0;have y1 := hi.y1;have t0 := hi.t0;have t1 := hi.t1;have t2 := hi.t2;have rl := hi.rl;have eh := hi.h;have hla := h.r.la;unfold fedP at hp ⊢
 by_cases hq : s.y = s.bot
 ·rw [if_pos hq] at hp ⊢
  have hgr : ∀ row,row ∈ (upS { s with x := 0,late := false } rows s.top.toNat).gone → Qf row.length 1 row = 0 := fun row hrow => by
   unfold upS at hrow;split at hrow
   ·rcases qbg hrow with q | q
    ·exact h.r.gr row q
    ·have h0 := h.rr 0 (by omega)
     rw [q,h0.1];exact qg1 n _ hi.n1 hi.n2 h0.1 h0.2
   ·exact h.r.gr row hrow
  have hu := qhb { s with x := 0,late := false } rows s.top.toNat
  have k := h.rows hp.rl hp.rr _ hp.gl hgr;have k2 := k.at 0 s.y false s.last (by omega) (by omega) y0 y1 (qfb _ rfl) hla
  dsimp only at k2 ⊢
  rw [hu];exact k2
 ·rw [if_neg hq]
  unfold Uc
  dsimp only
  split
  ·exact h.at 0 (s.y + 1) false s.last (by omega) (by omega) (by omega) (by omega) (qfb _ rfl) hla
  ·exact h.at 0 s.y false s.last (by omega) (by omega) y0 y1 (qfb _ rfl) hla
theorem PJ.turn {n hh : Nat} {s : Scr} {rows : List (List C)} (h : PJ n hh s rows) (r : Int) : PJ n hh (Xh n s rows r).1 (Xh n s rows r).2 := by
 unfold Xh;split
 ·exact h.fed
 ·exact h
theorem qts (n : Nat) (s : Scr) (rows : List (List C)) : (fedP n s rows).1.late = false := by
 unfold fedP;split
 ·dsimp only
  rw [qhb]
 ·unfold Uc
  dsimp only
  split <;> rfl
theorem qtu (n : Nat) (s : Scr) (rows : List (List C)) (r : Int) : (Xh n s rows r).1.late = false := by
 unfold Xh
 by_cases hb : Ki s (wd r) = true
 ·rw [if_pos hb]
  exact qts n s rows
 ·rw [if_neg hb]
  have h2 : Ki s (wd r) = false := by simpa using hb
  unfold Ki at h2;simp only [Bool.or_eq_false_iff] at h2;exact h2.1
theorem qxk {s1 : Scr} {x : Int} {r : Int} (e : x = s1.w - 1) : Z6 { s1 with x := x,late := hasB s1.modes 4,last := r } = false := by
 unfold Z6
 dsimp only
 cases hb : hasB s1.modes 4 with
 | false => rfl
 | true =>
  have h4 : bits .and .i64 s1.modes 4 = 4 := by simpa [hasB] using hb
  rw [h4];simp [e]
theorem PJ.print {n hh : Nat} {s : Scr} {rows : List (List C)} (h0 : PJ n hh s rows) (r : Int) : PJ n hh (U0 n s rows r).1 (U0 n s rows r).2 := by
 have hp := h0.pi.print r;unfold U0 at hp ⊢
 by_cases hsk : wd r = 0 ∨ s.w < wd r
 ·rw [if_pos hsk]
  exact h0
 ·rw [if_neg hsk] at hp ⊢
  have h := h0.turn r;have hlt := qtu n s rows r;generalize Xh n s rows r = t at *;obtain ⟨s1,rows1⟩ := t
  dsimp only at h hlt hp ⊢
  by_cases hft : Jj s1 (wd r) = false
  ·rw [if_pos hft]
   exact h
  ·rw [if_neg hft] at hp ⊢
   have hf : Jj s1 (wd r) = true := by simpa using hft
   have hf' : wd r ≤ s1.w - s1.x := by simpa [Jj] using hf
   have hw0 : wd r ≠ 0 := fun e => hsk (.inl e)
   have hk := Txt.Vo r;have n1 := h.pi.n1;have x0 := h.pi.x0;have ew := h.pi.w;have k := h.rows hp.rl hp.rr s1.gone h.r.gl h.r.gr
   dsimp only at k ⊢
   by_cases hq : s1.x + wd r = s1.w
   ·have ea : V9 s1 (wd r) = { s1 with x := s1.w - 1, late := hasB s1.modes 4 } := by unfold V9; rw [if_pos hq]
    rw [ea];exact k.at (s1.w - 1) s1.y (hasB s1.modes 4) r (by omega) (by omega) h.pi.y0 h.pi.y1 (qxk (s1 := s1) rfl) (.inr hw0)
   ·have ea : V9 s1 (wd r) = { s1 with x := s1.x + wd r } := by unfold V9; rw [if_neg hq]
    rw [ea];exact k.at (s1.x + wd r) s1.y s1.late r (by omega) (by omega) h.pi.y0 h.pi.y1 (qfb _ hlt) (.inr hw0)
end Put
namespace Put
open Grd (C SliceAt Qb Qf z0 Q0 flat Qe)
open Sty (Q5)
open Txt (wd)
def Xv (s : Scr) (k : Int) : Scr := if Ki s k then Uc { s with x := 0 } else s
def F3 (q : Scr × List (List C)) (r : Int) : Scr × List (List C) :=
 ({ V9 (Xv q.1 (wd r)) (wd r) with last := r },q.2.set (Xv q.1 (wd r)).y.toNat (Fz ((Xv q.1 (wd r)).sf,(Xv q.1 (wd r)).sb,(Xv q.1 (wd r)).sx) (q.2.getD (Xv q.1 (wd r)).y.toNat []) (Xv q.1 (wd r)).x.toNat r))
def qg8 (q : Scr × List (List C)) (r : Int) : Bool :=
 decide (wd r ≠ 0 ∧ wd r ≤ q.1.w ∧ 0 ≤ q.1.x ∧ q.1.x ≤ 120 ∧ 1 ≤ q.1.w ∧ q.1.w ≤ 120 ∧ 1 ≤ q.1.h ∧ q.1.h ≤ 60 ∧ 0 ≤ q.1.y ∧ q.1.y ≤ 60 ∧ (Ki q.1 (wd r) = true → q.1.y ≠ q.1.bot)) &&
 decide ((Xv q.1 (wd r)).w = q.1.w ∧ 0 ≤ (Xv q.1 (wd r)).x ∧ (Xv q.1 (wd r)).x < q.1.w ∧ 0 ≤ (Xv q.1 (wd r)).y ∧ (Xv q.1 (wd r)).y.toNat < q.2.length ∧ Jj (Xv q.1 (wd r)) (wd r) = true ∧ hasB (Xv q.1 (wd r)).modes 1 = false ∧
  ((q.2.getD (Xv q.1 (wd r)).y.toNat []).length : Int) = q.1.w ∧ Qf q.1.w 1 (q.2.getD (Xv q.1 (wd r)).y.toNat []) = 0 ∧ Q5 ((Xv q.1 (wd r)).sf,(Xv q.1 (wd r)).sb,(Xv q.1 (wd r)).sx) = true)
theorem qbz (W : World) (M N p : Nat) (q : Scr × List (List C)) (r : Int) (hT : Txt.Tab W) (hN : ∀ X, Below N W X → Txt.Tab X) (hS : ShAt 110 W M N p q.1 q.2) (hok : qg8 q r = true) :
  Calls qP 37 #[.pointer (some ⟨p,0,none⟩),.int .i32 r] W (Ran W M N p (F3 q r).1 (F3 q r).2) := by
 unfold qg8 at hok;rw [Bool.and_eq_true,decide_eq_true_eq,decide_eq_true_eq] at hok;obtain ⟨⟨a1,a2,a3,a4,a5,a6,a7,a8,a9,a10,a11⟩,b1,b2,b3,b4,b5,b6,b7,b8,b9,b10⟩ := hok;unfold F3;obtain ⟨s1,hs1⟩ : ∃ s1,s1 = Xv q.1 (wd r) := ⟨_,rfl⟩;rw [← hs1] at b1 b2 b3 b4 b5 b6 b7 b8 b9 b10 ⊢;refine qfp W M N p q.1 s1 q.2 q.2 q.2 _ r hT hS a1 a2 a3 a4 a5 a6 ⟨?_,?_,b1,b2,by omega⟩ b6 (fun h => by rw [b7] at h;cases h) (fun _ => rfl) ?_
 ·intro hb X _ hX
  have h := qb0 X M N p { q.1 with x := 0 } q.2 hX a9 a10 a7 a8 (a11 hb)
  rw [hs1];unfold Xv;rw [hb];exact h
 ·intro hb
  rw [hs1];unfold Xv;rw [hb];exact ⟨rfl,rfl⟩
 ·intro X hX hSX
  exact qjb X M N p s1 q.2 (hN X hX) hSX r q.1.w.toNat s1.x.toNat s1.y.toNat b5 _ rfl (by omega) (by omega) (by omega) (by omega) (by omega) (by rw [Int.toNat_of_nonneg (by omega)]; exact b9) b10 a1 (by
   have h : wd r ≤ s1.w - s1.x := by simpa [Jj] using b6
   omega)
end Put
namespace Put
open Grd (C SliceAt Qb Qf z0 Q0 flat Qe)
open Txt (wd)
def abc : ByteArray := ⟨#[97,98,99]⟩
def stq : Nat → Scr × List (List C)
 | 0 => (Qw 2 2,Qe 2 (Qw 2 2).cs 2)
 | 1 => F3 (Qw 2 2,Qe 2 (Qw 2 2).cs 2) 97
 | 2 => F3 (F3 (Qw 2 2,Qe 2 (Qw 2 2).cs 2) 97) 98
 | _ => F3 (F3 (F3 (Qw 2 2,Qe 2 (Qw 2 2).cs 2) 97) 98) 99
theorem qva : Txt.runes abc = [(97,1),(98,1),(99,1)] := by decide +kernel
theorem ok0 : qg8 (stq 0) 97 = true := by decide +kernel
theorem ok1 : qg8 (stq 1) 98 = true := by decide +kernel
theorem ok2 : qg8 (stq 2) 99 = true := by decide +kernel
theorem qy1 : Qj (Qw 2 2) = 0 := by decide +kernel
theorem qrf : Qf (2 : Nat) (2 : Nat) (Qw 2 2).cs = 0 := by decide +kernel
theorem qfo : Fits (Qw 2 2) := ⟨by decide,by decide,by decide,by decide,by decide,by decide,by decide +kernel⟩
theorem q2b : (stq 3).1.x = 1 := by decide +kernel
theorem q2f : (stq 3).1.y = 1 := by decide +kernel
theorem qwo : (stq 3).1.late = false := by decide +kernel
theorem qv6 : (stq 3).1.last = 99 := by decide +kernel
def qcy : List C := [(97,0,0,0),(98,0,0,0),(99,0,0,0),(32,0,0,0)]
theorem qx2 : (stq 3).2.flatten = qcy := by decide +kernel
theorem qy0 : V6 (stq 3).1 (stq 3).2 := by
 have hl : (stq 3).2.length = 2 := by decide +kernel
 have hg : (stq 3).1.gone = [] := by decide +kernel
 have h0 : (stq 3).2.getD 0 [] ≠ [] := by decide +kernel
 have h1 : (stq 3).2.getD 1 [] ≠ [] := by decide +kernel
 refine ⟨by rw [hl];omega,by rw [hl];omega,fun i hi => ?_,by rw [qx2];decide,by rw [hg];decide,fun i hi => by rw [hg] at hi;exact absurd hi (by simp)⟩
 rw [hl] at hi
 match i,hi with
 | 0,_ => exact h0
 | 1,_ => exact h1
theorem qq7 : Plain 36 := by
 intro args W
 kernel_rfl
theorem qv3 (B M : Nat) (w : World) (hT : Txt.Tab w) (hB : w.cell? ⟨B,0,none⟩ = some (.string abc)) : Does 36 #[.pointer (some ⟨B,0,none⟩)] M w (stq 0).1 (stq 3).1 (stq 0).2 (stq 3).2 := by
 have h := qqe abc B M w stq hB;rw [qva] at h;refine h ?_;intro i hi X p hb hS;have hTX := Grd.Tab.next hT hb;have hN : ∀ Y,Below w.heap.size X Y → Txt.Tab Y := fun Y hY => Grd.Tab.next hT (hb.trans hY)
 match i,hi with
 | 0,_ => exact qbz X M w.heap.size p (stq 0) 97 hTX hN hS ok0
 | 1,_ => exact qbz X M w.heap.size p (stq 1) 98 hTX hN hS ok1
 | 2,_ => exact qbz X M w.heap.size p (stq 2) 99 hTX hN hS ok2
theorem qxn (cv tv gv : Value) (w0 w : World) (hT : Txt.Tab w) (hV : Zh w0 (Qw 2 2) cv tv gv) (hb0 : Below w0.heap.size w0 w) : Calls qP 13 #[.agg (scrA (Qw 2 2) cv tv gv),.string abc] w (Made w0 w { (stq 3).1 with cs := qcy } 0) := by
 have h := qnz (Qw 2 2) { (stq 3).1 with cs := qcy } cv tv gv abc (by decide) w0 w hT hV hb0 qfo
 rw [qy1] at h;refine h fun W B hW hB => ?_
 exact Jl 2 2 (Qw 2 2) (stq 3).1 (stq 3).2 cv tv gv _ qq7 _ w0 W hV (hb0.trans (hW.mono hb0.size)) qfo rfl rfl qrf (fun w1 hw1 => qv3 B _ w1 (Grd.Tab.next (Grd.Tab.next hT hW) hw1) (Qa hw1 hB)) qy0 qcy qx2
theorem qeb (w : World) (hT : Txt.Tab w) : Calls qP 5 #[] w fun e w' => e = .returned (.bool true) ∧ Below w.heap.size w w' := by
 have HN := qjc 2 2 w (by decide)
 have HT : Hid (∀ W,Below w.heap.size w W → Txt.Tab W) := fun W h => Grd.Tab.next hT h
 clear hT;go_enter Tryz.func5,Tryz.ntmps5;go_wp2_with fail;refine HN.mono ?_;rintro e W1 ⟨cv,tv,gv,rfl,hO,b1⟩;obtain ⟨a1,n1,c1,a2,n2,c2,a3,n3,c3,rfl,rfl,rfl⟩ := hO.shapes;generalize hs : Qw 2 2 = s at *;have x1 := qf W1 (.cells zA 32);have HX1 : Hid ((W1.alloc (.cells zA 32)).heap[W1.heap.size]? = _) := x1;have HV : Hid (Zh W1 s _ _ _) := hO.scr;have HB1 : Hid (Below w.heap.size w W1) := b1;clear HN hO b1 x1;go_upto_region 2 with (refine qh rfl 32 (.tmp 1) _ rfl W1.heap.size (scT s a1 n1 c1 a2 n2 c2 a3 n3 c3) rfl rfl _ _ HX1.out (by kernel_rfl) rfl (Qm _ _ _ _ _ _ _ _ _ _) ?_)
 have HX2 : Hid (((W1.alloc (.cells zA 32)).setRow W1.heap.size (scT s a1 n1 c1 a2 n2 c2 a3 n3 c3)).heap[W1.heap.size]? = some (.cells (scT s a1 n1 c1 a2 n2 c2 a3 n3 c3) 32 (0,0))) := qj _ _ _ _ _ _ HX1.out;have HBX : Hid (Below W1.heap.size W1 ((W1.alloc (.cells zA 32)).setRow W1.heap.size (scT s a1 n1 c1 a2 n2 c2 a3 n3 c3))) := qi ((qr _ _).alloc (qd _) _) (qd _) _;have HHS : Hid (Qw 2 2 = s) := hs;clear HX1 hs;generalize ((W1.alloc (.cells zA 32)).setRow W1.heap.size (scT s a1 n1 c1 a2 n2 c2 a3 n3 c3)) = X at *;have HTX : Calls qP 13 #[.agg (scT s a1 n1 c1 a2 n2 c2 a3 n3 c3),.string ⟨#[97,98,99]⟩] X (Made W1 X { (stq 3).1 with cs := qcy } 0) := by
  have hv := HV.out;rw [← HHS.out] at hv ⊢;exact qxn _ _ _ W1 X (HT.out X (HB1.out.trans (HBX.out.mono HB1.out.size))) hv HBX.out
 have h1 := q2b;have h2 := q2f;have h3 := qwo;have h4 := qv6;obtain ⟨s2,hs2⟩ : ∃ s2 : Scr,s2 = { (stq 3).1 with cs := qcy } := ⟨_,rfl⟩
 have k1 : s2.x = 1 := by rw [hs2];exact h1
 have k2 : s2.y = 1 := by rw [hs2];exact h2
 have k3 : s2.late = false := by rw [hs2];exact h3
 have k4 : s2.last = 99 := by rw [hs2];exact h4
 have k5 : s2.cs = qcy := by rw [hs2]
 rw [← hs2] at HTX;have K : Hid (s2.x = 1 ∧ s2.y = 1 ∧ s2.late = false ∧ s2.last = 99 ∧ s2.cs = qcy) := ⟨k1,k2,k3,k4,k5⟩;clear h1 h2 h3 h4 hs2 k1 k2 k3 k4 k5;go_wp2_with (refine ql rfl 32 (.tmp 1) rfl W1.heap.size rfl _ _ _ _ HX2.out qu rfl (by kernel_rfl) ?_)
 refine HTX.mono ?_;rintro e W2 ⟨cv',tv',gv',rfl,hO,b2⟩;obtain ⟨a4,n4,c4,a5,n5,c5,a6,n6,c6,-,rfl,rfl⟩ := hO.shapes;have hc := hO.c;rw [K.out.2.2.2.2] at hc
 rcases hc with ⟨he,-⟩ | ⟨g,cap,rest,t,hv,hg,hl,hm,hh⟩
 ·exact absurd he (by decide)
 subst hv;have x2 := qf W2 (.cells zA 32);have HX3 : Hid ((W2.alloc (.cells zA 32)).heap[W2.heap.size]? = _) := x2;have HX4 : Hid (((W2.alloc (.cells zA 32)).setRow W2.heap.size (scrA s2 (.slice (some ⟨g,0,none⟩) 4 cap) (.slice a5 n5 c5) (.slice a6 n6 c6))).heap[W2.heap.size]? = some (.cells (scrA s2 (.slice (some ⟨g,0,none⟩) 4 cap) (.slice a5 n5 c5) (.slice a6 n6 c6)) 32 (0,0))) := qj _ _ _ _ _ _ HX3.out;have hb2 : Below w.heap.size w W2 := (HB1.out.trans (HBX.out.mono HB1.out.size)).trans (b2.mono (HB1.out.trans (HBX.out.mono HB1.out.size)).size);have HBY : Hid (Below w.heap.size w ((W2.alloc (.cells zA 32)).setRow W2.heap.size (scrA s2 (.slice (some ⟨g,0,none⟩) 4 cap) (.slice a5 n5 c5) (.slice a6 n6 c6)))) := qi (hb2.alloc hb2.size _) hb2.size _;have HG : Hid (Qb ((W2.alloc (.cells zA 32)).setRow W2.heap.size (scrA s2 (.slice (some ⟨g,0,none⟩) 4 cap) (.slice a5 n5 c5) (.slice a6 n6 c6))) g 0 qcy) := by
  refine Grd.Gb (t := t) (rest := rest) ?_;rw [qg _ _ _ _ (Nat.ne_of_lt (Qc hh)),qs _ _ _ (Qc hh)];exact hh
 clear HTX hO b2 x2 hh hb2 HX2 HBX HB1 HV;go_upto_region 3 with (refine qh rfl 32 (.tmp 3) _ rfl W2.heap.size (scrA s2 (.slice (some ⟨g,0,none⟩) 4 cap) (.slice a5 n5 c5) (.slice a6 n6 c6)) rfl rfl _ _ HX3.out (by kernel_rfl) rfl (Qm _ _ _ _ _ _ _ _ _ _) ?_)
 clear HX3;generalize ((W2.alloc (.cells zA 32)).setRow W2.heap.size (scrA s2 (.slice (some ⟨g,0,none⟩) 4 cap) (.slice a5 n5 c5) (.slice a6 n6 c6))) = Y at *;obtain ⟨⟨-,-,d2,d3,d4,d5,-⟩,⟨-,-,-,-,-,-,-,-,d19,-⟩,-⟩ := Qi HX4.out;rw [K.out.1] at d3;rw [K.out.2.1] at d4;rw [K.out.2.2.1] at d5;rw [K.out.2.2.2.1] at d19;obtain ⟨e8,-⟩ := HG.out 2 (by decide)
 have e8' : Y.cell? ⟨g,8,none⟩ = some (.int .i32 99) := e8;clear e8;go_wp2_with fail;go_ret;exact ⟨rfl,HBY.out⟩
end Put
namespace Put
open Grd (C SliceAt Qb Qf z0 Q0 Qe Js flat)
end Put
namespace Put
open Grd (C SliceAt Qb Qf z0 Q0 flat Qe)
open Sty (Q5)
theorem qnc (s' : Scr) (cs : List C) (h : cs = s'.cs) : ({ s' with cs := cs } : Scr) = s' := by
 subst h
 rfl
theorem qnr : Plain 133 := by
 intro args W
 kernel_rfl
theorem qnv : Plain 134 := by
 intro args W
 kernel_rfl
theorem qs9 {w0 w : World} {s : Scr} {cv tv gv : Value} {n hh : Nat} (h : Met w0 w s cv tv gv) (hR : Qg s n hh) : Calls qP 92 #[.agg (scrA s cv tv gv)] w (Made w0 w (qeh s) 0) :=
 qha s _ cv tv gv 0 w0 w h.v h.b.size fun W _ hW => by
  have := qa8 (h.next hW) hR _ qnr #[] (Qe n s.cs hh) _ (fun w1 _ => qt0 _ w1 s _) (Ya hR (qeh s) rfl) rfl
  rwa [qnc (qeh s) _ hR.flatten] at this
theorem qvg {w0 w : World} {s : Scr} {cv tv gv : Value} {n hh : Nat} (h : Met w0 w s cv tv gv) (hR : Qg s n hh) : Calls qP 93 #[.agg (scrA s cv tv gv)] w (Made w0 w (qeo s) 0) :=
 qcr s _ cv tv gv 0 w0 w h.v h.b.size fun W _ hW => by
  have := qa8 (h.next hW) hR _ qnv #[] (Qe n s.cs hh) _ (fun w1 _ => qj5 _ w1 s _) (Ya hR (qeo s) rfl) rfl
  rwa [qnc (qeo s) _ hR.flatten] at this
theorem qxz (m : Int) (h0 : 0 ≤ m) (h1 : m ≤ 63) : K5 (bits .and .i64 m 6) = true ∧ bits .and .i64 (bits .xor .i64 (bits .or .i64 (bits .andNot .i64 m 6) (bits .and .i64 m 6)) m) 6 = 0 := by
 have key : ∀ k : Fin 64,K5 (bits .and .i64 (k.val : Int) 6) = true ∧ bits .and .i64 (bits .xor .i64 (bits .or .i64 (bits .andNot .i64 (k.val : Int) 6) (bits .and .i64 (k.val : Int) 6)) (k.val : Int)) 6 = 0 := by decide +kernel
 have h := key ⟨m.toNat,by omega⟩
 have e : ((m.toNat : Nat) : Int) = m := by omega
 simp only [e] at h;exact h
theorem qyj {s : Scr} {n hh : Nat} (h : Qg s n hh) : 0 ≤ s.modes ∧ s.modes ≤ 63 := by
 have := h.looks;simp only [Za,Bool.and_eq_true,decide_eq_true_eq] at this;exact this.2.2.1
theorem qrs {s : Scr} {n hh : Nat} (h : Qg s n hh) : Qg (qeh s) n hh := by
 have hm := qyj h;have hk := h.looks;simp only [Za,Bool.and_eq_true] at hk;have h2 : Za (qeh s) = true := by
  simp only [Za,Bool.and_eq_true];exact ⟨hk.1,hk.1,hk.2.2.1,(qxz _ hm.1 hm.2).1⟩
 exact ⟨h.w,h.h,h.n1,h.n2,h.h1,h.h2,h.cl,h.gz,h.x0,h.x1,h.y0,h.y1,h.x0,h.x1,h.y0,h.y1,h.t0,h.t1,h.t2,h.t3,h.late,h2,h.tl,h.la,h.ti,h.gl,h.gr⟩
theorem qbt {s : Scr} {n hh : Nat} (h : Qg s n hh) (xs : List Int) : Qg (qce s xs) n hh := by
 have hk := h.looks;simp only [Za,Bool.and_eq_true] at hk;have h2 : Za (qce s xs) = true := by
  simp only [Za,Bool.and_eq_true];exact ⟨Stl.qjs xs (s.sf,s.sb,s.sx) hk.1,hk.2.1,hk.2.2.1,hk.2.2.2⟩
 exact ⟨h.w,h.h,h.n1,h.n2,h.h1,h.h2,h.cl,h.gz,h.x0,h.x1,h.y0,h.y1,h.kx0,h.kx1,h.ky0,h.ky1,h.t0,h.t1,h.t2,h.t3,h.late,h2,h.tl,h.la,h.ti,h.gl,h.gr⟩
theorem qpe {s : Scr} {n hh : Nat} (h : Qg s n hh) (ht : s.title.size ≤ 1048576) : Fits s := by
 have hm := qyj h;have hk := h.looks;simp only [Za,Bool.and_eq_true] at hk;have h4 : s.km = 0 ∨ s.km = 2 ∨ s.km = 4 ∨ s.km = 6 := by simpa [K5] using hk.2.2.2
 exact ⟨by omega,by omega,by omega,by omega,ht,by have := h.gl;omega,by have := h.tl;have := h.n2;omega⟩
end Put
namespace Put
open Grd (C Qf)
theorem qzt (n hh : Nat) (hs : Grd.Zk n hh = true) : Qf n hh (Qw n hh).cs = 0 := by
 refine (Grd.Zd n hh _).2 ⟨hs,by simp [Qw],fun y hy => ?_⟩
 have hle : y * n + n ≤ n * hh := by
  have : (y + 1) * n ≤ hh * n := Nat.mul_le_mul_right n hy;rw [Nat.mul_comm n hh];rw [Nat.add_mul] at this;omega
 have e : Grd.rowAt n (Qw n hh).cs y = qe n (32,0,0,0) := by
  unfold Grd.rowAt Qw
  dsimp only
  rw [List.drop_replicate,List.take_replicate]
  congr 1
  omega
 rw [e];exact F6 n 0 (by decide)
theorem q1n {n hh : Nat} {g : List (List C)} : Za { Qw n hh with gone := g } = true := by
 have h : Za (Qw 1 1) = true := by decide +kernel
 exact h
theorem q1p : J6 ⟨#[]⟩ = true := by decide +kernel
theorem qrc (n hh : Nat) (n1 : 1 ≤ n) (n2 : n ≤ 120) (h1 : 1 ≤ hh) (h2 : hh ≤ 60) (g : List (List C)) (g1 : g.length ≤ 50) (g2 : ∀ row,row ∈ g → Qf row.length 1 row = 0) : Qg { Qw n hh with gone := g } n hh := by
 have hs : Grd.Zk n hh = true := by simp [Grd.Zk];omega
 have tl : (Yt n).length = n := by simp [Yt]
 exact ⟨rfl,rfl,n1,n2,h1,h2,by simp [Qw],qzt n hh hs,by show (0 : Int) ≤ 0;omega,by show (0 : Int) < n;omega,by show (0 : Int) ≤ 0;omega,by show (0 : Int) < (hh : Int);omega,by show (0 : Int) ≤ 0;omega,by show (0 : Int) < n;omega,by show (0 : Int) ≤ 0;omega,by show (0 : Int) < (hh : Int);omega,by show (0 : Int) ≤ 0;omega,by show (0 : Int) ≤ (hh : Int) - 1;omega,by show (hh : Int) - 1 < (hh : Int);omega,by show (0 : Int) < (hh : Int) - 1 ∨ hh = 1;omega,by unfold Z6;rfl,q1n,tl,.inl rfl,q1p,g1,g2⟩
theorem Qg.qw8 {s : Scr} {n hh : Nat} (h : Qg s n hh) (l : List Bool) (hl : l.length = n) : Qg { s with tabs := l } n hh :=
 ⟨h.w,h.h,h.n1,h.n2,h.h1,h.h2,h.cl,h.gz,h.x0,h.x1,h.y0,h.y1,h.kx0,h.kx1,h.ky0,h.ky1,h.t0,h.t1,h.t2,h.t3,h.late,h.looks,hl,h.la,h.ti,h.gl,h.gr⟩
theorem Qg.q2h {s : Scr} {n hh : Nat} (h : Qg s n hh) : Qg { s with gone := [] } n hh :=
 ⟨h.w,h.h,h.n1,h.n2,h.h1,h.h2,h.cl,h.gz,h.x0,h.x1,h.y0,h.y1,h.kx0,h.kx1,h.ky0,h.ky1,h.t0,h.t1,h.t2,h.t3,h.late,h.looks,h.tl,h.la,h.ti,by simp,by simp⟩
end Put
namespace Put
open Grd (C SliceAt Qb Qf z0 Q0 flat Qe)
section
attribute [local go_sem ↓] Xp Jg
attribute [local go_sem] G7 Xx Xy
theorem qj9 (s s' : Scr) (cv tv gv : Value) (a : Int) (w0 w : World) (hT : Txt.Tab w) (hV : Zh w0 s cv tv gv) (hb0 : Below w0.heap.size w0 w) (hF : Fits s)
  (hCH : ∀ W B D,Below w.heap.size w W → W.cell? ⟨B,0,none⟩ = some (.int .i64 a) → W.heap[D]? = some (.cells (scrA s cv tv gv) 32 (0,0)) → Calls qP 35 #[.agg (scrA s cv tv gv),.int .i64 (Qj s),.func (.func 202) #[] #[.pointer (some ⟨B,0,none⟩),.pointer (some ⟨D,0,none⟩)]] W (Made w0 W s' (Qj s))) :
  Calls qP 156 #[.agg (scrA s cv tv gv),.int .i64 a] w (Made w0 w s' (Qj s)) := by
 obtain ⟨ca,cc,rfl⟩ := hV.c.shape;obtain ⟨ta,tc,rfl⟩ := hV.t.slice;obtain ⟨ga,gc,rfl⟩ := hV.g.slice;have hx0 : (((w.alloc (.cells (scS s ca cc ta tc ga gc) 32)).alloc (.cells #[.int .i64 a] 3)).alloc (.cells zA 32)).heap[w.heap.size]? = some (.cells (scS s ca cc ta tc ga gc) 32 (0,0)) := (qs _ _ _ (by simp;omega)).trans ((qs _ _ _ (by simp)).trans (qf _ _))
 have hxt : (((w.alloc (.cells (scS s ca cc ta tc ga gc) 32)).alloc (.cells #[.int .i64 a] 3)).alloc (.cells zA 32)).heap[w.heap.size + 1]? = some (.cells #[.int .i64 a] 3 (0,0)) := (qs _ _ _ (by simp)).trans (heap_alloc2_new w _ _)
 have hx1 : (((w.alloc (.cells (scS s ca cc ta tc ga gc) 32)).alloc (.cells #[.int .i64 a] 3)).alloc (.cells zA 32)).heap[w.heap.size + 2]? = some (.cells zA 32 (0,0)) := by
  have h := qf ((w.alloc (.cells (scS s ca cc ta tc ga gc) 32)).alloc (.cells #[.int .i64 a] 3)) (.cells zA 32);have e : ((w.alloc (.cells (scS s ca cc ta tc ga gc) 32)).alloc (.cells #[.int .i64 a] 3)).heap.size = w.heap.size + 2 := by simp
  rw [e] at h;exact h
 have hkb : Below w.heap.size w (((w.alloc (.cells (scS s ca cc ta tc ga gc) 32)).alloc (.cells #[.int .i64 a] 3)).alloc (.cells zA 32)) := (((qr _ _).alloc (qd _) _).alloc (by simp) _).alloc (by simp;omega) _
 have HX0 : Hid _ := hx0;have HX1 : Hid _ := hx1;have HKB : Hid _ := hkb;have HXT : Hid _ := hxt;have HCK : Hid (∀ W,Below w.heap.size w W → Calls qP 6 #[.agg (scS s ca cc ta tc ga gc)] W fun e w' => e = .returned (.int .i64 (Qj s)) ∧ Below W.heap.size W w') := fun W hW => Zt s _ _ _ W (Grd.Tab.next hT hW) (hV.next (hb0.trans (hW.mono hb0.size))) hF
 have HCH : Hid (∀ W,Below w.heap.size w W → W.cell? ⟨w.heap.size + 1,0,none⟩ = some (.int .i64 a) → W.heap[w.heap.size]? = some (.cells (scS s ca cc ta tc ga gc) 32 (0,0)) → Calls qP 35 #[.agg (scS s ca cc ta tc ga gc),.int .i64 (Qj s),.func (.func 202) #[] #[.pointer (some ⟨w.heap.size + 1,0,none⟩),.pointer (some ⟨w.heap.size,0,none⟩)]] W (Made w0 W s' (Qj s))) := fun W => hCH W _ _
 have hM := hb0.size;clear hx0 hx1 hkb hV hF hT hCH hb0 hxt;generalize Qj s = er at *;go_enter Tryz.func156,Tryz.ntmps156;go_upto_region 1 with fail
 generalize (((w.alloc (.cells (scS s ca cc ta tc ga gc) 32)).alloc (.cells #[.int .i64 a] 3)).alloc (.cells zA 32)) = X at *;have SK : Hid (∀ w',Below X.heap.size X w' → Below w.heap.size w w' ∧ Zj w' (.pointer (some ⟨w.heap.size,0,none⟩)) ∧ Z7 w' (.pointer (some ⟨w.heap.size,0,none⟩)) = (scS s ca cc ta tc ga gc) ∧ Zc w' (.pointer (some ⟨w.heap.size + 2,0,none⟩))) := fun w' hb => by
  have h0 := Grd.carry HX0.out hb;exact ⟨HKB.out.trans (hb.mono HKB.out.size),(Qs h0).1,(Qs h0).2,Zb (Grd.carry HX1.out hb) rfl⟩
 have b0 : Below X.heap.size X X.drew := (qr _ _).drew
 go_region_held3 (fun w' => Below w.heap.size w w' ∧ Zj w' (.pointer (some ⟨w.heap.size, 0, none⟩)) ∧ Z7 w' (.pointer (some ⟨w.heap.size, 0, none⟩)) = (scS s ca cc ta tc ga gc) ∧ Zc w' (.pointer (some ⟨w.heap.size + 2, 0, none⟩)))
  (first | exact KF.out | exact SK.out _ b2 | exact SK.out _ b1 | exact SK.out _ b0)
  (first | (go_at_call 6;refine (HCK.out _ (SK.out _ b0).1).mono ?_;rintro e V1 ⟨rfl,c1⟩;have b1 := b0.trans (c1.mono b0.size);clear c1) | (go_at_call 35;refine (HCH.out _ (SK.out _ b1).1 (qdr (Grd.carry HXT.out b1)) (Grd.carry HX0.out b1)).mono ?_;rintro e V2 ⟨cv',tv',gv',rfl,hO,c2⟩;have b2 := b1.trans (c2.mono b1.size);obtain ⟨a1,n1,c1,a2,n2,c2',a3,n3,c3,rfl,rfl,rfl⟩ := hO.shapes;have HO : Hid (Qo V2 0 _ s' _ _ _) := hO;clear c2 hO;have HR : Hid (V2.heap[w.heap.size + 2]? = _) := Grd.carry HX1.out b2;have KF : Hid (Below w.heap.size w (V2.setRow (w.heap.size + 2) (scT s' a1 n1 c1 a2 n2 c2' a3 n3 c3)) ∧ Zj (V2.setRow (w.heap.size + 2) (scT s' a1 n1 c1 a2 n2 c2' a3 n3 c3)) (.pointer (some ⟨w.heap.size,0,none⟩)) ∧ Z7 (V2.setRow (w.heap.size + 2) (scT s' a1 n1 c1 a2 n2 c2' a3 n3 c3)) (.pointer (some ⟨w.heap.size,0,none⟩)) = (scS s ca cc ta tc ga gc) ∧ Zc (V2.setRow (w.heap.size + 2) (scT s' a1 n1 c1 a2 n2 c2' a3 n3 c3)) (.pointer (some ⟨w.heap.size + 2,0,none⟩))) := qxq (SK.out _ b2).1 (Grd.carry HX0.out b2) HR.out))
 all_goals go_wp2_with fail
 all_goals (try simp only [qv,qw])
 all_goals refine qk (v := .tuple #[.agg (scT s' a1 n1 c1 a2 n2 c2' a3 n3 c3),.int .i64 er]) ?_ rfl ⟨_,_,_,rfl,(Qo.off HO.out HR.out Ql (by omega) fun k hk => qg _ _ _ _ hk).mono (SK.out _ b1).1.size,KF.out.1⟩
 all_goals exact Grd.Qd rfl _ _ (w.heap.size + 2) _ _ _ _ rfl (qj _ _ _ _ _ _ HR.out) qu rfl (by kernel_rfl) _ rfl
end
end Put
namespace Put
open Grd (C SliceAt Qb Qf z0 Q0 flat Qe)
open Txt (wd)
def agP (n : Nat) (r : Int) (x : Scr × List (List C)) : Nat → Scr × List (List C)
 | 0 => x
 | i + 1 => U0 n (agP n r x i).1 (agP n r x i).2 r
theorem PJ.again {n hh : Nat} {s : Scr} {rows : List (List C)} (h : PJ n hh s rows) (r : Int) : ∀ i, PJ n hh (agP n r (s, rows) i).1 (agP n r (s, rows) i).2
 | 0 => h
 | i + 1 => (PJ.again h r i).print r
def Gr (a : Int) : Nat := (min (max a 1) 7200).toNat
theorem qti (a : Int) : min (max a 1) 7200 = ((Gr a : Nat) : Int) := by unfold Gr;omega
def qj0 (n hh : Nat) (a : Int) (s : Scr) : Scr := { (agP n s.last (s,Qe n s.cs hh) (Gr a)).1 with cs := (agP n s.last (s,Qe n s.cs hh) (Gr a)).2.flatten }
theorem qkx : Plain 202 := by
 intro args W
 kernel_rfl
theorem qpl {n hh : Nat} {s : Scr} {rows : List (List C)} (h : PJ n hh s rows) (a : Int) (s0 : Scr) (cv tv gv : Value) (hs0 : s0.last = s.last) (B D M : Nat) (w : World) (hT : Txt.Tab w) (hB : w.cell? ⟨B, 0, none⟩ = some (.int .i64 a)) (hD : w.heap[D]? = some (.cells (scrA s0 cv tv gv) 32 (0, 0))) :
  Does 202 #[.pointer (some ⟨B,0,none⟩),.pointer (some ⟨D,0,none⟩)] M w s (agP n s.last (s,rows) (Gr a)).1 rows (agP n s.last (s,rows) (Gr a)).2 := by
 intro W p hb hS;have q0 := Qa hb hB;have HCL : Hid (∀ X,Below w.heap.size W X → X.cell? ⟨D,19,none⟩ = some (.int .i32 s.last)) := fun X hX => by
  have h1 := Grd.carry hD (hb.trans hX);obtain ⟨-,⟨-,-,-,-,-,-,-,-,c19,-⟩,-⟩ := Qi h1;rw [hs0] at c19;exact c19
 have HPR : Hid (∀ i X,Below w.heap.size W X → ShAt 110 X M w.heap.size p (agP n s.last (s,rows) i).1 (agP n s.last (s,rows) i).2 → Calls qP 37 #[.pointer (some ⟨p,0,none⟩),.int .i32 s.last] X (Ran X M w.heap.size p (agP n s.last (s,rows) (i + 1)).1 (agP n s.last (s,rows) (i + 1)).2)) := fun i X hX hSX => Fb (h.again s.last i).pi s.last X M w.heap.size p (Grd.Tab.next hT (hb.trans hX)) hT.pos hSX
 have HS : Hid (ShAt 110 W M w.heap.size p (agP n s.last (s,rows) 0).1 (agP n s.last (s,rows) 0).2) := hS;have m1 := Grd.max2 a 1;have m2 := Grd.min2 (max a 1) 7200;rw [qti a] at m2;have hK : Gr a ≤ 7200 := by unfold Gr;omega
 generalize Gr a = K at *;clear hS hB hD h hs0;generalize agP n s.last (s,rows) = st at *;generalize s.last = r at *;go_enter Tryz.func202,Tryz.ntmps202;go_wp2_with fail;go_loopg [7] K (fun q v wr => ∃ i : Nat,v = .int .i64 (i : Int) ∧ i ≤ K ∧ K - i ≤ q ∧ ShAt 110 wr M w.heap.size p (st i).1 (st i).2 ∧ Below w.heap.size W wr)
 case atStart => exact ⟨0,rfl,by omega,by omega,HS.out,qr _ _⟩
 case round =>
  obtain ⟨i,rfl,hi,hq,hSi,hBi⟩ := hrel
  by_cases hlt : i < K
  ·have lt1 : (i : Int) < (K : Int) := by omega
   have c19 := HCL.out wr hBi;have HP := HPR.out i wr hBi hSi;have HBI : Hid (Below w.heap.size W wr) := hBi;clear hSi hBi;go_wp2_with fail;refine HP.mono ?_;rintro e V ⟨rfl,hV,bV,-⟩;have HV : Hid _ := hV;have HBV : Hid (Below w.heap.size W V) := HBI.out.trans bV;clear hV bV HP c19;go_wp2_with fail;go_roundg (K - (i + 1))
   case measure => omega
   case rel => exact ⟨i + 1,by go_num,by omega,by omega,HV.out,HBV.out⟩
  ·have lt1 : ¬ (i : Int) < (K : Int) := by omega
   have e : i = K := by omega
   subst e;have HSI : Hid _ := hSi;have HBI : Hid (Below w.heap.size W wr) := hBi;clear hSi hBi;go_wp2_with fail;go_end0;exact ⟨rfl,HSI.out,HBI.out⟩
theorem qlr {s : Scr} {n hh : Nat} (hR : Qg s n hh) (a : Int) : Qg (qj0 n hh a s) n hh := ((PJ.start hR).again s.last (Gr a)).r
theorem qqj {w0 w : World} {s : Scr} {cv tv gv : Value} {n hh : Nat} (h : Met w0 w s cv tv gv) (hR : Qg s n hh) (a : Int) :
  Calls qP 156 #[.agg (scrA s cv tv gv),.int .i64 a] w (Made w0 w (qj0 n hh a s) 0) := by
 have hj := PJ.start hR;have he := hj.again s.last (Gr a);have hz := Yh hR;have key := qj9 s (qj0 n hh a s) cv tv gv a w0 w h.t h.v h.b h.f;rw [hz] at key;refine key fun W B D hW hB hD => ?_
 exact Jl n hh s _ _ cv tv gv _ qkx _ w0 W h.v (h.b.trans (hW.mono h.b.size)) h.f hR.w hR.h hR.gz (fun w1 hw1 => qpl hj a s cv tv gv rfl B D _ w1 (Grd.Tab.next (Grd.Tab.next h.t hW) hw1) (Qa hw1 hB) (Grd.carry hD hw1)) (F8 hR _ _ he.rl (fun i hi => (he.rr i hi).1) (Nat.le_succ_of_le he.r.gl) (fun i hi => by have := he.r.Ue i hi;exact Nat.le_trans this (by omega))) _ rfl
end Put
namespace Txt
end Txt
namespace Put
open Grd (C SliceAt Qb Qf z0 Q0 flat Qe)
open Txt (wd)
def Vm (n : Nat) (x : Scr × List (List C)) (l : List (Int × Nat)) : Scr × List (List C) := l.foldl (fun x r => U0 n x.1 x.2 r.1) x
theorem qeg (n : Nat) (x : Scr × List (List C)) (l l' : List (Int × Nat)) : Vm n x (l ++ l') = Vm n (Vm n x l) l' := by
 unfold Vm;rw [List.foldl_append]
theorem qzq (n : Nat) (s : Scr) (rows : List (List C)) (r : Int) (c : List C) : Xh n { s with cs := c } rows r = ({ (Xh n s rows r).1 with cs := c },(Xh n s rows r).2) := by
 unfold Xh
 by_cases h : Ki s (wd r) = true
 ·have h' : Ki { s with cs := c } (wd r) = true := h
  rw [if_pos h,if_pos h'];unfold fedP
  by_cases h2 : s.y = s.bot
  ·rw [if_pos (show ({ s with cs := c } : Scr).y = ({ s with cs := c } : Scr).bot from h2), if_pos h2]
   unfold upS
   dsimp only
   split <;> rfl
  ·rw [if_neg (show ¬ ({ s with cs := c } : Scr).y = ({ s with cs := c } : Scr).bot from h2), if_neg h2]
   unfold Uc
   dsimp only
   split <;> rfl
 ·have h' : ¬ Ki { s with cs := c } (wd r) = true := h
  rw [if_neg h,if_neg h']
theorem qzz (n : Nat) (s : Scr) (rows : List (List C)) (r : Int) (c : List C) : U0 n { s with cs := c } rows r = ({ (U0 n s rows r).1 with cs := c },(U0 n s rows r).2) := by
 unfold U0;rw [qzq];generalize Xh n s rows r = q
 by_cases h1 : wd r = 0 ∨ s.w < wd r
 ·rw [if_pos h1,if_pos (show wd r = 0 ∨ ({ s with cs := c } : Scr).w < wd r from h1)]
 ·rw [if_neg h1, if_neg (show ¬ (wd r = 0 ∨ ({ s with cs := c } : Scr).w < wd r) from h1)]
  by_cases h2 : Jj q.1 (wd r) = false
  ·rw [if_pos h2,if_pos (show Jj ({ q.1 with cs := c } : Scr) (wd r) = false from h2)]
  ·rw [if_neg h2, if_neg (show ¬ Jj ({ q.1 with cs := c } : Scr) (wd r) = false from h2)]
   unfold V9
   dsimp only
   split <;> rfl
theorem qr9 (n : Nat) (c : List C) : ∀ (l : List (Int × Nat)) (s : Scr) (rows : List (List C)), Vm n ({ s with cs := c }, rows) l = ({ (Vm n (s, rows) l).1 with cs := c }, (Vm n (s, rows) l).2)
 | [],s,rows => rfl
 | r :: l,s,rows => by
  have e : Vm n ({ s with cs := c },rows) (r :: l) = Vm n (U0 n { s with cs := c } rows r.1) l := rfl
  have e2 : Vm n (s,rows) (r :: l) = Vm n (U0 n s rows r.1) l := rfl;rw [e,e2,qzz];exact qr9 n c l (U0 n s rows r.1).1 (U0 n s rows r.1).2
theorem PJ.back {n hh : Nat} {s : Scr} {rows : List (List C)} (h : PJ n hh s rows) : Qe n rows.flatten hh = rows :=
 (Ux h.r s.gone rows h.rl h.rr h.r.gl h.r.gr).2
end Put
namespace Txt
theorem qy6 (n b0 b1 b2 b3 : Nat) : (Lib.decodeN n b0 b1 b2 b3).2 ≤ 4 := by
 unfold Lib.decodeN
 repeat' split
 all_goals simp
theorem qsx : ∀ (k : Nat) (l : List UInt8), l.length ≤ k → l.length ≤ 4 * (rn l).length
 | 0,l,h => by omega
 | k + 1,l,h => by
  by_cases hl : l = []
  ·subst hl
   simp
  ·rw [qst l hl, List.length_cons]
   have h1 := qab l;have h2 : (dec l).2 ≤ 4 := qy6 _ _ _ _ _;have h3 := q10 l hl;have ih := qsx k (l.drop (dec l).2) (by rw [List.length_drop];omega)
   rw [List.length_drop] at ih;omega
end Txt
namespace Put
open Grd (C SliceAt Qb Qf z0 Q0 flat Qe)
theorem qnx {t : ByteArray} (h : J6 t = true) : t.size ≤ 80 := by
 unfold J6 at h;rw [Bool.and_eq_true,decide_eq_true_eq,Txt.qc7,Txt.qck] at h;have := Txt.qsx t.data.toList.length t.data.toList (qd _);have e : t.data.toList.length = t.size := Array.length_toList;omega
theorem Qg.fits {s : Scr} {n hh : Nat} (h : Qg s n hh) : Fits s := qpe h (by have := qnx h.ti;omega)
abbrev Phi := Nat → Nat → Scr → Scr
def Xf (f : Phi) : Prop := ∀ (s : Scr) (n hh : Nat),Qg s n hh → Qg (f n hh s) n hh
structure MetS (w0 w : World) (s : Scr) (cv tv gv : Value) : Prop where
 m : Met w0 w s cv tv gv
 l : Stl.Tab w
structure Ct (fid : FuncId) (xs : Array Value) (f : Phi) : Prop where
 plain : Plain fid
 keeps : Xf f
 runs : ∀ (w0 w : World) (s : Scr) (cv tv gv : Value) (n hh : Nat),MetS w0 w s cv tv gv → Qg s n hh → Calls qP fid (#[.agg (scrA s cv tv gv)] ++ xs) w (Made w0 w (f n hh s) 0)
def qld (k : Int) : Phi := fun _ _ s => Ji s (s.x + cnt k) s.y
def qkw (k : Int) : Phi := fun _ _ s => Ji s (s.x - cnt k) s.y
def phTo (a b : Int) : Phi := fun _ _ s => Ji s (cnt b - 1) (qc9 s a)
def phUp (k : Int) : Phi := fun _ _ s => Ji s s.x (if s.top ≤ s.y then max (s.y - cnt k) s.top else s.y - cnt k)
def qfn (k : Int) : Phi := fun _ _ s => Ji s s.x (if s.y ≤ s.bot then min (s.y + cnt k) s.bot else s.y + cnt k)
def Km : Phi := fun _ _ s => Ji s 0 s.y
def qhc (k : Int) : Phi := fun _ _ s => Ji s (cnt k - 1) s.y
def q1a (k : Int) : Phi := fun _ _ s => Ji s s.x (qc9 s k)
def qr0 (k : Int) : Phi := fun n _ s => Ji s ((Xc (Jn s.tabs n) (cnt k).toNat s.x.toNat : Nat) : Int) s.y
def qiw (k : Int) : Phi := fun _ _ s => Ji s ((Xc (Kw s.tabs) (cnt k).toNat s.x.toNat : Nat) : Int) s.y
def qlz : Phi := fun _ _ s => { s with tabs := s.tabs.set s.x.toNat true,cs := s.cs }
def qfr (k : Int) : Phi := fun _ _ s => { s with tabs := Vu s.tabs s.x.toNat k,cs := s.cs }
def q02 (k : Int) : Phi := fun n hh s => cinS s n hh k
def q03 (k : Int) : Phi := fun n hh s => cdlS s n hh k
def q0x (k : Int) : Phi := fun n hh s => { (Zy (rUp n s.top.toNat s.bot.toNat true) (Vf k s.top.toNat s.bot.toNat) (s,Qe n s.cs hh)).1 with cs := (Zy (rUp n s.top.toNat s.bot.toNat true) (Vf k s.top.toNat s.bot.toNat) (s,Qe n s.cs hh)).2.flatten }
def qr8 (k : Int) : Phi := fun n hh s => { (Zy (rDn n s.top.toNat s.bot.toNat) (Vf k s.top.toNat s.bot.toNat) (s,Qe n s.cs hh)).1 with cs := (Zy (rDn n s.top.toNat s.bot.toNat) (Vf k s.top.toNat s.bot.toNat) (s,Qe n s.cs hh)).2.flatten }
def qya (k : Int) : Phi := fun n hh s => { (insZ s k n hh s.bot.toNat).1 with cs := (insZ s k n hh s.bot.toNat).2.flatten }
def qyx (k : Int) : Phi := fun n hh s => { (delZ s k n hh s.bot.toNat).1 with cs := (delZ s k n hh s.bot.toNat).2.flatten }
def qdv : Phi := fun n hh s => { qcq s (Qe n s.cs hh) s.top.toNat with cs := (Ub s (Qe n s.cs hh) n s.top.toNat s.bot.toNat).flatten }
def qxa : Phi := fun n hh s => { qah s with cs := (qb8 s (Qe n s.cs hh) n s.top.toNat s.bot.toNat).flatten }
def qfg (a b : Int) : Phi := fun _ _ s => regS s a b
def qxj (k : Int) : Phi := fun n hh s => { s with late := false,cs := (qd9 s k n hh).flatten }
def Uz (k : Int) : Phi := fun n hh s => if k ≤ 2 then { s with late := false,cs := (F4 s k n hh).flatten } else { (if k = 3 then { s with gone := [] } else s) with cs := s.cs }
def qsv (k : Int) : Phi := fun n hh s => { s with late := false,cs := (qbx s k n hh).flatten }
def qex (b : Int) (on : Bool) : Phi := fun _ _ s => setS s (bits .and .i64 b 63) on
def qgn (t : ByteArray) : Phi := fun _ _ s => qch s t
def qrw : Phi := fun n hh s => qan s n hh
def qav (xs : List Int) : Phi := fun _ _ s => qce s xs
def qk0 : Phi := fun _ _ s => qeh s
def qjw : Phi := fun _ _ s => qeo s
def qs0 (k : Int) : Phi := fun n hh s => qj0 n hh k s
theorem MetS.came {w0 w : World} {s : Scr} {cv tv gv : Value} (h : MetS w0 w s cv tv gv) : Came w0 w s cv tv gv := h.m.came
theorem MetS.wipe {w0 w : World} {s : Scr} {cv tv gv : Value} (h : MetS w0 w s cv tv gv) : qbn w0 w s cv tv gv := ⟨h.m.t,h.m.v,h.m.b,h.m.f⟩
theorem Qg.U9 {s : Scr} {n hh : Nat} (h : Qg s n hh) : s.top = (s.top.toNat : Int) ∧ s.bot = (s.bot.toNat : Int) := by
 have := h.t0;have := h.t1;omega
theorem qsd (k : Int) : Ct 147 #[.int .i64 k] (qld k) := ⟨fun _ _ => by kernel_rfl,fun _ _ _ h => Xk h _ _,fun _ _ _ _ _ _ _ _ hm hR => qtw hm.came hR k⟩
theorem qp6 (k : Int) : Ct 87 #[.int .i64 k] (qkw k) := ⟨fun _ _ => by kernel_rfl,fun _ _ _ h => Xk h _ _,fun _ _ _ _ _ _ _ _ hm hR => qv7 hm.came hR k⟩
theorem ctTo (a b : Int) : Ct 162 #[.int .i64 a,.int .i64 b] (phTo a b) := ⟨fun _ _ => by kernel_rfl,fun _ _ _ h => Xk h _ _,fun _ _ _ _ _ _ _ _ hm hR => q1m hm.came hR a b⟩
theorem ctUp (k : Int) : Ct 145 #[.int .i64 k] (phUp k) := ⟨fun _ _ => by kernel_rfl,fun _ _ _ h => Xk h _ _,fun _ _ _ _ _ _ _ _ hm hR => q1o hm.came hR k⟩
theorem qj2 (k : Int) : Ct 146 #[.int .i64 k] (qfn k) := ⟨fun _ _ => by kernel_rfl,fun _ _ _ h => Xk h _ _,fun _ _ _ _ _ _ _ _ hm hR => qw9 hm.came hR k⟩
theorem Vv : Ct 91 #[] Km := ⟨fun _ _ => by kernel_rfl,fun _ _ _ h => Xk h _ _,fun _ _ _ _ _ _ _ _ hm hR => qp9 hm.came hR⟩
theorem qmf (k : Int) : Ct 148 #[.int .i64 k] (qhc k) := ⟨fun _ _ => by kernel_rfl,fun _ _ _ h => Xk h _ _,fun _ _ _ _ _ _ _ _ hm hR => qpm hm.came hR k⟩
theorem q13 (k : Int) : Ct 157 #[.int .i64 k] (q1a k) := ⟨fun _ _ => by kernel_rfl,fun _ _ _ h => Xk h _ _,fun _ _ _ _ _ _ _ _ hm hR => q0o hm.came hR k⟩
theorem qwk (k : Int) : Ct 89 #[.int .i64 k] (qr0 k) := ⟨qri, fun _ _ _ h => Xk h _ _, fun w0 W s cv tv gv nn hh hm hR => by
  have e1 := hR.w;have n2 := hR.n2;have x0 := hR.x0;have x1 := hR.x1;have hc := Xw k;have hxx : s.x = (s.x.toNat : Int) := by omega
  have hcc : cnt k = ((cnt k).toNat : Int) := by omega
  have hxn : s.x.toNat < nn := by omega
  refine qus s _ cv tv gv k _ w0 W hm.m.v hm.m.b.size fun V hV' => qer (hm.m.next hV').came hR k 1 _ _ _ hxx hcc fun w1 W' p j hS => ?_
  exact qv2 (s := { Vj s with x := ((Xc (Jn s.tabs nn) j s.x.toNat : Nat) : Int) }) nn _ W' hS e1 rfl (qyd s.tabs nn _ hxn j).1 n2 hR.tl⟩
theorem qt3 (k : Int) : Ct 155 #[.int .i64 k] (qiw k) := ⟨qhm, fun _ _ _ h => Xk h _ _, fun w0 W s cv tv gv nn hh hm hR => by
  have e1 := hR.w;have n2 := hR.n2;have x0 := hR.x0;have x1 := hR.x1;have hc := Xw k;have hxx : s.x = (s.x.toNat : Int) := by omega
  have hcc : cnt k = ((cnt k).toNat : Int) := by omega
  have hxn : s.x.toNat < nn := by omega
  have hlt : ∀ j,Xc (Kw s.tabs) j s.x.toNat < nn := fun j => by have := qvu s.tabs nn _ hxn j;omega
  refine qhx s _ cv tv gv k _ w0 W hm.m.v hm.m.b.size fun V hV' => qer (hm.m.next hV').came hR k (-1) _ _ _ hxx hcc fun w1 W' p j hS => ?_
  exact qyh (s := { Vj s with x := ((Xc (Kw s.tabs) j s.x.toNat : Nat) : Int) }) nn _ W' hS e1 rfl (hlt j) n2 hR.tl⟩
theorem qm4 : Ct 94 #[] qlz := ⟨qie, fun _ _ _ h => h.qw8 _ (by rw [List.length_set]; exact h.tl), fun w0 W s cv tv gv nn hh hm hR => by
  have n2 := hR.n2;have x0 := hR.x0;have x1 := hR.x1;have hxx : s.x = (s.x.toNat : Int) := by omega
  have hxn : s.x.toNat < nn := by omega
  refine qki s _ cv tv gv _ w0 W hm.m.v hm.m.b.size fun V _ hV' => ?_
  have h := F5 (hm.m.next hV').came (Xn hR) hR _ qlf #[] (Qe nn s.cs hh) s.cs (fun w1 _ => qn4 w0.heap.size w1 s _ nn _ hxx hxn hR.tl n2) (hR.rows (s' := { s with tabs := s.tabs.set s.x.toNat true }) rfl) hR.flatten
  rw [Xn hR] at h
  exact h⟩
theorem q0f {s : Scr} {n hh : Nat} (hR : Qg s n hh) (k : Int) : (Vu s.tabs s.x.toNat k).length = n := by
 have := hR.tl;unfold Vu;split
 ·rw [List.length_set]
  omega
 ·split
  ·rw [List.length_replicate]
   omega
  ·omega
theorem qrd (k : Int) : Ct 160 #[.int .i64 k] (qfr k) := ⟨qe1, fun _ _ _ h => h.qw8 _ (q0f h k), fun w0 W s cv tv gv nn hh hm hR => by
  have n2 := hR.n2;have x0 := hR.x0;have x1 := hR.x1;have hxx : s.x = (s.x.toNat : Int) := by omega
  have hxn : s.x.toNat < nn := by omega
  refine qhl s _ cv tv gv k _ w0 W hm.m.v hm.m.b.size fun V B hV' hB' => ?_
  have h := F5 (hm.m.next hV').came (Xn hR) hR _ qho _ (Qe nn s.cs hh) s.cs (fun w1 hw1 => qh5 k B w0.heap.size w1 s _ nn _ (Qa hw1 hB') hxx hxn hR.tl n2) (hR.rows (s' := { s with tabs := Vu s.tabs s.x.toNat k }) rfl) hR.flatten
  rw [Xn hR] at h
  exact h⟩
theorem q18 (k : Int) : Ct 144 #[.int .i64 k] (q02 k) := ⟨fun _ _ => by kernel_rfl,fun _ _ _ h => qvh h k,fun _ _ _ _ _ _ _ _ hm hR => qmd hm.m hR k⟩
theorem q12 (k : Int) : Ct 151 #[.int .i64 k] (q03 k) := ⟨fun _ _ => by kernel_rfl,fun _ _ _ h => qu7 h k,fun _ _ _ _ _ _ _ _ hm hR => qnd hm.m hR k⟩
theorem q15 (k : Int) : Ct 152 #[.int .i64 k] (q0x k) := ⟨fun _ _ => by kernel_rfl,fun _ _ _ h => sup_right h _ _ h.U9.1 h.U9.2 true _,fun _ _ _ _ _ _ _ _ hm hR => q0j hm.m hR _ _ hR.U9.1 hR.U9.2 k⟩
theorem qzx (k : Int) : Ct 153 #[.int .i64 k] (qr8 k) := ⟨fun _ _ => by kernel_rfl,fun _ _ _ h => qnb h _ _ h.U9.1 h.U9.2 _,fun _ _ _ _ _ _ _ _ hm hR => qvl hm.m hR _ _ hR.U9.1 hR.U9.2 k⟩
theorem q1y (k : Int) : Ct 149 #[.int .i64 k] (qya k) := ⟨fun _ _ => by kernel_rfl,fun _ _ _ h => qo9 h k _ h.U9.2,fun _ _ _ _ _ _ _ _ hm hR => q0b hm.m hR _ hR.U9.2 k⟩
theorem q1t (k : Int) : Ct 150 #[.int .i64 k] (qyx k) := ⟨fun _ _ => by kernel_rfl,fun _ _ _ h => qqg h k _ h.U9.2,fun _ _ _ _ _ _ _ _ hm hR => qzi hm.m hR _ hR.U9.2 k⟩
theorem qdy : Ct 90 #[] qdv := ⟨fun _ _ => by kernel_rfl,fun _ _ _ h => qo6 h _ _ h.U9.1 h.U9.2,fun _ _ _ _ _ _ _ _ hm hR => qy8 hm.m hR _ _ hR.U9.1 hR.U9.2⟩
theorem qwg : Ct 95 #[] qxa := ⟨fun _ _ => by kernel_rfl,fun _ _ _ h => qp8 h _ _ h.U9.1 h.U9.2,fun _ _ _ _ _ _ _ _ hm hR => qvq hm.m hR _ _ hR.U9.1 hR.U9.2⟩
theorem qwp (a b : Int) (ha : a ≤ 9223372036854775807) : Ct 164 #[.int .i64 a,.int .i64 b] (qfg a b) := ⟨fun _ _ => by kernel_rfl,fun _ _ _ h => qjd h a b,fun _ _ _ _ _ _ _ _ hm hR => qpr hm.m hR a b ha⟩
theorem q1r (k : Int) : Ct 159 #[.int .i64 k] (qxj k) := ⟨fun _ _ => by kernel_rfl,fun _ _ _ h => (qb3 h _ (Uf h k).1 (Uf h k).2).1,fun _ _ _ _ _ _ _ _ hm hR => qoo hm.wipe hR (Yh hR) k⟩
theorem q0d (k : Int) : Ct 154 #[.int .i64 k] (qsv k) := ⟨fun _ _ => by kernel_rfl,fun _ _ _ h => (qb3 h _ (F7 h k).1 (F7 h k).2).1,fun _ _ _ _ _ _ _ _ hm hR => qob hm.wipe hR (Yh hR) k⟩
theorem qw1 (k : Int) : Ct 158 #[.int .i64 k] (Uz k) := by
 by_cases hk : k ≤ 2
 ·have e : Uz k = fun n hh s => { s with late := false,cs := (F4 s k n hh).flatten } := by
   funext n hh s
   unfold Uz;rw [if_pos hk]
  rw [e];exact ⟨fun _ _ => by kernel_rfl,fun _ _ _ h => (qb3 h _ (Ut h k).1 (Ut h k).2).1,fun _ _ _ _ _ _ _ _ hm hR => qle hm.wipe hR (Yh hR) k hk⟩
 ·have e : Uz k = fun _ _ s => { (if k = 3 then { s with gone := [] } else s) with cs := s.cs } := by
   funext n hh s
   unfold Uz;rw [if_neg hk]
  rw [e];refine ⟨fun _ _ => by kernel_rfl,fun s n hh h => ?_,fun _ _ _ _ _ _ _ _ hm hR => qkp hm.wipe hR (Yh hR) k hk⟩
  by_cases h3 : k = 3
  ·rw [if_pos h3]
   exact h.q2h
  ·rw [if_neg h3]
   exact h
theorem qkz : Ct 92 #[] qk0 := ⟨fun _ _ => by kernel_rfl,fun _ _ _ h => qrs h,fun _ _ _ _ _ _ _ _ hm hR => qs9 hm.m hR⟩
theorem qj3 : Ct 93 #[] qjw := ⟨fun _ _ => by kernel_rfl,fun _ _ _ h => qp0 h,fun _ _ _ _ _ _ _ _ hm hR => qvg hm.m hR⟩
theorem qww (b : Int) (on : Bool) (h0 : 0 ≤ bits .and .i64 b 63) (h1 : bits .and .i64 b 63 ≤ 63) : Ct 143 #[.int .i64 b,.bool on] (qex b on) := ⟨fun _ _ => by kernel_rfl,fun _ _ _ h => set_right h _ h0 h1 on,fun _ _ _ _ _ _ _ _ hm hR => qwq hm.m hR b on⟩
theorem qor (t : ByteArray) (ht : t.size ≤ 1048576) : Ct 104 #[.string t] (qgn t) := ⟨fun _ _ => by kernel_rfl,fun _ _ _ h => qgx h t,fun _ _ _ _ _ _ _ _ hm hR => qtg hm.m hR t ht⟩
theorem qr5 : Ct 96 #[] qrw := ⟨fun _ _ => by kernel_rfl,fun _ _ _ h => qrc _ _ h.n1 h.n2 h.h1 h.h2 _ h.gl h.gr,fun _ _ _ _ _ _ _ _ hm hR => qpi hm.m hR⟩
theorem qzr (k : Int) : Ct 156 #[.int .i64 k] (qs0 k) := ⟨fun _ _ => by kernel_rfl,fun _ _ _ h => qlr h k,fun _ _ _ _ _ _ _ _ hm hR => qqj hm.m hR k⟩
theorem MetS.next {w0 w W : World} {s : Scr} {cv tv gv : Value} (h : MetS w0 w s cv tv gv) (hb : Below w.heap.size w W) : MetS w0 W s cv tv gv := ⟨h.m.next hb,h.l.below hb h.l.pos⟩
structure Jm (W : World) (fid : FuncId) (caps : Array Value) (f : Phi) : Prop where
 plain : Plain fid
 keeps : Xf f
 runs : ∀ (w0 w : World) (s : Scr) (cv tv gv : Value) (n hh : Nat),Below W.heap.size W w → MetS w0 w s cv tv gv → Qg s n hh → Calls qP fid (#[.agg (scrA s cv tv gv)] ++ caps) w (Made w0 w (f n hh s) 0)
def Step (W : World) (v : Value) (f : Phi) : Prop := ∃ fid caps,v = .func (.func fid) #[] caps ∧ Jm W fid caps f
theorem Jm.next {W W' : World} {fid : FuncId} {caps : Array Value} {f : Phi} (h : Jm W fid caps f) (hb : Below W.heap.size W W') : Jm W' fid caps f := ⟨h.plain,h.keeps,fun w0 w s cv tv gv n hh hw => h.runs w0 w s cv tv gv n hh (hb.trans (hw.mono hb.size))⟩
theorem Step.next {W W' : World} {v : Value} {f : Phi} (h : Step W v f) (hb : Below W.heap.size W W') : Step W' v f := by
 obtain ⟨fid,caps,rfl,h⟩ := h;exact ⟨fid,caps,rfl,h.next hb⟩
theorem qul : Plain 128 := fun _ _ => by kernel_rfl
theorem qv8 (fid : FuncId) (k : Int) (f : Phi) (h : Ct fid #[.int .i64 k] f) (W : World) (B1 B2 : Nat) (h1 : W.cell? ⟨B1,0,none⟩ = some (.func (.func fid) #[] #[])) (h2 : W.cell? ⟨B2,0,none⟩ = some (.int .i64 k)) : Jm W 128 #[.pointer (some ⟨B1,0,none⟩),.pointer (some ⟨B2,0,none⟩)] f := by
 refine ⟨qul,h.keeps,fun w0 w s cv tv gv n hh hw hm hR => ?_⟩
 obtain ⟨ca,cc,rfl⟩ := hm.m.v.c.shape;obtain ⟨ta,tc,rfl⟩ := hm.m.v.t.slice;obtain ⟨ga,gc,rfl⟩ := hm.m.v.g.slice;have hkb : Below w.heap.size w ((w.alloc (.cells (scS s ca cc ta tc ga gc) 32)).alloc (.cells zA 32)) := (((qr _ _).alloc (by simp) _).alloc (by simp) _)
 have hx0 : ((w.alloc (.cells (scS s ca cc ta tc ga gc) 32)).alloc (.cells zA 32)).heap[w.heap.size]? = _ := (qs _ _ _ (by simp)).trans (qf w (.cells (scS s ca cc ta tc ga gc) 32))
 have hx1 : ((w.alloc (.cells (scS s ca cc ta tc ga gc) 32)).alloc (.cells zA 32)).heap[w.heap.size + 1]? = _ := heap_alloc2_new w (.cells (scS s ca cc ta tc ga gc) 32) (.cells zA 32);have HX0 : Hid _ := hx0;have HXR : Hid _ := hx1;have HKB : Hid _ := hkb;have hsz := hkb.size;have hM0 := hm.m.b.size;have hX := hw.trans (hkb.mono hw.size);have d1 := Qa hX h1;have d2 := Qa hX h2;have HC := h.runs w0 _ s _ _ _ n hh (hm.next hkb) hR;have hpl := h.plain;unfold Plain at hpl;clear hkb hw hm hx0 hx1 hX hR h;generalize f n hh s = s' at *;go_enter Tryz.func128,Tryz.ntmps128;go_upto_region 1 with fail
 generalize ((w.alloc (.cells (scS s ca cc ta tc ga gc) 32)).alloc (.cells zA 32)) = V0 at *;go_wp2_with (refine ql rfl 32 (.tmp 3) rfl w.heap.size rfl _ _ _ _ HX0.out qu rfl (by kernel_rfl) ?_)
 refine HC.mono ?_;rintro e V ⟨cv',tv',gv',rfl,hO,c2⟩;obtain ⟨a1,n1,c1,a2,n2,c2',a3,n3,c3,rfl,rfl,rfl⟩ := hO.shapes;have HO : Hid (Qo V 0 _ s' _ _ _) := hO;have HR : Hid (V.heap[w.heap.size + 1]? = _) := Grd.carry HXR.out c2;have HB : Hid (Below w.heap.size w V) := HKB.out.trans (c2.mono HKB.out.size);clear hO c2 HC;go_wp2_with (refine qh rfl 32 (.tmp 4) (.tmp 10) rfl (w.heap.size + 1) (scT s' a1 n1 c1 a2 n2 c2' a3 n3 c3) rfl rfl _ _ HR.out (by kernel_rfl) rfl (Qm _ _ _ _ _ _ _ _ _ _) ?_)
 (try simp only [qv,qw])
 refine qk (v := .tuple #[.agg (scT s' a1 n1 c1 a2 n2 c2' a3 n3 c3),.int .i64 0]) ?_ rfl ⟨_,_,_,rfl,?_,qi HB.out (by omega) _⟩
 ·exact Grd.Qd rfl _ _ (w.heap.size + 1) _ _ _ _ rfl (qj _ _ _ _ _ _ HR.out) qu rfl (by kernel_rfl) _ rfl
 ·exact (Qo.off HO.out HR.out Ql (by omega) fun k hk => qg _ _ _ _ hk).mono hsz
theorem qh8 : Plain 103 := fun _ _ => by kernel_rfl
theorem qjt (t : ByteArray) (ht : t.size ≤ 1048576) (W : World) (B : Nat) (h1 : W.cell? ⟨B,0,none⟩ = some (.string t)) : Jm W 103 #[.pointer (some ⟨B,0,none⟩)] (qgn t) := by
 refine ⟨qh8,(qor t ht).keeps,fun w0 w s cv tv gv n hh hw hm hR => ?_⟩
 obtain ⟨ca,cc,rfl⟩ := hm.m.v.c.shape;obtain ⟨ta,tc,rfl⟩ := hm.m.v.t.slice;obtain ⟨ga,gc,rfl⟩ := hm.m.v.g.slice;have hkb : Below w.heap.size w ((w.alloc (.cells (scS s ca cc ta tc ga gc) 32)).alloc (.cells zA 32)) := (((qr _ _).alloc (by simp) _).alloc (by simp) _)
 have hx0 : ((w.alloc (.cells (scS s ca cc ta tc ga gc) 32)).alloc (.cells zA 32)).heap[w.heap.size]? = _ := (qs _ _ _ (by simp)).trans (qf w (.cells (scS s ca cc ta tc ga gc) 32))
 have hx1 : ((w.alloc (.cells (scS s ca cc ta tc ga gc) 32)).alloc (.cells zA 32)).heap[w.heap.size + 1]? = _ := heap_alloc2_new w (.cells (scS s ca cc ta tc ga gc) 32) (.cells zA 32);have HX0 : Hid _ := hx0;have HXR : Hid _ := hx1;have HKB : Hid _ := hkb;have hsz := hkb.size;have hM0 := hm.m.b.size;have hX := hw.trans (hkb.mono hw.size);have d1 := Qa hX h1;have HC := (qor t ht).runs w0 _ s _ _ _ n hh (hm.next hkb) hR;clear hkb hw hm hx0 hx1 hX hR ht;generalize (qgn t) n hh s = s' at *;go_enter Tryz.func103,Tryz.ntmps103;go_upto_region 1 with fail
 generalize ((w.alloc (.cells (scS s ca cc ta tc ga gc) 32)).alloc (.cells zA 32)) = V0 at *;go_wp2_with (refine ql rfl 32 (.tmp 2) rfl w.heap.size rfl _ _ _ _ HX0.out qu rfl (by kernel_rfl) ?_)
 refine HC.mono ?_;rintro e V ⟨cv',tv',gv',rfl,hO,c2⟩;obtain ⟨a1,n1,c1,a2,n2,c2',a3,n3,c3,rfl,rfl,rfl⟩ := hO.shapes;have HO : Hid (Qo V 0 _ s' _ _ _) := hO;have HR : Hid (V.heap[w.heap.size + 1]? = _) := Grd.carry HXR.out c2;have HB : Hid (Below w.heap.size w V) := HKB.out.trans (c2.mono HKB.out.size);clear hO c2 HC;go_wp2_with (refine qh rfl 32 (.tmp 3) (.tmp 8) rfl (w.heap.size + 1) (scT s' a1 n1 c1 a2 n2 c2' a3 n3 c3) rfl rfl _ _ HR.out (by kernel_rfl) rfl (Qm _ _ _ _ _ _ _ _ _ _) ?_)
 (try simp only [qv,qw])
 refine qk (v := .tuple #[.agg (scT s' a1 n1 c1 a2 n2 c2' a3 n3 c3),.int .i64 0]) ?_ rfl ⟨_,_,_,rfl,?_,qi HB.out (by omega) _⟩
 ·exact Grd.Qd rfl _ _ (w.heap.size + 1) _ _ _ _ rfl (qj _ _ _ _ _ _ HR.out) qu rfl (by kernel_rfl) _ rfl
 ·exact (Qo.off HO.out HR.out Ql (by omega) fun k hk => qg _ _ _ _ hk).mono hsz
theorem qfv : Plain 142 := fun _ _ => by kernel_rfl
theorem qht (b : Int) (on tu : Bool) (h0 : 0 ≤ bits .and .i64 b 63) (h63 : bits .and .i64 b 63 ≤ 63) (W : World) (B1 B2 B3 : Nat) (h1 : W.cell? ⟨B1,0,none⟩ = some (.int .i64 b)) (h2 : W.cell? ⟨B2,0,none⟩ = some (.bool on)) (h3 : W.cell? ⟨B3,0,none⟩ = some (.bool tu)) : Jm W 142 #[.pointer (some ⟨B1,0,none⟩),.pointer (some ⟨B2,0,none⟩),.pointer (some ⟨B3,0,none⟩)] (qex b (on != tu)) := by
 refine ⟨qfv,(qww b _ h0 h63).keeps,fun w0 w s cv tv gv n hh hw hm hR => ?_⟩
 obtain ⟨ca,cc,rfl⟩ := hm.m.v.c.shape;obtain ⟨ta,tc,rfl⟩ := hm.m.v.t.slice;obtain ⟨ga,gc,rfl⟩ := hm.m.v.g.slice;have hkb : Below w.heap.size w ((w.alloc (.cells (scS s ca cc ta tc ga gc) 32)).alloc (.cells zA 32)) := (((qr _ _).alloc (by simp) _).alloc (by simp) _)
 have hx0 : ((w.alloc (.cells (scS s ca cc ta tc ga gc) 32)).alloc (.cells zA 32)).heap[w.heap.size]? = _ := (qs _ _ _ (by simp)).trans (qf w (.cells (scS s ca cc ta tc ga gc) 32))
 have hx1 : ((w.alloc (.cells (scS s ca cc ta tc ga gc) 32)).alloc (.cells zA 32)).heap[w.heap.size + 1]? = _ := heap_alloc2_new w (.cells (scS s ca cc ta tc ga gc) 32) (.cells zA 32);have HX0 : Hid _ := hx0;have HXR : Hid _ := hx1;have HKB : Hid _ := hkb;have hsz := hkb.size;have hM0 := hm.m.b.size;have hX := hw.trans (hkb.mono hw.size);have d1 := Qa hX h1;have d2 := Qa hX h2;have d3 := Qa hX h3;have HC := (qww b (on != tu) h0 h63).runs w0 _ s _ _ _ n hh (hm.next hkb) hR;clear hkb hw hm hx0 hx1 hX hR h0 h63;generalize (qex b (on != tu)) n hh s = s' at *;go_enter Tryz.func142,Tryz.ntmps142;go_upto_region 1 with fail
 generalize ((w.alloc (.cells (scS s ca cc ta tc ga gc) 32)).alloc (.cells zA 32)) = V0 at *;go_wp2_with (refine ql rfl 32 (.tmp 4) rfl w.heap.size rfl _ _ _ _ HX0.out qu rfl (by kernel_rfl) ?_)
 refine HC.mono ?_;rintro e V ⟨cv',tv',gv',rfl,hO,c2⟩;obtain ⟨a1,n1,c1,a2,n2,c2',a3,n3,c3,rfl,rfl,rfl⟩ := hO.shapes;have HO : Hid (Qo V 0 _ s' _ _ _) := hO;have HR : Hid (V.heap[w.heap.size + 1]? = _) := Grd.carry HXR.out c2;have HB : Hid (Below w.heap.size w V) := HKB.out.trans (c2.mono HKB.out.size);clear hO c2 HC;go_wp2_with (refine qh rfl 32 (.tmp 5) (.tmp 13) rfl (w.heap.size + 1) (scT s' a1 n1 c1 a2 n2 c2' a3 n3 c3) rfl rfl _ _ HR.out (by kernel_rfl) rfl (Qm _ _ _ _ _ _ _ _ _ _) ?_)
 (try simp only [qv,qw])
 refine qk (v := .tuple #[.agg (scT s' a1 n1 c1 a2 n2 c2' a3 n3 c3),.int .i64 0]) ?_ rfl ⟨_,_,_,rfl,?_,qi HB.out (by omega) _⟩
 ·exact Grd.Qd rfl _ _ (w.heap.size + 1) _ _ _ _ rfl (qj _ _ _ _ _ _ HR.out) qu rfl (by kernel_rfl) _ rfl
 ·exact (Qo.off HO.out HR.out Ql (by omega) fun k hk => qg _ _ _ _ hk).mono hsz
theorem qfk : Plain 215 := fun _ _ => by kernel_rfl
theorem qhv (pl : Option Addr) (nl cl : Nat) (xs : List Int) (W : World) (B : Nat) (h1 : W.cell? ⟨B,0,none⟩ = some (.slice pl nl cl)) (hI : Nums W (.slice pl nl cl) xs) : Jm W 215 #[.pointer (some ⟨B,0,none⟩)] (qav xs) := by
 refine ⟨qfk,fun _ _ _ h => qbt h xs,fun w0 w s cv tv gv n hh hw hm hR => ?_⟩
 obtain ⟨ca,cc,rfl⟩ := hm.m.v.c.shape;obtain ⟨ta,tc,rfl⟩ := hm.m.v.t.slice;obtain ⟨ga,gc,rfl⟩ := hm.m.v.g.slice;have hkb : Below w.heap.size w ((w.alloc (.cells (scS s ca cc ta tc ga gc) 32)).alloc (.cells zA 32)) := (((qr _ _).alloc (by simp) _).alloc (by simp) _)
 have hx0 : ((w.alloc (.cells (scS s ca cc ta tc ga gc) 32)).alloc (.cells zA 32)).heap[w.heap.size]? = _ := (qs _ _ _ (by simp)).trans (qf w (.cells (scS s ca cc ta tc ga gc) 32))
 have hx1 : ((w.alloc (.cells (scS s ca cc ta tc ga gc) 32)).alloc (.cells zA 32)).heap[w.heap.size + 1]? = _ := heap_alloc2_new w (.cells (scS s ca cc ta tc ga gc) 32) (.cells zA 32);have HX0 : Hid _ := hx0;have HXR : Hid _ := hx1;have HKB : Hid _ := hkb;have hsz := hkb.size;have hM0 := hm.m.b.size;have hX := hw.trans (hkb.mono hw.size);have d1 := Qa hX h1;have HC := qut (hm.next hkb).m hR pl nl cl xs (hm.next hkb).l (hI.next hX);replace HC : Calls qP 216 _ _ (Made w0 _ (qav xs n hh s) 0) := HC;clear hkb hw hm hx0 hx1 hX hR hI;generalize (qav xs) n hh s = s' at *;go_enter Tryz.func215,Tryz.ntmps215;go_upto_region 1 with fail
 generalize ((w.alloc (.cells (scS s ca cc ta tc ga gc) 32)).alloc (.cells zA 32)) = V0 at *;go_wp2_with (refine ql rfl 32 (.tmp 2) rfl w.heap.size rfl _ _ _ _ HX0.out qu rfl (by kernel_rfl) ?_)
 refine HC.mono ?_;rintro e V ⟨cv',tv',gv',rfl,hO,c2⟩;obtain ⟨a1,n1,c1,a2,n2,c2',a3,n3,c3,rfl,rfl,rfl⟩ := hO.shapes;have HO : Hid (Qo V 0 _ s' _ _ _) := hO;have HR : Hid (V.heap[w.heap.size + 1]? = _) := Grd.carry HXR.out c2;have HB : Hid (Below w.heap.size w V) := HKB.out.trans (c2.mono HKB.out.size);clear hO c2 HC;go_wp2_with (refine qh rfl 32 (.tmp 3) (.tmp 8) rfl (w.heap.size + 1) (scT s' a1 n1 c1 a2 n2 c2' a3 n3 c3) rfl rfl _ _ HR.out (by kernel_rfl) rfl (Qm _ _ _ _ _ _ _ _ _ _) ?_)
 (try simp only [qv,qw])
 refine qk (v := .tuple #[.agg (scT s' a1 n1 c1 a2 n2 c2' a3 n3 c3),.int .i64 0]) ?_ rfl ⟨_,_,_,rfl,?_,qi HB.out (by omega) _⟩
 ·exact Grd.Qd rfl _ _ (w.heap.size + 1) _ _ _ _ rfl (qj _ _ _ _ _ _ HR.out) qu rfl (by kernel_rfl) _ rfl
 ·exact (Qo.off HO.out HR.out Ql (by omega) fun k hk => qg _ _ _ _ hk).mono hsz
section
attribute [local go_sem ↓] Xp Jg
attribute [local go_sem] G7 Xx Xy
theorem ql4 (s s' : Scr) (cv tv gv : Value) (w0 w : World) (hT : Txt.Tab w) (hV : Zh w0 s cv tv gv) (hb0 : Below w0.heap.size w0 w) (hF : Fits s)
  (hCH : ∀ W,Below w.heap.size w W → Calls qP 35 #[.agg (scrA s cv tv gv),.int .i64 (Qj s),.func (.func 53) #[] #[]] W (Made w0 W s' (Qj s))) :
  Calls qP 30 #[.agg (scrA s cv tv gv)] w (Made w0 w s' (Qj s)) := by
 obtain ⟨ca,cc,rfl⟩ := hV.c.shape;obtain ⟨ta,tc,rfl⟩ := hV.t.slice;obtain ⟨ga,gc,rfl⟩ := hV.g.slice;have hx0 : ((w.alloc (.cells (scS s ca cc ta tc ga gc) 32)).alloc (.cells zA 32)).heap[w.heap.size]? = some (.cells (scS s ca cc ta tc ga gc) 32 (0,0)) := (qs _ _ _ (by simp)).trans (qf _ _)
 have hx1 : ((w.alloc (.cells (scS s ca cc ta tc ga gc) 32)).alloc (.cells zA 32)).heap[w.heap.size + 1]? = some (.cells zA 32 (0,0)) := heap_alloc2_new w _ _;have hkb : Below w.heap.size w ((w.alloc (.cells (scS s ca cc ta tc ga gc) 32)).alloc (.cells zA 32)) := ((qr _ _).alloc (qd _) _).alloc (by simp) _
 have hsz : ((w.alloc (.cells (scS s ca cc ta tc ga gc) 32)).alloc (.cells zA 32)).heap.size = w.heap.size + 2 := by simp
 have HX0 : Hid _ := hx0;have HX1 : Hid _ := hx1;have HKB : Hid _ := hkb;have HSZ : Hid _ := hsz;have HCK : Hid (∀ W,Below w.heap.size w W → Calls qP 6 #[.agg (scS s ca cc ta tc ga gc)] W fun e w' => e = .returned (.int .i64 (Qj s)) ∧ Below W.heap.size W w') := fun W hW => Zt s _ _ _ W (Grd.Tab.next hT hW) (hV.next (hb0.trans (hW.mono hb0.size))) hF
 have HCH : Hid (∀ W,Below w.heap.size w W → Calls qP 35 #[.agg (scS s ca cc ta tc ga gc),.int .i64 (Qj s),.func (.func 53) #[] #[]] W (Made w0 W s' (Qj s))) := hCH;have hM := hb0.size;clear hx0 hx1 hkb hV hF hT hCH hb0 hsz;generalize Qj s = er at *;go_enter Tryz.func30,Tryz.ntmps30;go_upto_region 1 with fail
 generalize ((w.alloc (.cells (scS s ca cc ta tc ga gc) 32)).alloc (.cells zA 32)) = X at *;have SK : Hid (∀ w',Below X.heap.size X w' → Below w.heap.size w w' ∧ Zj w' (.pointer (some ⟨w.heap.size,0,none⟩)) ∧ Z7 w' (.pointer (some ⟨w.heap.size,0,none⟩)) = (scS s ca cc ta tc ga gc) ∧ Zc w' (.pointer (some ⟨w.heap.size + 1,0,none⟩))) := fun w' hb => by
  have h0 := Grd.carry HX0.out hb;exact ⟨HKB.out.trans (hb.mono HKB.out.size),(Qs h0).1,(Qs h0).2,Zb (Grd.carry HX1.out hb) rfl⟩
 have b0 : Below X.heap.size X X.drew := (qr _ _).drew
 go_region_held3 (fun w' => Below w.heap.size w w' ∧ Zj w' (.pointer (some ⟨w.heap.size, 0, none⟩)) ∧ Z7 w' (.pointer (some ⟨w.heap.size, 0, none⟩)) = (scS s ca cc ta tc ga gc) ∧ Zc w' (.pointer (some ⟨w.heap.size + 1, 0, none⟩)))
  (first | exact KF.out | exact SK.out _ b2 | exact SK.out _ b1 | exact SK.out _ b0)
  (first | (go_at_call 6;refine (HCK.out _ (SK.out _ b0).1).mono ?_;rintro e V1 ⟨rfl,c1⟩;have b1 := b0.trans (c1.mono b0.size);clear c1) | (go_at_call 35;refine (HCH.out _ (SK.out _ b1).1).mono ?_;rintro e V2 ⟨cv',tv',gv',rfl,hO,c2⟩;have b2 := b1.trans (c2.mono b1.size);obtain ⟨a1,n1,c1,a2,n2,c2',a3,n3,c3,rfl,rfl,rfl⟩ := hO.shapes;have HO : Hid (Qo V2 0 _ s' _ _ _) := hO;clear c2 hO;have HR : Hid (V2.heap[w.heap.size + 1]? = _) := Grd.carry HX1.out b2;have KF : Hid (Below w.heap.size w (V2.setRow (w.heap.size + 1) (scT s' a1 n1 c1 a2 n2 c2' a3 n3 c3)) ∧ Zj (V2.setRow (w.heap.size + 1) (scT s' a1 n1 c1 a2 n2 c2' a3 n3 c3)) (.pointer (some ⟨w.heap.size,0,none⟩)) ∧ Z7 (V2.setRow (w.heap.size + 1) (scT s' a1 n1 c1 a2 n2 c2' a3 n3 c3)) (.pointer (some ⟨w.heap.size,0,none⟩)) = (scS s ca cc ta tc ga gc) ∧ Zc (V2.setRow (w.heap.size + 1) (scT s' a1 n1 c1 a2 n2 c2' a3 n3 c3)) (.pointer (some ⟨w.heap.size + 1,0,none⟩))) := qr1 (SK.out _ b2).1 (Grd.carry HX0.out b2) HR.out))
 go_wp2_with fail
 (try simp only [qv,qw])
 refine qk (v := .tuple #[.agg (scT s' a1 n1 c1 a2 n2 c2' a3 n3 c3),.int .i64 er]) ?_ rfl ⟨_,_,_,rfl,?_,KF.out.1⟩
 ·exact Grd.Qd rfl _ _ (w.heap.size + 1) _ _ _ _ rfl (qj _ _ _ _ _ _ HR.out) qu rfl (by kernel_rfl) _ rfl
 ·exact (Qo.off HO.out HR.out Ql (by omega) fun k hk => qg _ _ _ _ hk).mono (SK.out _ b1).1.size
theorem qh4 (s s' : Scr) (cv tv gv : Value) (B : Nat) (w0 w : World) (hT : Txt.Tab w) (hV : Zh w0 s cv tv gv) (hb0 : Below w0.heap.size w0 w) (hF : Fits s)
  (hCH : ∀ W,Below w.heap.size w W → Calls qP 35 #[.agg (scrA s cv tv gv),.int .i64 (Qj s),.func (.func 55) #[] #[.pointer (some ⟨B,0,none⟩)]] W (Made w0 W s' (Qj s))) :
  Calls qP 54 #[.agg (scrA s cv tv gv),.pointer (some ⟨B,0,none⟩)] w (Made w0 w s' (Qj s)) := by
 obtain ⟨ca,cc,rfl⟩ := hV.c.shape;obtain ⟨ta,tc,rfl⟩ := hV.t.slice;obtain ⟨ga,gc,rfl⟩ := hV.g.slice;have hx0 : ((w.alloc (.cells (scS s ca cc ta tc ga gc) 32)).alloc (.cells zA 32)).heap[w.heap.size]? = some (.cells (scS s ca cc ta tc ga gc) 32 (0,0)) := (qs _ _ _ (by simp)).trans (qf _ _)
 have hx1 : ((w.alloc (.cells (scS s ca cc ta tc ga gc) 32)).alloc (.cells zA 32)).heap[w.heap.size + 1]? = some (.cells zA 32 (0,0)) := heap_alloc2_new w _ _;have hkb : Below w.heap.size w ((w.alloc (.cells (scS s ca cc ta tc ga gc) 32)).alloc (.cells zA 32)) := ((qr _ _).alloc (qd _) _).alloc (by simp) _
 have hsz : ((w.alloc (.cells (scS s ca cc ta tc ga gc) 32)).alloc (.cells zA 32)).heap.size = w.heap.size + 2 := by simp
 have HX0 : Hid _ := hx0;have HX1 : Hid _ := hx1;have HKB : Hid _ := hkb;have HSZ : Hid _ := hsz;have HCK : Hid (∀ W,Below w.heap.size w W → Calls qP 6 #[.agg (scS s ca cc ta tc ga gc)] W fun e w' => e = .returned (.int .i64 (Qj s)) ∧ Below W.heap.size W w') := fun W hW => Zt s _ _ _ W (Grd.Tab.next hT hW) (hV.next (hb0.trans (hW.mono hb0.size))) hF
 have HCH : Hid (∀ W,Below w.heap.size w W → Calls qP 35 #[.agg (scS s ca cc ta tc ga gc),.int .i64 (Qj s),.func (.func 55) #[] #[.pointer (some ⟨B,0,none⟩)]] W (Made w0 W s' (Qj s))) := hCH;have hM := hb0.size;clear hx0 hx1 hkb hV hF hT hCH hb0 hsz;generalize Qj s = er at *;go_enter Tryz.func54,Tryz.ntmps54;go_upto_region 1 with fail
 generalize ((w.alloc (.cells (scS s ca cc ta tc ga gc) 32)).alloc (.cells zA 32)) = X at *;have SK : Hid (∀ w',Below X.heap.size X w' → Below w.heap.size w w' ∧ Zj w' (.pointer (some ⟨w.heap.size,0,none⟩)) ∧ Z7 w' (.pointer (some ⟨w.heap.size,0,none⟩)) = (scS s ca cc ta tc ga gc) ∧ Zc w' (.pointer (some ⟨w.heap.size + 1,0,none⟩))) := fun w' hb => by
  have h0 := Grd.carry HX0.out hb;exact ⟨HKB.out.trans (hb.mono HKB.out.size),(Qs h0).1,(Qs h0).2,Zb (Grd.carry HX1.out hb) rfl⟩
 have b0 : Below X.heap.size X X.drew := (qr _ _).drew
 go_region_held3 (fun w' => Below w.heap.size w w' ∧ Zj w' (.pointer (some ⟨w.heap.size, 0, none⟩)) ∧ Z7 w' (.pointer (some ⟨w.heap.size, 0, none⟩)) = (scS s ca cc ta tc ga gc) ∧ Zc w' (.pointer (some ⟨w.heap.size + 1, 0, none⟩)))
  (first | exact KF.out | exact SK.out _ b2 | exact SK.out _ b1 | exact SK.out _ b0)
  (first | (go_at_call 6;refine (HCK.out _ (SK.out _ b0).1).mono ?_;rintro e V1 ⟨rfl,c1⟩;have b1 := b0.trans (c1.mono b0.size);clear c1) | (go_at_call 35;refine (HCH.out _ (SK.out _ b1).1).mono ?_;rintro e V2 ⟨cv',tv',gv',rfl,hO,c2⟩;have b2 := b1.trans (c2.mono b1.size);obtain ⟨a1,n1,c1,a2,n2,c2',a3,n3,c3,rfl,rfl,rfl⟩ := hO.shapes;have HO : Hid (Qo V2 0 _ s' _ _ _) := hO;clear c2 hO;have HR : Hid (V2.heap[w.heap.size + 1]? = _) := Grd.carry HX1.out b2;have KF : Hid (Below w.heap.size w (V2.setRow (w.heap.size + 1) (scT s' a1 n1 c1 a2 n2 c2' a3 n3 c3)) ∧ Zj (V2.setRow (w.heap.size + 1) (scT s' a1 n1 c1 a2 n2 c2' a3 n3 c3)) (.pointer (some ⟨w.heap.size,0,none⟩)) ∧ Z7 (V2.setRow (w.heap.size + 1) (scT s' a1 n1 c1 a2 n2 c2' a3 n3 c3)) (.pointer (some ⟨w.heap.size,0,none⟩)) = (scS s ca cc ta tc ga gc) ∧ Zc (V2.setRow (w.heap.size + 1) (scT s' a1 n1 c1 a2 n2 c2' a3 n3 c3)) (.pointer (some ⟨w.heap.size + 1,0,none⟩))) := qr1 (SK.out _ b2).1 (Grd.carry HX0.out b2) HR.out))
 all_goals go_wp2_with fail
 all_goals (try simp only [qv,qw])
 all_goals refine qk (v := .tuple #[.agg (scT s' a1 n1 c1 a2 n2 c2' a3 n3 c3),.int .i64 er]) ?_ rfl ⟨_,_,_,rfl,?_,KF.out.1⟩
 all_goals first | exact Grd.Qd rfl _ _ (w.heap.size + 1) _ _ _ _ rfl (qj _ _ _ _ _ _ HR.out) qu rfl (by kernel_rfl) _ rfl | exact (Qo.off HO.out HR.out Ql (by omega) fun k hk => qg _ _ _ _ hk).mono (SK.out _ b1).1.size
end
end Put
namespace Prs
theorem qam : Tryz.prog.underlying 33 = some (.slice 3) := by kernel_rfl
theorem qgl : (Tryz.prog.info? 3).map (fun i => (i.zero,i.size,i.bytes)) = some (some (.int .i64 0),1,8) := by kernel_rfl
theorem Gg {w : World} {base : Nat} {e : TypeId} {size : Nat} {v : Value} {n : Nat} {xs : List Value} (h : w.ownsRow base e size v n xs) : ∃ a c,v = .slice a n c := by
 obtain ⟨_,⟨rfl,rfl⟩ | ⟨q,cap,cur,rfl,_⟩⟩ := h
 ·exact ⟨none,0,rfl⟩
 ·exact ⟨_,cap,rfl⟩
theorem Rd.nums {w0 : World} {R T : Nat} {s : St} {es : List Ev} {W W2 W3 : World} {N : Nat} {pv tv v3 : Value} {eqs : List (Ev × Value)} (h : Rd w0 R T s es W N pv tv eqs) (hb : Below W.heap.size W W2) (l : List Int)
  (hown3 : W3.ownsRow N 3 1 v3 l.length (ints l)) (hgrow : W2.grownBy W3 pv.ownBlock) : Rd w0 R T { s with ps := l } es (W3.setCell ⟨R,3,none⟩ v3) N v3 tv eqs := by
 have h2 := h.below hb;have hW3 : ∀ {e : TypeId} {A : Array Value} {k : Nat},W2.heap[k]? = some (.cells A e (0,0)) → 3 ≠ e → W3.heap[k]? = some (.cells A e (0,0)) := fun {e A k} hk hne => by
  rw [hgrow.block k (Xj hk) (fun e1 => qap h2.p hk hne e1.symm)]
  exact hk
 have hR3 := hW3 h2.r (by decide)
 have ne : ∀ {base : Nat} {e : TypeId} {size : Nat} {v : Value} {n : Nat} {xs : List Value},W3.ownsRow base e size v n xs → e ≠ 74 → (W3.setCell ⟨R,3,none⟩ v3).ownsRow base e size v n xs := fun ho hne => Jf ho fun g hg => by
  obtain ⟨A,hA⟩ := Xz ho hg;rw [heap_setCell_other];intro e1;simp only at e1;rw [e1,hR3] at hA;injection hA with hA
  injection hA with _ hA
  exact hne hA.symm
 have hRT : R ≠ T := by
  intro e;have h1 := h.r;rw [e,h.t] at h1;simp at h1
 refine ⟨?_,h.rb,h.tb,heap_setCell_same W3 R 3 _ _ v3 hR3,?_,ne hown3 (by decide),ne (h2.e.kept hgrow ?_) (by decide),h.es,fun x hx => ⟨ne ((h2.q x hx).1.kept hgrow ?_) (by decide),(h2.q x hx).2⟩,h.n0,?_⟩
 ·exact (h2.low.grown hgrow h2.low.size (fun k hk => Nat.le_trans h.n0 (h2.p.lt k hk).1)).setCell h.rb _
 ·rw [heap_setCell_other _ _ _ _ (Ne.symm hRT)]
  exact hW3 h2.t (by decide)
 ·cases ho : tv.ownBlock with
  | none => exact .inl rfl
  | some g =>
   refine .inr fun e1 => ?_
   obtain ⟨A,hA⟩ := Xz h2.e ho;exact qap h2.p hA (by decide) e1.symm
 ·cases ho : x.2.ownBlock with
  | none => exact .inl rfl
  | some g =>
   refine .inr fun e1 => ?_
   have a := (h2.q x hx).2 g ho;have b := (h2.p.lt g e1.symm).1;omega
 ·have := h2.n1
  have h5 := hgrow.size;simp;omega
theorem Rd.qyk {w0 : World} {R T : Nat} {s : St} {es : List Ev} {W : World} {N g cap : Nat} {tv : Value} {eqs : List (Ev × Value)} (h : Rd w0 R T s es W N (.slice (some ⟨g, 0, none⟩) s.ps.length cap) tv eqs) (j : Nat) (x : Int) :
  Rd w0 R T { s with ps := s.ps.set j x } es (W.setCell ⟨g,j,none⟩ (.int .i64 x)) N (.slice (some ⟨g,0,none⟩) s.ps.length cap) tv eqs := by
 obtain ⟨A,hA⟩ := Xz h.p rfl;have hgN : N ≤ g := (h.p.lt g rfl).1;have hne : ∀ {k : Nat} {B : Array Value} {e : TypeId},W.heap[k]? = some (.cells B e (0,0)) → e ≠ 3 → k ≠ g := fun hk he e1 => by
  rw [e1,hA] at hk;injection hk with hk
  injection hk with _ hk
  exact he hk.symm
 have keep : ∀ {k : Nat},k ≠ g → (W.setCell ⟨g,j,none⟩ (.int .i64 x)).heap[k]? = W.heap[k]? := fun hk => heap_setCell_other _ _ _ _ hk
 refine ⟨h.low.setCell (Nat.le_trans h.n0 hgN) _,h.rb,h.tb,?_,?_,?_,?_,h.es,fun y hy => ⟨Jf (h.q y hy).1 fun k hk => keep (by have := (h.q y hy).2 k hk;omega),(h.q y hy).2⟩,h.n0,by simpa using h.n1⟩
 ·rw [keep (hne h.r (by decide))]
  exact h.r
 ·rw [keep (hne h.t (by decide))]
  exact h.t
 ·have this := (h.p.stored j (.int .i64 x)).1
  have e : ints (s.ps.set j x) = (ints s.ps).set j (.int .i64 x) := by simp [ints,List.map_set]
  show (W.setCell ⟨g,j,none⟩ (.int .i64 x)).ownsRow N 3 1 _ (s.ps.set j x).length (ints (s.ps.set j x))
  rw [List.length_set,e];exact this
 ·refine Jf h.e fun k hk => ?_
  obtain ⟨B,hB⟩ := Xz h.e hk;exact keep (hne hB (by decide))
theorem qt4 : begun [] = [-1] := rfl
theorem qqz {l : List Int} (h : l ≠ []) : begun l = l := if_neg h
theorem qo0 (x : UInt8) {w0 : World} {R T : Nat} {s : St} {es : List Ev} {W : World} (h : RdE w0 R T s es W) (h0 : s.ps ≠ []) (h16 : s.ps.length ≤ 16) (hlo : ∀ y, y ∈ s.ps → y ≤ 9999) :
  Calls qP 124 #[.pointer (some ⟨R,0,none⟩),.int .u8 (x.toNat : Int)] W fun e W' => e = .returned (.tuple #[]) ∧ RdE w0 R T (Kn s x) es W' := by
 obtain ⟨N,pv,tv,eqs,h⟩ := h;have hpos : 0 < s.ps.length := List.length_pos_iff.2 h0;obtain ⟨g,cap,rfl⟩ := U7 h.p hpos;obtain ⟨c0,c1,c2,c3,c4,c5,c6,c7,cf⟩ := h.cells;have HE : Hid (Kn s x = if Ja x then { s with ps := digit s.ps x } else if s.ps.length < 16 then { s with ps := s.ps ++ [-1] } else bare 5) := by
  unfold Hid Kn;rw [qqz h0]
 generalize Kn s x = res at HE ⊢;obtain ⟨L,hL⟩ : ∃ L,s.ps.length = L := ⟨_,rfl⟩;have hl1 : IntKind.i64.wrap ((L : Int) - 1) = ((L - 1 : Nat) : Int) := by
  rw [IntWalk.i64_in _ ⟨by omega,by omega⟩]
  omega
 have hl2 : (L : Int) - 1 = ((L - 1 : Nat) : Int) := by omega
 have hLp : 0 < L := by omega
 have hL16 : L ≤ 16 := by omega
 have hL0 : ¬ (L : Int) = 0 := by omega
 have bL0 : ((L : Int) == 0) = false := by rw [beq_eq_false_iff_ne];exact hL0
 have hcell : W.cell? ⟨g,L - 1,none⟩ = some (.int .i64 (s.ps.getD (L - 1) 0)) := by
  have := h.p.cellAt (L - 1) (by omega)
  rw [this];have hlt : L - 1 < s.ps.length := by omega
  simp [ints,qy,List.getElem?_eq_getElem hlt]
 have hfroz : W.frozen? ⟨g,L - 1,none⟩ = false := h.p.frozenAt (L - 1);have HD := Ui x W;have hx8 := x.toNat_lt
 cases hd : Ja x with
 | true =>
  rw [hd] at HD;have hdd : 48 ≤ x.toNat ∧ x.toNat ≤ 57 := by simpa [Ja] using hd
  have HH : Hid (Rd w0 R T s es W N (.slice (some ⟨g,0,none⟩) s.ps.length cap) tv eqs) := h;have hy : s.ps.getD (L - 1) 0 ≤ 9999 := by
   have hlt : L - 1 < s.ps.length := by omega
   have : s.ps.getD (L - 1) 0 = s.ps[L - 1] := by simp [qy,hlt]
   rw [this];exact hlo _ (List.getElem_mem hlt)
  rw [hL] at c3;clear h;obtain ⟨y,hyy⟩ : ∃ y,s.ps.getD (L - 1) 0 = y := ⟨_,rfl⟩;rw [hyy] at hcell hy;have HY : Hid (s.ps.getD (L - 1) 0 = y) := hyy;have HL : Hid (s.ps.length = L) := hL;clear hyy hL;go_enter Tryz.func124,Tryz.ntmps124;go_wp2_with fail;refine HD.mono ?_;rintro e w1 ⟨rfl,hw1⟩;rw [hw1];clear hw1 w1;go_wp2_with fail;go_region;go_wp2_with fail;go_end0;rw [HE.out,if_pos hd];unfold digit;rw [HL.out,HY.out];exact ⟨rfl,_,_,_,_,(HH.out.qyk (L - 1) _).below ((qr _ _).drew)⟩
 | false =>
  rw [hd] at HD;obtain ⟨i0,hi,hzz⟩ := Option.map_eq_some_iff.1 qgl;simp only [Prod.mk.injEq] at hzz;obtain ⟨hz0,hz1,hz2⟩ := hzz;have HL : Hid (s.ps.length = L) := hL
  by_cases h15 : L < 16
  ·have h15' : (L : Int) < 16 := by omega
   have HH : Hid (Rd w0 R T s es W N (.slice (some ⟨g,0,none⟩) s.ps.length cap) tv eqs) := h;have hown := h.p;have hN1 := h.n1;have hRl := Xj h.r;have HNE : Hid (g ≠ R) := fun e => qap h.p h.r (by decide) (by rw [← e];rfl)
   have HC3 : Hid (W.heap[R]? = _) := h.r;rw [hL] at c3 hown;clear h hL;go_enter Tryz.func124,Tryz.ntmps124;go_wp2_with fail;refine HD.mono ?_;rintro e w1 ⟨rfl,hw1⟩;rw [hw1];clear hw1 w1
   go_wp2_with (at_builtin; refine wpList_append_own _ rfl _ _ 33 rfl N 3 i0 (.int .i64 0) 1 8 qam hi hz0 hz1 hz2 rfl (by decide) (.slice (some ⟨g, 0, none⟩) L cap) L (ints s.ps) rfl (hown.alloc _) ⟨W.heap.size, 0, none⟩ 1 1 [.int .i64 (-1)] rfl rfl (cells_of_block (qf W _)) (by intro u hu; simp at hu; rw [hu]; rfl) (by unfold maxLen; omega) (by omega) (by simp; omega) ?_
                intro v3 W3 hown3 hgrow hnil;obtain ⟨g3,c3',rfl⟩ := U7 hown3 (by omega)
                have hR3 : W3.heap[R]? = some (.cells (Yw s (.slice (some ⟨g,0,none⟩) s.ps.length cap) T) 74 (0,0)) := (hgrow.block R (by simp;omega) (fun e => by simp [Value.ownBlock] at e;exact HNE.out e.symm)).trans ((qs _ _ _ hRl).trans HC3.out)
                unfold Yw at hR3;obtain ⟨e0,e1,e2,e3,e4,e5,e6,e7,ef⟩ := qak hR3
                have ef3 := ef 3)
   go_end0;rw [HE.out,if_neg (by rw [hd];decide),if_pos (by rw [HL.out];exact h15)]
   have hown4 : W3.ownsRow N 3 1 (.slice (some ⟨g3,0,none⟩) (L + 1) c3') (s.ps ++ [-1]).length (ints (s.ps ++ [-1])) := by
    have e1 : ints (s.ps ++ [-1]) = ints s.ps ++ [.int .i64 (-1)] := by simp [ints]
    rw [List.length_append,HL.out,e1];exact hown3
   exact ⟨rfl,_,_,_,_,HH.out.nums ((qr _ _).alloc (qd _) _) (s.ps ++ [-1]) hown4 (by have := hgrow;simpa [Value.ownBlock] using this)⟩
  ·have h15' : ¬ (L : Int) < 16 := by omega
   have HX := Z9 5 h;rw [hL] at c3;clear h hL;go_enter Tryz.func124,Tryz.ntmps124;go_wp2_with fail;refine HD.mono ?_;rintro e w1 ⟨rfl,hw1⟩;rw [hw1];clear hw1 w1;go_wp2_with fail;refine HX.mono ?_;rintro e W1 ⟨rfl,-,h1⟩;go_wp2_with fail;go_end0;rw [HE.out,if_neg (by rw [hd];decide),if_neg (by rw [HL.out];exact h15)]
   exact ⟨rfl,_,_,_,_,h1⟩
end Prs
end Go.Proofs.YtooobiigijphkaaGreatDoor
