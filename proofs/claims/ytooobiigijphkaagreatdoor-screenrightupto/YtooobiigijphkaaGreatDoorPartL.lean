/- Parts of the proof, shortened by a program. -/
import Derived.Test.YtooobiigijphkaaGreatDoorPartK
import Derived.Deep.RegionWith
import Derived.BigRegion
import Derived.Test.YtooobiigijphkaaGreatDoorPartJ
import Derived.Test.YtooobiigijphkaaGreatDoorPartG
import Derived.Test.YtooobiigijphkaaGreatDoorPartF
import Derived.Deep.RegionHeld3
import Derived.Test.YtooobiigijphkaaGreatDoorPartE
set_option maxHeartbeats 8000000
open Nat renaming le_refl → qd
open List renaming replicate → qe, getD → qy
open Go renaming heap_alloc_new → qf, bodyPost_ret → qk
open Go.RowKit.Below renaming refl → qr, heap_alloc → qs
open Go.Proofs.Tryz renaming prog → qP, underlying32 → qu
open Go.Exit renaming inBlock → qv, «then» → qw
namespace Go.Proofs.YtooobiigijphkaaGreatDoor
set_option linter.unusedVariables false
set_option linter.unusedSimpArgs false
set_option maxRecDepth 100000
open Go.ChangeShapes Go.WideShapes Go.ChangeAt Go.RowKit
namespace Put
open Grd (C SliceAt Qb Qf z0 Q0 flat Qe)
def Vf (k : Int) (top bot : Nat) : Nat := (min (cnt k) ((bot : Int) - top + 1)).toNat
theorem qkv (k : Int) (top bot : Nat) (h : top ≤ bot) : min (cnt k) ((bot : Int) - top + 1) = (Vf k top bot : Int) := by
 have := Xw k;unfold Vf;omega
theorem qxb (k : Int) (B1 M : Nat) (w : World) (s : Scr) (rows : List (List C)) (n top bot hh : Nat) (hB1 : w.cell? ⟨B1, 0, none⟩ = some (.int .i64 k)) (hR : Y4 n bot hh s.sb (s, rows)) (ht : s.top = top) (hn1 : 1 ≤ n) (hn2 : n ≤ 120) (htb : top ≤ bot) (hbh : bot < hh) (hh60 : hh ≤ 60) :
  Does 196 #[.pointer (some ⟨B1,0,none⟩)] M w s (Zy (rUp n top bot true) (Vf k top bot) (s,rows)).1 rows (Zy (rUp n top bot true) (Vf k top bot) (s,rows)).2 := by
 intro W p hb hS;have b0 : Below w.heap.size W W.drew := (qr _ _).drew;have q1 := Qa (hb.trans b0) hB1;have hSd : ShAt 110 W.drew M w.heap.size p s rows := hS.drew;obtain ⟨-,-,-,-,-,c9,-,-,-,-⟩ := hSd.words;rw [ht] at c9;have HM := Fu 112 qun (rUp n top bot true) W.drew M _ p n top bot hh _ s.sb k s rows hSd hR (fun x hx => hx.up top true (by omega) hbh) (qze M _ p n top bot hh s.sb hn1 hn2 htb hbh hh60) htb hbh hh60 (qkv k top bot htb)
 have HB : Hid (Below w.heap.size W W.drew) := b0;generalize Zy (rUp n top bot true) (Vf k top bot) (s,rows) = z at *;clear hS hSd hB1 hR ht hb b0;go_enter Tryz.func196,Tryz.ntmps196;go_upto_region 0 with fail
 go_region_with (first | (go_at_call 197;refine HM.mono ?_;rintro e V ⟨rfl,h1,h2⟩;have h3 := HB.out.trans h2))
 all_goals go_wp2_with fail
 all_goals go_end0
 all_goals exact ⟨rfl,h1,h3⟩
theorem qql (k : Int) (B1 M : Nat) (w : World) (s : Scr) (rows : List (List C)) (n top bot hh : Nat) (hB1 : w.cell? ⟨B1, 0, none⟩ = some (.int .i64 k)) (hR : Y4 n bot hh s.sb (s, rows)) (ht : s.top = top) (hn1 : 1 ≤ n) (hn2 : n ≤ 120) (htb : top ≤ bot) (hbh : bot < hh) (hh60 : hh ≤ 60) :
  Does 198 #[.pointer (some ⟨B1,0,none⟩)] M w s (Zy (rDn n top bot) (Vf k top bot) (s,rows)).1 rows (Zy (rDn n top bot) (Vf k top bot) (s,rows)).2 := by
 intro W p hb hS;have b0 : Below w.heap.size W W.drew := (qr _ _).drew;have q1 := Qa (hb.trans b0) hB1;have hSd : ShAt 110 W.drew M w.heap.size p s rows := hS.drew;obtain ⟨-,-,-,-,-,c9,-,-,-,-⟩ := hSd.words;rw [ht] at c9;have HM := Fu 138 qen (rDn n top bot) W.drew M _ p n top bot hh _ s.sb k s rows hSd hR (fun x hx => hx.dn top (by omega) hbh) (qiu M _ p n top bot hh s.sb hn1 hn2 htb hbh hh60) htb hbh hh60 (qkv k top bot htb)
 have HB : Hid (Below w.heap.size W W.drew) := b0;generalize Zy (rDn n top bot) (Vf k top bot) (s,rows) = z at *;clear hS hSd hB1 hR ht hb b0;go_enter Tryz.func198,Tryz.ntmps198;go_upto_region 0 with fail
 go_region_with (first | (go_at_call 197;refine HM.mono ?_;rintro e V ⟨rfl,h1,h2⟩;have h3 := HB.out.trans h2))
 all_goals go_wp2_with fail
 all_goals go_end0
 all_goals exact ⟨rfl,h1,h3⟩
theorem qge (F : FuncId) (hpl : Plain F) (f : Nat → Scr × List (List C) → Scr × List (List C)) (k : Int) (B1 B2 M : Nat) (w : World) (s : Scr) (rows : List (List C)) (n bot hh : Nat) (hB1 : w.cell? ⟨B1, 0, none⟩ = some (.int .i64 k)) (hB2 : w.cell? ⟨B2, 0, none⟩ = some (.func (.func F) #[] #[])) (hR : Y4 n bot hh s.sb (s, rows)) (hbh : bot < hh) (hh60 : hh ≤ 60)
  (hf : ∀ y,y ≤ bot → ∀ x,Y4 n bot hh s.sb x → Y4 n bot hh s.sb (f y x)) (hF : ∀ y,y ≤ bot → ∀ N p,qdi F M N p n y bot hh s.sb (f y)) (hy0 : 0 ≤ s.y) (hy1 : s.y ≤ 60) (hb0 : s.bot = bot) :
  Does 226 #[.pointer (some ⟨B1,0,none⟩),.pointer (some ⟨B2,0,none⟩)] M w s (if s.top ≤ s.y ∧ s.y ≤ s.bot then (Zy (f s.y.toNat) (Vf k s.y.toNat bot) ({ s with x := 0,late := false },rows)).1 else s) rows (if s.top ≤ s.y ∧ s.y ≤ s.bot then (Zy (f s.y.toNat) (Vf k s.y.toNat bot) ({ s with x := 0,late := false },rows)).2 else rows) := by
 intro W p hb hS;have q1 : ∀ V,Below w.heap.size W V → V.cell? ⟨B1,0,none⟩ = some (.int .i64 k) := fun V h => Qa (hb.trans h) hB1
 have q2 : ∀ V,Below w.heap.size W V → V.cell? ⟨B2,0,none⟩ = some (.func (.func F) #[] #[]) := fun V h => Qa (hb.trans h) hB2
 have Q1 : Hid (∀ V,Below w.heap.size W V → V.cell? ⟨B1,0,none⟩ = some (.int .i64 k)) := q1;have Q2 : Hid (∀ V,Below w.heap.size W V → V.cell? ⟨B2,0,none⟩ = some (.func (.func F) #[] #[])) := q2;have HSd : Hid (ShAt 110 W.drew M w.heap.size p s rows) := hS.drew;have HBd : Hid (Below w.heap.size W W.drew) := (qr _ _).drew;obtain ⟨c0,c1,c3,c4,c5,c9,c10,c11,c19,fz⟩ := hS.words
 by_cases hin : s.top ≤ s.y ∧ s.y ≤ s.bot
 ·rw [if_pos hin, if_pos hin]
  obtain ⟨y,hy⟩ := Int.eq_ofNat_of_zero_le hy0;have hyb : y ≤ bot := by omega
  have l1 : ¬ s.y < s.top := by omega
  have l2 : ¬ s.bot < s.y := by omega
  have HMR : Hid (∀ V,ShAt 110 V M w.heap.size p { s with x := 0,late := false } rows → Calls qP 197 #[.pointer (some ⟨p,0,none⟩),.int .i64 s.y,.int .i64 k,.func (.func F) #[] #[]] V fun e W' => e = .returned (.tuple #[]) ∧ ShAt 110 W' M w.heap.size p (Zy (f s.y.toNat) (Vf k s.y.toNat bot) ({ s with x := 0,late := false },rows)).1 (Zy (f s.y.toNat) (Vf k s.y.toNat bot) ({ s with x := 0,late := false },rows)).2 ∧ Below w.heap.size V W') := fun V h => by
   have e : s.y.toNat = y := by omega
   rw [e];have key := Fu F hpl (f y) V M _ p n y bot hh _ s.sb k _ rows h ⟨hR.w,hR.b,rfl,hR.r,hR.g⟩ (hf y hyb) (hF y hyb _ p) hyb hbh hh60 (qkv k y bot hyb);have e2 : ((y : Nat) : Int) = s.y := by omega
   rw [e2] at key;exact key
  generalize (Zy (f s.y.toNat) (Vf k s.y.toNat bot) ({ s with x := 0,late := false },rows)) = z at *
  clear hS hB1 hB2 hR hf hF hin hb q1 q2 hy hb0 c0 c1 c11 c19 fz;go_enter Tryz.func226,Tryz.ntmps226;go_upto_region 0 with fail
  go_region;clear c3 c4 c5 c9 c10;generalize W.drew = X at *;obtain ⟨-,-,d3,d4,d5,-,-,-,-,df⟩ := HSd.out.words;have g3 := df 3;have g5 := df 5;have k1 : ShAt 110 (X.setCell ⟨p,3,none⟩ (.int .i64 0)) M w.heap.size p { s with x := 0 } rows := HSd.out.set Qp 3 _ (fun _ _ _ _ => rfl) rfl rfl
  have k2 : ShAt 110 ((X.setCell ⟨p,3,none⟩ (.int .i64 0)).setCell ⟨p,5,none⟩ (.bool false)) M w.heap.size p { s with x := 0,late := false } rows := k1.set Qp 5 _ (fun _ _ _ _ => rfl) rfl rfl
  have HK2 : Hid (ShAt 110 ((X.setCell ⟨p,3,none⟩ (.int .i64 0)).setCell ⟨p,5,none⟩ (.bool false)) M w.heap.size p { s with x := 0,late := false } rows) := k2
  have HB2 : Hid (Below w.heap.size W ((X.setCell ⟨p,3,none⟩ (.int .i64 0)).setCell ⟨p,5,none⟩ (.bool false))) := (HBd.out.setCell HSd.out.lo _).setCell HSd.out.lo _;clear k1 k2 df HSd HBd;go_upto_region 2 with fail
  clear d3 d4 d5 g3 g5;generalize ((X.setCell ⟨p,3,none⟩ (.int .i64 0)).setCell ⟨p,5,none⟩ (.bool false)) = Y at *;have HKd : Hid (ShAt 110 Y.drew M w.heap.size p { s with x := 0,late := false } rows) := HK2.out.drew
  have HBe : Hid (Below w.heap.size W Y.drew) := HB2.out.drew;obtain ⟨-,-,-,d4,-,-,-,-,-,-⟩ := HKd.out.words;replace d4 : Y.drew.cell? ⟨p,4,none⟩ = some (.int .i64 s.y) := d4;have r1 := Q1.out _ HBe.out;have r2 := Q2.out _ HBe.out;have HM2 := HMR.out _ HKd.out;clear HMR HKd HK2;go_region_with (first | (go_at_call 197;refine HM2.mono ?_;rintro e V ⟨rfl,h1,h2⟩;have h3 := HBe.out.trans h2))
  all_goals go_wp2_with fail
  all_goals go_end0
  all_goals exact ⟨rfl,h1,h3⟩
 ·rw [if_neg hin, if_neg hin]
  clear hS hB1 hB2 hR hf hF hb q1 q2 Q1 Q2 hb0 c0 c1 c3 c5 c11 c19 fz
  by_cases l1 : s.y < s.top
  ·clear hin
   go_enter Tryz.func226,Tryz.ntmps226;go_upto_region 0 with fail
   go_region
   all_goals go_wp2_with fail
   all_goals (try simp only [qv,qw])
   all_goals exact qk (v := .tuple #[]) (results_none rfl _ _ _) rfl ⟨rfl,HSd.out,HBd.out⟩
  ·have l2 : s.bot < s.y := by omega
   clear hin;go_enter Tryz.func226,Tryz.ntmps226;go_upto_region 0 with fail
   go_region
   all_goals go_wp2_with fail
   all_goals (try simp only [qv,qw])
   all_goals exact qk (v := .tuple #[]) (results_none rfl _ _ _) rfl ⟨rfl,HSd.out,HBd.out⟩
structure Xb (s : Scr) (n hh : Nat) (x : Scr × List (List C)) : Prop where
 w : x.1.w = s.w
 h : x.1.h = s.h
 t : x.1.tabs = s.tabs
 g : x.1.gone.length ≤ 50
 gr : ∀ r,r ∈ x.1.gone → r.length ≤ 120
 r : x.2.length = hh
 rn : ∀ i,i < x.2.length → (x.2.getD i []).length = n
theorem Xb.up {s : Scr} {n hh : Nat} {x : Scr × List (List C)} (h : Xb s n hh x) (hn : n ≤ 120) (top bot : Nat) (keep : Bool) (ht : top < hh) (hb : bot < hh) : Xb s n hh (rUp n top bot keep x) := by
 have hr := h.r;have e1 : (Zq x.2 n x.1.sb top bot).length = hh := by rw [Xm _ _ _ _ _ (by omega) (by omega),hr]
 have e2 : ∀ i,i < (Zq x.2 n x.1.sb top bot).length → ((Zq x.2 n x.1.sb top bot).getD i []).length = n := fun i hi => qbc _ _ _ _ _ (by omega) (by omega) h.rn i (by omega)
 unfold rUp;split
 ·refine ⟨h.w, h.h, h.t, Uv _ _ h.g, fun r hm => ?_, e1, e2⟩
  rcases qbg hm with q | q
  ·exact h.gr r q
  ·rw [q, h.rn 0 (by omega)]
   exact hn
 ·exact ⟨h.w,h.h,h.t,h.g,h.gr,e1,e2⟩
theorem Xb.dn {s : Scr} {n hh : Nat} {x : Scr × List (List C)} (h : Xb s n hh x) (top bot : Nat) (ht : top < hh) (hb : bot < hh) : Xb s n hh (rDn n top bot x) := by
 have hr := h.r;exact ⟨h.w,h.h,h.t,h.g,h.gr,by show (Zq x.2 n x.1.sb bot top).length = hh;rw [Xm _ _ _ _ _ (by omega) (by omega),hr],fun i hi => qbc _ _ _ _ _ (by omega) (by omega) h.rn i (by have : (Zq x.2 n x.1.sb bot top).length = x.2.length := Xm _ _ _ _ _ (by omega) (by omega);have hi : i < (Zq x.2 n x.1.sb bot top).length := hi;omega)⟩
theorem Xb.iter {s : Scr} {n hh : Nat} {f : Scr × List (List C) → Scr × List (List C)} (hf : ∀ x, Xb s n hh x → Xb s n hh (f x)) (x : Scr × List (List C)) (h : Xb s n hh x) : ∀ j, Xb s n hh (Zy f j x)
 | 0 => h
 | j + 1 => hf _ (Xb.iter hf x h j)
theorem Xb.start {s s1 : Scr} {n hh : Nat} (hR : Qg s n hh) (hw : s1.w = s.w) (hh' : s1.h = s.h) (ht : s1.tabs = s.tabs) (hg : s1.gone = s.gone) : Xb s n hh (s1, Qe n s.cs hh) :=
 ⟨hw,hh',ht,by show s1.gone.length ≤ 50;rw [hg];exact hR.gl,by show ∀ r,r ∈ s1.gone → r.length ≤ 120;rw [hg];exact qfy hR,Grd.Qt _ _ _,Gn hR⟩
theorem Xb.ok {s : Scr} {n hh : Nat} {x : Scr × List (List C)} (h : Xb s n hh x) (hR : Qg s n hh) : V6 x.1 x.2 := F8 hR _ _ h.r h.rn (by have := h.g;omega) (qke h.gr)
theorem qca {s : Scr} {n hh bot : Nat} (hR : Qg s n hh) (hb : s.bot = bot) : Y4 n bot hh s.sb (s,Qe n s.cs hh) := ⟨hR.w,hb,rfl,Grd.Qt _ _ _,hR.gl⟩
theorem qpw : Plain 196 := by
 intro args W
 kernel_rfl
theorem q0j {w0 w : World} {s : Scr} {cv tv gv : Value} {n hh : Nat} (h : Met w0 w s cv tv gv) (hR : Qg s n hh) (top bot : Nat) (ht : s.top = top) (hb : s.bot = bot) (k : Int) : Calls qP 152 #[.agg (scrA s cv tv gv),.int .i64 k] w (Made w0 w { (Zy (rUp n top bot true) (Vf k top bot) (s,Qe n s.cs hh)).1 with cs := (Zy (rUp n top bot true) (Vf k top bot) (s,Qe n s.cs hh)).2.flatten } 0) := by
 have n1 := hR.n1;have n2 := hR.n2;have h2 := hR.h2;have t1 := hR.t1;have t2 := hR.t2;have hK := Xb.iter (f := rUp n top bot true) (fun x hx => hx.up hR.n2 top bot true (by omega) (by omega)) (s,Qe n s.cs hh) (Xb.start hR rfl rfl rfl rfl) (Vf k top bot)
 exact qih s _ cv tv gv k 0 w0 w h.v h.b.size fun _ B hW hB => K7 (h.next hW) hR _ qpw _ _ _ (fun w1 hw1 => qxb k B _ w1 s _ n top bot hh (Qa hw1 hB) (qca hR hb) ht n1 n2 (by omega) (by omega) h2) (hK.ok hR) rfl
theorem qjn : Plain 198 := by
 intro args W
 kernel_rfl
theorem qvl {w0 w : World} {s : Scr} {cv tv gv : Value} {n hh : Nat} (h : Met w0 w s cv tv gv) (hR : Qg s n hh) (top bot : Nat) (ht : s.top = top) (hb : s.bot = bot) (k : Int) : Calls qP 153 #[.agg (scrA s cv tv gv),.int .i64 k] w (Made w0 w { (Zy (rDn n top bot) (Vf k top bot) (s,Qe n s.cs hh)).1 with cs := (Zy (rDn n top bot) (Vf k top bot) (s,Qe n s.cs hh)).2.flatten } 0) := by
 have n1 := hR.n1;have n2 := hR.n2;have h2 := hR.h2;have t1 := hR.t1;have t2 := hR.t2;have hK := Xb.iter (f := rDn n top bot) (fun x hx => hx.dn top bot (by omega) (by omega)) (s,Qe n s.cs hh) (Xb.start hR rfl rfl rfl rfl) (Vf k top bot)
 exact qe0 s _ cv tv gv k 0 w0 w h.v h.b.size fun _ B hW hB => K7 (h.next hW) hR _ qjn _ _ _ (fun w1 hw1 => qql k B _ w1 s _ n top bot hh (Qa hw1 hB) (qca hR hb) ht n1 n2 (by omega) (by omega) h2) (hK.ok hR) rfl
end Put
namespace Put
open Grd (C)
theorem qiy {W : World} {R : Nat} {v : Value} {t : TypeId} (h : W.heap[R]? = some (.cells #[v] t (0,0))) : W.cell? ⟨R,0,none⟩ = some v := by simp [World.cell?,h]
theorem qeq (s s' : Scr) (cv tv gv : Value) (n : Int) (tf : FuncId) (er : Int) (w0 w : World) (hV : Zh w0 s cv tv gv) (hM : w0.heap.size ≤ w.heap.size)
  (hC : ∀ (W : World) (B1 B2 : Nat),Below w.heap.size w W → W.cell? ⟨B1,0,none⟩ = some (.int .i64 n) → W.cell? ⟨B2,0,none⟩ = some (.func (.func tf) #[] #[]) → Calls qP 130 #[.agg (scrA s cv tv gv),.func (.func 226) #[] #[.pointer (some ⟨B1,0,none⟩),.pointer (some ⟨B2,0,none⟩)]] W (Made w0 W s' er)) :
  Calls qP 193 #[.agg (scrA s cv tv gv),.int .i64 n,.func (.func tf) #[] #[]] w (Made w0 w s' er) := by
 obtain ⟨ca,cc,rfl⟩ := hV.c.shape;obtain ⟨ta,tc,rfl⟩ := hV.t.slice;obtain ⟨ga,gc,rfl⟩ := hV.g.slice;have hkb : Below w.heap.size w ((((w.alloc (.cells (scS s ca cc ta tc ga gc) 32)).alloc (.cells #[.int .i64 n] 3)).alloc (.cells #[.func (.func tf) #[] #[]] 179)).alloc (.cells zA 32)) := (((((qr _ _).alloc (by simp) _).alloc (by simp) _).alloc (by simp;omega) _).alloc (by simp;omega) _)
 have hx0 : (w.alloc (.cells (scS s ca cc ta tc ga gc) 32)).heap[w.heap.size]? = some (.cells (scS s ca cc ta tc ga gc) 32 (0,0)) := by
  have h := qf w (.cells (scS s ca cc ta tc ga gc) 32);have e : w.heap.size = w.heap.size := by simp
  rw [e] at h;exact h
 have hx0 := (qs (w.alloc (.cells (scS s ca cc ta tc ga gc) 32)) (.cells #[.int .i64 n] 3) _ (Qc hx0)).trans hx0;have hx0 := (qs ((w.alloc (.cells (scS s ca cc ta tc ga gc) 32)).alloc (.cells #[.int .i64 n] 3)) (.cells #[.func (.func tf) #[] #[]] 179) _ (Qc hx0)).trans hx0;have hx0 := (qs (((w.alloc (.cells (scS s ca cc ta tc ga gc) 32)).alloc (.cells #[.int .i64 n] 3)).alloc (.cells #[.func (.func tf) #[] #[]] 179)) (.cells zA 32) _ (Qc hx0)).trans hx0;have hx1 : ((w.alloc (.cells (scS s ca cc ta tc ga gc) 32)).alloc (.cells #[.int .i64 n] 3)).heap[w.heap.size + 1]? = some (.cells #[.int .i64 n] 3 (0,0)) := by
  have h := qf (w.alloc (.cells (scS s ca cc ta tc ga gc) 32)) (.cells #[.int .i64 n] 3);have e : (w.alloc (.cells (scS s ca cc ta tc ga gc) 32)).heap.size = w.heap.size + 1 := by simp
  rw [e] at h;exact h
 have hx1 := (qs ((w.alloc (.cells (scS s ca cc ta tc ga gc) 32)).alloc (.cells #[.int .i64 n] 3)) (.cells #[.func (.func tf) #[] #[]] 179) _ (Qc hx1)).trans hx1;have hx1 := (qs (((w.alloc (.cells (scS s ca cc ta tc ga gc) 32)).alloc (.cells #[.int .i64 n] 3)).alloc (.cells #[.func (.func tf) #[] #[]] 179)) (.cells zA 32) _ (Qc hx1)).trans hx1;have hx2 : (((w.alloc (.cells (scS s ca cc ta tc ga gc) 32)).alloc (.cells #[.int .i64 n] 3)).alloc (.cells #[.func (.func tf) #[] #[]] 179)).heap[w.heap.size + 2]? = some (.cells #[.func (.func tf) #[] #[]] 179 (0,0)) := by
  have h := qf ((w.alloc (.cells (scS s ca cc ta tc ga gc) 32)).alloc (.cells #[.int .i64 n] 3)) (.cells #[.func (.func tf) #[] #[]] 179);have e : ((w.alloc (.cells (scS s ca cc ta tc ga gc) 32)).alloc (.cells #[.int .i64 n] 3)).heap.size = w.heap.size + 2 := by simp
  rw [e] at h;exact h
 have hx2 := (qs (((w.alloc (.cells (scS s ca cc ta tc ga gc) 32)).alloc (.cells #[.int .i64 n] 3)).alloc (.cells #[.func (.func tf) #[] #[]] 179)) (.cells zA 32) _ (Qc hx2)).trans hx2;have hx3 : ((((w.alloc (.cells (scS s ca cc ta tc ga gc) 32)).alloc (.cells #[.int .i64 n] 3)).alloc (.cells #[.func (.func tf) #[] #[]] 179)).alloc (.cells zA 32)).heap[w.heap.size + 3]? = some (.cells zA 32 (0,0)) := by
  have h := qf (((w.alloc (.cells (scS s ca cc ta tc ga gc) 32)).alloc (.cells #[.int .i64 n] 3)).alloc (.cells #[.func (.func tf) #[] #[]] 179)) (.cells zA 32);have e : (((w.alloc (.cells (scS s ca cc ta tc ga gc) 32)).alloc (.cells #[.int .i64 n] 3)).alloc (.cells #[.func (.func tf) #[] #[]] 179)).heap.size = w.heap.size + 3 := by simp
  rw [e] at h;exact h
 have HX0 : Hid _ := hx0;have HXR : Hid _ := hx3;have HKB : Hid _ := hkb;have HC := hC _ (w.heap.size + 1) (w.heap.size + 2) hkb (qiy hx1) (qiy hx2);have hsz : w.heap.size ≤ ((((w.alloc (.cells (scS s ca cc ta tc ga gc) 32)).alloc (.cells #[.int .i64 n] 3)).alloc (.cells #[.func (.func tf) #[] #[]] 179)).alloc (.cells zA 32)).heap.size := hkb.size;clear hkb hV hC hx0 hx1 hx2 hx3;go_enter Tryz.func193,Tryz.ntmps193;go_upto_region 1 with fail
 generalize ((((w.alloc (.cells (scS s ca cc ta tc ga gc) 32)).alloc (.cells #[.int .i64 n] 3)).alloc (.cells #[.func (.func tf) #[] #[]] 179)).alloc (.cells zA 32)) = X at *;go_wp2_with (refine wpList_load_row rfl 32 (.tmp 3) rfl w.heap.size rfl _ _ _ _ HX0.out qu rfl (by kernel_rfl) ?_)
 refine HC.mono ?_;rintro e V ⟨cv',tv',gv',rfl,hO,c2⟩;obtain ⟨a1,n1,c1,a2,n2,c2',a3,n3,c3,rfl,rfl,rfl⟩ := hO.shapes;have HO : Hid (Qo V 0 _ s' _ _ _) := hO;have HR : Hid (V.heap[w.heap.size + 3]? = _) := Grd.carry HXR.out c2;have HB : Hid (Below w.heap.size w V) := HKB.out.trans (c2.mono HKB.out.size);clear hO c2 HC;go_wp2_with (refine wpList_store_row rfl 32 (.tmp 6) (.tmp 11) rfl (w.heap.size + 3) (scT s' a1 n1 c1 a2 n2 c2' a3 n3 c3) rfl rfl _ _ HR.out (by kernel_rfl) rfl (Qm _ _ _ _ _ _ _ _ _ _) ?_)
 (try simp only [qv,qw])
 refine qk (v := .tuple #[.agg (scT s' a1 n1 c1 a2 n2 c2' a3 n3 c3),.int .i64 er]) ?_ rfl ⟨_,_,_,rfl,?_,below_setRow HB.out (by omega) _⟩
 ·exact Grd.Qd rfl _ _ (w.heap.size + 3) _ _ _ _ rfl (setRow_heap _ _ _ _ _ _ HR.out) qu rfl (by kernel_rfl) _ rfl
 ·exact (Qo.off HO.out HR.out Ql (by omega) fun k hk => setRow_other _ _ _ _ hk).mono hsz
theorem qrm (s s' : Scr) (cv tv gv : Value) (k : Int) (er : Int) (w0 w : World) (hV : Zh w0 s cv tv gv) (hM : w0.heap.size ≤ w.heap.size)
  (hC : ∀ W,Below w.heap.size w W → Calls qP 193 #[.agg (scrA s cv tv gv),.int .i64 k,.func (.func 138) #[] #[]] W (Made w0 W s' er)) :
  Calls qP 149 #[.agg (scrA s cv tv gv),.int .i64 k] w (Made w0 w s' er) := by
 obtain ⟨ca,cc,rfl⟩ := hV.c.shape;obtain ⟨ta,tc,rfl⟩ := hV.t.slice;obtain ⟨ga,gc,rfl⟩ := hV.g.slice;have hkb : Below w.heap.size w ((w.alloc (.cells (scS s ca cc ta tc ga gc) 32)).alloc (.cells zA 32)) := (((qr _ _).alloc (by simp) _).alloc (by simp) _)
 have hx0 : (w.alloc (.cells (scS s ca cc ta tc ga gc) 32)).heap[w.heap.size]? = some (.cells (scS s ca cc ta tc ga gc) 32 (0,0)) := by
  have h := qf w (.cells (scS s ca cc ta tc ga gc) 32);have e : w.heap.size = w.heap.size := by simp
  rw [e] at h;exact h
 have hx0 := (qs (w.alloc (.cells (scS s ca cc ta tc ga gc) 32)) (.cells zA 32) _ (Qc hx0)).trans hx0;have hx1 : ((w.alloc (.cells (scS s ca cc ta tc ga gc) 32)).alloc (.cells zA 32)).heap[w.heap.size + 1]? = some (.cells zA 32 (0,0)) := by
  have h := qf (w.alloc (.cells (scS s ca cc ta tc ga gc) 32)) (.cells zA 32);have e : (w.alloc (.cells (scS s ca cc ta tc ga gc) 32)).heap.size = w.heap.size + 1 := by simp
  rw [e] at h;exact h
 have HX0 : Hid _ := hx0;have HXR : Hid _ := hx1;have HKB : Hid _ := hkb;have HC := hC _ hkb;have hsz : w.heap.size ≤ ((w.alloc (.cells (scS s ca cc ta tc ga gc) 32)).alloc (.cells zA 32)).heap.size := hkb.size;clear hkb hV hC hx0 hx1;go_enter Tryz.func149,Tryz.ntmps149;go_upto_region 1 with fail
 generalize ((w.alloc (.cells (scS s ca cc ta tc ga gc) 32)).alloc (.cells zA 32)) = X at *;go_wp2_with (refine wpList_load_row rfl 32 (.tmp 2) rfl w.heap.size rfl _ _ _ _ HX0.out qu rfl (by kernel_rfl) ?_)
 refine HC.mono ?_;rintro e V ⟨cv',tv',gv',rfl,hO,c2⟩;obtain ⟨a1,n1,c1,a2,n2,c2',a3,n3,c3,rfl,rfl,rfl⟩ := hO.shapes;have HO : Hid (Qo V 0 _ s' _ _ _) := hO;have HR : Hid (V.heap[w.heap.size + 1]? = _) := Grd.carry HXR.out c2;have HB : Hid (Below w.heap.size w V) := HKB.out.trans (c2.mono HKB.out.size);clear hO c2 HC;go_wp2_with (refine wpList_store_row rfl 32 (.tmp 4) (.tmp 9) rfl (w.heap.size + 1) (scT s' a1 n1 c1 a2 n2 c2' a3 n3 c3) rfl rfl _ _ HR.out (by kernel_rfl) rfl (Qm _ _ _ _ _ _ _ _ _ _) ?_)
 (try simp only [qv,qw])
 refine qk (v := .tuple #[.agg (scT s' a1 n1 c1 a2 n2 c2' a3 n3 c3),.int .i64 er]) ?_ rfl ⟨_,_,_,rfl,?_,below_setRow HB.out (by omega) _⟩
 ·exact Grd.Qd rfl _ _ (w.heap.size + 1) _ _ _ _ rfl (setRow_heap _ _ _ _ _ _ HR.out) qu rfl (by kernel_rfl) _ rfl
 ·exact (Qo.off HO.out HR.out Ql (by omega) fun k hk => setRow_other _ _ _ _ hk).mono hsz
theorem qrj (s s' : Scr) (cv tv gv : Value) (k : Int) (er : Int) (w0 w : World) (hV : Zh w0 s cv tv gv) (hM : w0.heap.size ≤ w.heap.size)
  (hC : ∀ W,Below w.heap.size w W → Calls qP 193 #[.agg (scrA s cv tv gv),.int .i64 k,.func (.func 173) #[] #[]] W (Made w0 W s' er)) :
  Calls qP 150 #[.agg (scrA s cv tv gv),.int .i64 k] w (Made w0 w s' er) := by
 obtain ⟨ca,cc,rfl⟩ := hV.c.shape;obtain ⟨ta,tc,rfl⟩ := hV.t.slice;obtain ⟨ga,gc,rfl⟩ := hV.g.slice;have hkb : Below w.heap.size w ((w.alloc (.cells (scS s ca cc ta tc ga gc) 32)).alloc (.cells zA 32)) := (((qr _ _).alloc (by simp) _).alloc (by simp) _)
 have hx0 : (w.alloc (.cells (scS s ca cc ta tc ga gc) 32)).heap[w.heap.size]? = some (.cells (scS s ca cc ta tc ga gc) 32 (0,0)) := by
  have h := qf w (.cells (scS s ca cc ta tc ga gc) 32);have e : w.heap.size = w.heap.size := by simp
  rw [e] at h;exact h
 have hx0 := (qs (w.alloc (.cells (scS s ca cc ta tc ga gc) 32)) (.cells zA 32) _ (Qc hx0)).trans hx0;have hx1 : ((w.alloc (.cells (scS s ca cc ta tc ga gc) 32)).alloc (.cells zA 32)).heap[w.heap.size + 1]? = some (.cells zA 32 (0,0)) := by
  have h := qf (w.alloc (.cells (scS s ca cc ta tc ga gc) 32)) (.cells zA 32);have e : (w.alloc (.cells (scS s ca cc ta tc ga gc) 32)).heap.size = w.heap.size + 1 := by simp
  rw [e] at h;exact h
 have HX0 : Hid _ := hx0;have HXR : Hid _ := hx1;have HKB : Hid _ := hkb;have HC := hC _ hkb;have hsz : w.heap.size ≤ ((w.alloc (.cells (scS s ca cc ta tc ga gc) 32)).alloc (.cells zA 32)).heap.size := hkb.size;clear hkb hV hC hx0 hx1;go_enter Tryz.func150,Tryz.ntmps150;go_upto_region 1 with fail
 generalize ((w.alloc (.cells (scS s ca cc ta tc ga gc) 32)).alloc (.cells zA 32)) = X at *;go_wp2_with (refine wpList_load_row rfl 32 (.tmp 2) rfl w.heap.size rfl _ _ _ _ HX0.out qu rfl (by kernel_rfl) ?_)
 refine HC.mono ?_;rintro e V ⟨cv',tv',gv',rfl,hO,c2⟩;obtain ⟨a1,n1,c1,a2,n2,c2',a3,n3,c3,rfl,rfl,rfl⟩ := hO.shapes;have HO : Hid (Qo V 0 _ s' _ _ _) := hO;have HR : Hid (V.heap[w.heap.size + 1]? = _) := Grd.carry HXR.out c2;have HB : Hid (Below w.heap.size w V) := HKB.out.trans (c2.mono HKB.out.size);clear hO c2 HC;go_wp2_with (refine wpList_store_row rfl 32 (.tmp 4) (.tmp 9) rfl (w.heap.size + 1) (scT s' a1 n1 c1 a2 n2 c2' a3 n3 c3) rfl rfl _ _ HR.out (by kernel_rfl) rfl (Qm _ _ _ _ _ _ _ _ _ _) ?_)
 (try simp only [qv,qw])
 refine qk (v := .tuple #[.agg (scT s' a1 n1 c1 a2 n2 c2' a3 n3 c3),.int .i64 er]) ?_ rfl ⟨_,_,_,rfl,?_,below_setRow HB.out (by omega) _⟩
 ·exact Grd.Qd rfl _ _ (w.heap.size + 1) _ _ _ _ rfl (setRow_heap _ _ _ _ _ _ HR.out) qu rfl (by kernel_rfl) _ rfl
 ·exact (Qo.off HO.out HR.out Ql (by omega) fun k hk => setRow_other _ _ _ _ hk).mono hsz
end Put
namespace Put
open Grd (C SliceAt Qb Qf z0 Q0 flat Qe)
theorem qep : Plain 226 := by
 intro args W
 kernel_rfl
def insZ (s : Scr) (k : Int) (n hh bot : Nat) : Scr × List (List C) := (if s.top ≤ s.y ∧ s.y ≤ s.bot then Zy (rDn n s.y.toNat bot) (Vf k s.y.toNat bot) ({ s with x := 0,late := false },Qe n s.cs hh) else (s,Qe n s.cs hh))
theorem qr2 (s : Scr) (k : Int) (n hh bot : Nat) : (insZ s k n hh bot).1 = (if s.top ≤ s.y ∧ s.y ≤ s.bot then (Zy (rDn n s.y.toNat bot) (Vf k s.y.toNat bot) ({ s with x := 0,late := false },Qe n s.cs hh)).1 else s) ∧ (insZ s k n hh bot).2 = (if s.top ≤ s.y ∧ s.y ≤ s.bot then (Zy (rDn n s.y.toNat bot) (Vf k s.y.toNat bot) ({ s with x := 0,late := false },Qe n s.cs hh)).2 else Qe n s.cs hh) := by
 unfold insZ;split <;> exact ⟨rfl,rfl⟩
theorem qrl {s : Scr} {n hh : Nat} (hR : Qg s n hh) (k : Int) (bot : Nat) (hb : s.bot = bot) : Xb s n hh (insZ s k n hh bot) := by
 have t2 := hR.t2;have y0 := hR.y0;have y1 := hR.y1;unfold insZ;split
 ·exact Xb.iter (f := rDn n s.y.toNat bot) (fun x hx => hx.dn s.y.toNat bot (by omega) (by omega)) ({ s with x := 0,late := false },Qe n s.cs hh) (Xb.start hR rfl rfl rfl rfl) _
 ·exact Xb.start hR rfl rfl rfl rfl
theorem q0b {w0 w : World} {s : Scr} {cv tv gv : Value} {n hh : Nat} (h : Met w0 w s cv tv gv) (hR : Qg s n hh) (bot : Nat) (hb : s.bot = bot) (k : Int) : Calls qP 149 #[.agg (scrA s cv tv gv),.int .i64 k] w (Made w0 w { (insZ s k n hh bot).1 with cs := (insZ s k n hh bot).2.flatten } 0) := by
 have n1 := hR.n1;have n2 := hR.n2;have h2 := hR.h2;have t2 := hR.t2;have y0 := hR.y0;have y1 := hR.y1;have hbh : bot < hh := by omega
 have hK := qrl hR k bot hb;refine qrm s _ cv tv gv k 0 w0 w h.v h.b.size fun W hW => ?_
 refine qeq s _ cv tv gv k _ 0 w0 W h.v (Nat.le_trans h.b.size hW.size) fun V B1 B2 hV hB1 hB2 => ?_
 refine K7 ((h.next hW).next hV) hR _ qep _ _ _ (fun w1 hw1 => ?_) (hK.ok hR) rfl
 rw [(qr2 s k n hh bot).1,(qr2 s k n hh bot).2];exact qge _ qen (fun y => rDn n y bot) k B1 B2 _ w1 s _ n bot hh (Qa hw1 hB1) (Qa hw1 hB2) (qca hR hb) hbh h2 (fun y hy x hx => hx.dn y (by omega) hbh) (fun y hy N p => qiu _ N p n y bot hh s.sb n1 n2 hy hbh h2) y0 (by omega) hb
def delZ (s : Scr) (k : Int) (n hh bot : Nat) : Scr × List (List C) := (if s.top ≤ s.y ∧ s.y ≤ s.bot then Zy (rUp n s.y.toNat bot false) (Vf k s.y.toNat bot) ({ s with x := 0,late := false },Qe n s.cs hh) else (s,Qe n s.cs hh))
theorem qsu (s : Scr) (k : Int) (n hh bot : Nat) : (delZ s k n hh bot).1 = (if s.top ≤ s.y ∧ s.y ≤ s.bot then (Zy (rUp n s.y.toNat bot false) (Vf k s.y.toNat bot) ({ s with x := 0,late := false },Qe n s.cs hh)).1 else s) ∧ (delZ s k n hh bot).2 = (if s.top ≤ s.y ∧ s.y ≤ s.bot then (Zy (rUp n s.y.toNat bot false) (Vf k s.y.toNat bot) ({ s with x := 0,late := false },Qe n s.cs hh)).2 else Qe n s.cs hh) := by
 unfold delZ;split <;> exact ⟨rfl,rfl⟩
theorem qom {s : Scr} {n hh : Nat} (hR : Qg s n hh) (k : Int) (bot : Nat) (hb : s.bot = bot) : Xb s n hh (delZ s k n hh bot) := by
 have t2 := hR.t2;have y0 := hR.y0;have y1 := hR.y1;unfold delZ;split
 ·exact Xb.iter (f := rUp n s.y.toNat bot false) (fun x hx => hx.up hR.n2 s.y.toNat bot false (by omega) (by omega)) ({ s with x := 0,late := false },Qe n s.cs hh) (Xb.start hR rfl rfl rfl rfl) _
 ·exact Xb.start hR rfl rfl rfl rfl
theorem qzi {w0 w : World} {s : Scr} {cv tv gv : Value} {n hh : Nat} (h : Met w0 w s cv tv gv) (hR : Qg s n hh) (bot : Nat) (hb : s.bot = bot) (k : Int) : Calls qP 150 #[.agg (scrA s cv tv gv),.int .i64 k] w (Made w0 w { (delZ s k n hh bot).1 with cs := (delZ s k n hh bot).2.flatten } 0) := by
 have n1 := hR.n1;have n2 := hR.n2;have h2 := hR.h2;have t2 := hR.t2;have y0 := hR.y0;have y1 := hR.y1;have hbh : bot < hh := by omega
 have hK := qom hR k bot hb;refine qrj s _ cv tv gv k 0 w0 w h.v h.b.size fun W hW => ?_
 refine qeq s _ cv tv gv k _ 0 w0 W h.v (Nat.le_trans h.b.size hW.size) fun V B1 B2 hV hB1 hB2 => ?_
 refine K7 ((h.next hW).next hV) hR _ qep _ _ _ (fun w1 hw1 => ?_) (hK.ok hR) rfl
 rw [(qsu s k n hh bot).1,(qsu s k n hh bot).2];exact qge _ qpp (fun y => rUp n y bot false) k B1 B2 _ w1 s _ n bot hh (Qa hw1 hB1) (Qa hw1 hB2) (qca hR hb) hbh h2 (fun y hy x hx => hx.up y false (by omega) hbh) (fun y hy N p => qta _ N p n y bot hh s.sb n1 n2 hy hbh h2) y0 (by omega) hb
end Put
namespace Put
open Grd (C SliceAt Qb Qf z0 Q0 flat Qe Js Y5)
def Gs (row : List C) (x n : Nat) (bk : Int) : List C := row.take x ++ (qe n (32,0,bk,0) ++ (row.drop x).take (row.length - n - x))
theorem Uy (row : List C) (x n : Nat) (bk : Int) (h : x + n ≤ row.length) : (Gs row x n bk).length = row.length := by
 unfold Gs;rw [List.length_append,List.length_append,List.length_replicate,List.length_take,List.length_take,List.length_drop];omega
theorem qxg (W : World) (p Bp Bn rb ro c x n : Nat) (bk : Int) (row : List C) (hp : W.cell? ⟨Bp, 0, none⟩ = some (.pointer (some ⟨p, 0, none⟩))) (hn : W.cell? ⟨Bn, 0, none⟩ = some (.int .i64 (n : Int))) (hx : W.cell? ⟨p, 3, none⟩ = some (.int .i64 (x : Int))) (h7 : W.cell? ⟨p, 7, none⟩ = some (.int .i64 bk)) (hC : Qb W rb ro row) (hc : row.length ≤ c) (hn1 : 1 ≤ n) (hxn : x + n ≤ row.length) (hl : row.length ≤ 120) :
  Calls qP 114 #[.slice (some ⟨rb,ro,none⟩) row.length c,.pointer (some ⟨Bp,0,none⟩),.pointer (some ⟨Bn,0,none⟩)] W fun e W' => ∃ v',e = .returned v' ∧ W'.ownsRow W.heap.size 56 4 v' row.length (flat (Gs row x n bk)) ∧ Below W.heap.size W W' := by
 have SK : Hid (∀ V,Below W.heap.size W V → V.cell? ⟨Bp,0,none⟩ = some (.pointer (some ⟨p,0,none⟩)) ∧ V.cell? ⟨Bn,0,none⟩ = some (.int .i64 (n : Int)) ∧ V.cell? ⟨p,3,none⟩ = some (.int .i64 (x : Int))) := fun V h => ⟨Qa h hp,Qa h hn,Qa h hx⟩
 have HBL : Hid (∀ V,Below W.heap.size W V → Calls qP 115 #[.pointer (some ⟨p,0,none⟩),.int .i64 (n : Int)] V fun e W' => ∃ a c g,e = .returned (.slice a n c) ∧ V.heap.size ≤ g ∧ Js W' g (.slice a n c) (qe n (32,0,bk,0)) ∧ Below V.heap.size V W') := fun V h => G5 p n bk V (Qa h h7) hn1 (by omega)
 have HCC : Hid (Qb W rb ro row) := hC;obtain ⟨L,hL⟩ : ∃ L,L = row.length := ⟨_,rfl⟩;obtain ⟨k,hk⟩ : ∃ k,k = L - n - x := ⟨_,rfl⟩;obtain ⟨m,hm⟩ : ∃ m,m = x + k := ⟨_,rfl⟩;have hwr : IntKind.i64.wrap ((L : Int) - (n : Int)) = (m : Int) := by
  rw [Zl _ (by omega) (by omega)]
  omega
 have HLR : Hid (row.length = L) := hL.symm;have HIR : Hid (Gs row x n bk = row.take x ++ (qe n (32,0,bk,0) ++ (row.drop x).take k)) := by
  unfold Hid Gs;rw [← hL,← hk]
 have HCN : Hid (∀ (V : World) (a : Option Addr) (vc g : Nat),Below W.heap.size W V → Js V g (.slice a n vc) (qe n (32,0,bk,0)) → Calls qP 110 #[.slice (some ⟨V.heap.size,0,none⟩) 3 3] (V.alloc (.cells #[.slice (some ⟨rb,ro,none⟩) x c,.slice a n vc,.slice (some ⟨rb,ro + x * 4,none⟩) k (c - x)] 22)) fun e w' => ∃ v',e = .returned v' ∧ w'.ownsRow (V.alloc (.cells #[.slice (some ⟨rb,ro,none⟩) x c,.slice a n vc,.slice (some ⟨rb,ro + x * 4,none⟩) k (c - x)] 22)).heap.size 56 4 v' L (flat (Gs row x n bk)) ∧ Below (V.alloc (.cells #[.slice (some ⟨rb,ro,none⟩) x c,.slice a n vc,.slice (some ⟨rb,ro + x * 4,none⟩) k (c - x)] 22)).heap.size (V.alloc (.cells #[.slice (some ⟨rb,ro,none⟩) x c,.slice a n vc,.slice (some ⟨rb,ro + x * 4,none⟩) k (c - x)] 22)) w') := fun V a vc g hV hB => by
  have kb : Below V.heap.size V (V.alloc (.cells #[.slice (some ⟨rb,ro,none⟩) x c,.slice a n vc,.slice (some ⟨rb,ro + x * 4,none⟩) k (c - x)] 22)) := (qr _ _).alloc (qd _) _;have hnew := qf V (.cells #[.slice (some ⟨rb,ro,none⟩) x c,.slice a n vc,.slice (some ⟨rb,ro + x * 4,none⟩) k (c - x)] 22);have hCV := (HCC.out.below hV).below kb;have hC1 := hCV.part 0 x (by omega)
  have hC2 := hCV.part x k (by omega)
  have hB2 := hB.below kb;obtain ⟨bc,brest,hbv,-⟩ := hB;rw [List.length_replicate] at hbv;injection hbv with ha _ _
  have hcell : ∀ (j : Nat) (v : Value),(#[.slice (some ⟨rb,ro,none⟩) x c,.slice a n vc,.slice (some ⟨rb,ro + x * 4,none⟩) k (c - x)] : Array Value)[j]? = some v → (V.alloc (.cells #[.slice (some ⟨rb,ro,none⟩) x c,.slice a n vc,.slice (some ⟨rb,ro + x * 4,none⟩) k (c - x)] 22)).cell? ⟨V.heap.size,j,none⟩ = some v := fun j v h => by
   unfold World.cell?;rw [hnew];exact h
  have hfl : ([row.take x,qe n (32,0,bk,0),(row.drop x).take k] : List (List C)).flatten = Gs row x n bk := by
   rw [HIR.out];simp
  have hVV : ∀ j,j < ([row.take x,qe n (32,0,bk,0),(row.drop x).take k] : List (List C)).length → ∃ b' o' c',(V.alloc (.cells #[.slice (some ⟨rb,ro,none⟩) x c,.slice a n vc,.slice (some ⟨rb,ro + x * 4,none⟩) k (c - x)] 22)).cell? ⟨V.heap.size,0 + j,none⟩ = some (.slice (some ⟨b',o',none⟩) (([row.take x,qe n (32,0,bk,0),(row.drop x).take k] : List (List C)).getD j []).length c') ∧ Qb (V.alloc (.cells #[.slice (some ⟨rb,ro,none⟩) x c,.slice a n vc,.slice (some ⟨rb,ro + x * 4,none⟩) k (c - x)] 22)) b' o' (([row.take x,qe n (32,0,bk,0),(row.drop x).take k] : List (List C)).getD j []) := fun j hj => by
   have e1 : (row.take x).length = x := by rw [List.length_take];omega
   have e3 : ((row.drop x).take k).length = k := by rw [List.length_take,List.length_drop];omega
   match j,hj with
   | 0,_ =>
    refine ⟨rb,ro,c,?_,?_⟩
    ·show World.cell? _ ⟨V.heap.size, 0, none⟩ = some (.slice _ (row.take x).length c)
     rw [e1];exact hcell 0 _ rfl
    ·have h := hC1
     rw [Nat.zero_mul,Nat.add_zero,List.drop_zero] at h;exact h
   | 1,_ =>
    refine ⟨g,0,vc,?_,hB2.cells⟩
    show World.cell? _ ⟨V.heap.size,1,none⟩ = some (.slice _ (qe n ((32,0,bk,0) : C)).length vc)
    rw [List.length_replicate,← ha];exact hcell 1 _ rfl
   | 2,_ =>
    refine ⟨rb,ro + x * 4,c - x,?_,hC2⟩
    show World.cell? _ ⟨V.heap.size,2,none⟩ = some (.slice _ ((row.drop x).take k).length (c - x))
    rw [e3];exact hcell 2 _ rfl
  have := qb2 V.heap.size 0 3 [row.take x,qe n (32,0,bk,0),(row.drop x).take k] (V.alloc (.cells #[.slice (some ⟨rb,ro,none⟩) x c,.slice a n vc,.slice (some ⟨rb,ro + x * 4,none⟩) k (c - x)] 22)) hVV (Gs row x n bk) hfl (by rw [Uy _ _ _ _ hxn];omega) (by simp)
  rw [Uy _ _ _ _ hxn,HLR.out] at this;exact this
 have b0 : Below W.heap.size W W.drew := (qr _ _).drew;have hx1 : (x : Int) ≤ (c : Int) := by omega
 have hx2 : (x : Int) ≤ (m : Int) := by omega
 have hx3 : (m : Int) ≤ (c : Int) := by omega
 have hx4 : x < c := by omega
 have hx6 : (x : Int) < (c : Int) := by omega
 have hx5 : m - x = k := by omega
 rw [← hL];clear hp hn hx h7 hC hc hn1 hxn hl hL hk HCC hm;generalize Gs row x n bk = res at *;go_enter Tryz.func114,Tryz.ntmps114;go_upto_region 1 with fail
 go_region_held3 (fun w' => w'.cell? ⟨Bp, 0, none⟩ = some (.pointer (some ⟨p, 0, none⟩)) ∧ w'.cell? ⟨Bn, 0, none⟩ = some (.int .i64 (n : Int)) ∧ w'.cell? ⟨p, 3, none⟩ = some (.int .i64 (x : Int)))
  (first | exact SK.out _ q3 | exact SK.out _ q2 | exact SK.out _ q1 | exact SK.out _ b0)
  (first
   | (go_at_call 115;refine (HBL.out _ b0).mono ?_;rintro e V1 ⟨a,vc,g,rfl,hg,hB,b1⟩;have q1 : Below W.heap.size W V1 := b0.trans (b1.mono b0.size);have q2 := q1.alloc q1.size (.cells #[.slice (some ⟨rb,ro,none⟩) x c,.slice a n vc,.slice (some ⟨rb,ro + x * 4,none⟩) k (c - x)] 22);have HC1 := HCN.out V1 a vc g q1 hB)
   | (go_at_call 110;(try rw [hx5]);refine HC1.mono ?_;rintro e V2 ⟨v',rfl,hO,b2⟩;have q3 : Below W.heap.size W V2 := q2.trans (b2.mono q2.size);have HFI : Hid _ := And.intro (Grd.Q4 hO q2.size) q3;obtain ⟨za,zc,hzv⟩ := Qz hO;subst hzv))
 all_goals go_wp2_with fail
 all_goals go_ret
 all_goals exact ⟨_,rfl,HFI.out.1,HFI.out.2⟩
end Put
namespace Grd
open Txt (wd)
def Yp (cs : List C) (x : Nat) : Bool := decide (wd (cs.getD x z0).1 = 2) && decide (x + 1 < cs.length ∧ (cs.getD (x + 1) z0).1 = 0 ∧ (cs.getD x z0).2 ≠ (cs.getD (x + 1) z0).2)
def Q7 (cs : List C) : List C := (List.range cs.length).map fun x => if Yp cs x then (32,(cs.getD x z0).2) else cs.getD x z0
theorem Yc (cs : List C) : (Q7 cs).length = cs.length := by simp [Q7]
theorem Gm (cs : List C) (x : Nat) (hx : x < cs.length) : (Q7 cs).getD x z0 = if Yp cs x then (32,(cs.getD x z0).2) else cs.getD x z0 := by
 simp [Q7,qy,hx]
theorem qlh (cs : List C) (h : Alike cs) : Q7 cs = cs := by
 refine List.ext_getElem (Yc cs) fun i h1 h2 => ?_
 have e1 : (Q7 cs).getD i z0 = (Q7 cs)[i] := by simp [qy,h1]
 have e2 : cs.getD i z0 = cs[i] := by simp [qy,h2]
 rw [← e1,← e2,Gm cs i h2];have hp : Yp cs i = false := by
  unfold Yp
  by_cases hw : wd (cs.getD i z0).1 = 2
  ·by_cases hq : i + 1 < cs.length ∧ (cs.getD (i + 1) z0).1 = 0 ∧ (cs.getD i z0).2 ≠ (cs.getD (i + 1) z0).2
   ·exact absurd (h i hq.1 hw hq.2.1) hq.2.2
   ·rw [decide_eq_false hq,Bool.and_false]
  ·rw [decide_eq_false hw,Bool.false_and]
 rw [hp]
 rfl
theorem qm0 : wd 32 ≠ 2 := by decide +kernel
theorem q0l : wd 0 ≠ 2 := by decide +kernel
def Jy (cs : List C) (x : Nat) : List C := if loose cs x || Yp cs x then setR cs x else cs
def Qx (cs : List C) : Nat → List C
 | 0 => cs
 | k + 1 => Jy (Qx cs k) k
theorem qig (cs : List C) (x : Nat) : (Jy cs x).length = cs.length := by
 unfold Jy setR;split <;> simp
theorem Ku (cs : List C) : ∀ k, (Qx cs k).length = cs.length
 | 0 => rfl
 | k + 1 => by
  show (Jy (Qx cs k) k).length = _
  rw [qig,Ku cs k]
theorem qsh (cs : List C) (k j : Nat) (hk : k < cs.length) (b : Bool) : (if b then setR cs k else cs).getD j z0 = if j = k ∧ b = true then (32,(cs.getD k z0).2) else cs.getD j z0 := by
 cases b with
 | false => simp
 | true =>
  rw [if_pos rfl,q0e cs k j hk]
  by_cases e : j = k
  ·rw [if_pos e,if_pos ⟨e,rfl⟩]
  ·rw [if_neg e,if_neg (fun h => e h.1)]
theorem qm1 (cs : List C) : ∀ k, k ≤ cs.length → ∀ j, j < cs.length → (Qx cs k).getD j z0 = (if j < k then (Xe (Q7 cs) k).getD j z0 else cs.getD j z0) ∧ (k ≤ j → (Xe (Q7 cs) k).getD j z0 = (Q7 cs).getD j z0)
 | 0,_,j,_ => by
  rw [if_neg (by omega)]
  exact ⟨rfl,fun _ => rfl⟩
 | k + 1,hk,j,hj => by
  have ih := qm1 cs k (by omega)
  have hkl : k < cs.length := by omega
  have lA := Ku cs k;have lB : (Xe (Q7 cs) k).length = cs.length := by rw [Vh,Yc]
  have Ak : (Qx cs k).getD k z0 = cs.getD k z0 := by rw [(ih k hkl).1,if_neg (by omega)]
  have Bk : (Xe (Q7 cs) k).getD k z0 = (Q7 cs).getD k z0 := (ih k hkl).2 (qd _);have Ak1 : k + 1 < cs.length → (Qx cs k).getD (k + 1) z0 = cs.getD (k + 1) z0 := fun h => by rw [(ih (k + 1) h).1,if_neg (by omega)]
  have Bk1 : k + 1 < cs.length → (Xe (Q7 cs) k).getD (k + 1) z0 = (Q7 cs).getD (k + 1) z0 := fun h => (ih (k + 1) h).2 (by omega)
  have Ap : 0 < k → (Qx cs k).getD (k - 1) z0 = (Xe (Q7 cs) k).getD (k - 1) z0 := fun h => by rw [(ih (k - 1) (by omega)).1,if_pos (by omega)]
  have pA : Yp (Qx cs k) k = Yp cs k := by
   unfold Yp;rw [Ak,lA]
   by_cases h1 : k + 1 < cs.length
   ·rw [Ak1 h1]
   ·have e1 : ¬ (k + 1 < cs.length ∧ ((Qx cs k).getD (k + 1) z0).1 = 0 ∧ (cs.getD k z0).2 ≠ ((Qx cs k).getD (k + 1) z0).2) := fun h => h1 h.1
    have e2 : ¬ (k + 1 < cs.length ∧ (cs.getD (k + 1) z0).1 = 0 ∧ (cs.getD k z0).2 ≠ (cs.getD (k + 1) z0).2) := fun h => h1 h.1
    rw [decide_eq_false e1,decide_eq_false e2]
  have zero1 : k + 1 < cs.length → (((Q7 cs).getD (k + 1) z0).1 = 0 ↔ (cs.getD (k + 1) z0).1 = 0) := fun h1 => by
   rw [Gm cs (k + 1) h1]
   by_cases hp : Yp cs (k + 1) = true
   ·rw [if_pos hp]
    unfold Yp at hp;simp only [Bool.and_eq_true,decide_eq_true_eq] at hp;constructor
    ·intro h
     exact absurd (show (32 : Int) = 0 from h) (by decide)
    ·intro h
     rw [h] at hp;exact absurd hp.1 q0l
   ·rw [if_neg hp]
  -- the cell k,behind both steps
  have key : (if loose (Qx cs k) k || Yp (Qx cs k) k then ((32 : Int),((Qx cs k).getD k z0).2) else (Qx cs k).getD k z0) = (if loose (Xe (Q7 cs) k) k then ((32 : Int),((Xe (Q7 cs) k).getD k z0).2) else (Xe (Q7 cs) k).getD k z0) := by
   rw [pA]
   by_cases hp : Yp cs k = true
   ·have hu : (Q7 cs).getD k z0 = (32, (cs.getD k z0).2) := by rw [Gm cs k hkl, if_pos hp]
    have hlB : loose (Xe (Q7 cs) k) k = false := by
     unfold loose;rw [Bk,hu]
     show (if (32 : Int) = 0 then _ else _) = false
     rw [if_neg (by decide)]
     show (decide (wd 32 = 2) && _) = false
     rw [decide_eq_false qm0]
     rfl
    rw [hp,Bool.or_true,if_pos rfl,hlB,if_neg (by decide),Bk,hu,Ak]
   ·have hp' : Yp cs k = false := by simpa using hp
    have hu : (Q7 cs).getD k z0 = cs.getD k z0 := by rw [Gm cs k hkl,if_neg hp]
    have hll : loose (Qx cs k) k = loose (Xe (Q7 cs) k) k := by
     unfold loose;rw [Ak,Bk,hu,lA,lB]
     by_cases h0 : (cs.getD k z0).1 = 0
     ·rw [if_pos h0, if_pos h0]
      by_cases hk0 : k = 0
      ·simp [hk0]
      ·rw [Ap (by omega)]
     ·rw [if_neg h0, if_neg h0]
      by_cases h1 : k + 1 = cs.length
      ·simp [h1]
      ·have h2 : k + 1 < cs.length := by omega
       rw [Ak1 h2,Bk1 h2]
       congr 2
       rw [decide_eq_decide];exact not_congr (zero1 h2).symm
    rw [hp',Bool.or_false,hll,Ak,Bk,hu]
  have eA : (Qx cs (k + 1)).getD j z0 = if j = k ∧ (loose (Qx cs k) k || Yp (Qx cs k) k) = true then (32,((Qx cs k).getD k z0).2) else (Qx cs k).getD j z0 := qsh _ k j (by rw [lA];exact hkl) _
  have eB : (Xe (Q7 cs) (k + 1)).getD j z0 = if j = k ∧ loose (Xe (Q7 cs) k) k = true then (32,((Xe (Q7 cs) k).getD k z0).2) else (Xe (Q7 cs) k).getD j z0 := qsh _ k j (by rw [lB];exact hkl) _
  by_cases e : j = k
  ·rw [eA, eB]
   subst e;refine ⟨?_,fun h => by omega⟩
   rw [if_pos (by omega : j < j + 1)]
   simp only [true_and];exact key
  ·have eA' : (Qx cs (k + 1)).getD j z0 = (Qx cs k).getD j z0 := by rw [eA, if_neg (fun h => e h.1)]
   have eB' : (Xe (Q7 cs) (k + 1)).getD j z0 = (Xe (Q7 cs) k).getD j z0 := by rw [eB,if_neg (fun h => e h.1)]
   rw [eA',eB']
   by_cases hlt : j < k
   ·rw [if_pos (by omega : j < k + 1), (ih j hj).1, if_pos hlt]
    exact ⟨rfl,fun h => by omega⟩
   ·rw [if_neg (by omega : ¬ j < k + 1), (ih j hj).1, if_neg hlt]
    exact ⟨rfl,fun _ => (ih j hj).2 (by omega)⟩
theorem qw3 (cs : List C) : Qx cs cs.length = Zu (Q7 cs) := by
 have hl : (Zu (Q7 cs)).length = cs.length := by unfold Zu;rw [Vh,Yc]
 refine List.ext_getElem (by rw [Ku,hl]) fun i h1 h2 => ?_
 have hi : i < cs.length := by rw [Ku] at h1;exact h1
 have e1 : (Qx cs cs.length).getD i z0 = (Qx cs cs.length)[i] := by simp [qy,h1]
 have e2 : (Zu (Q7 cs)).getD i z0 = (Zu (Q7 cs))[i] := by simp [qy,h2]
 rw [← e1,← e2,(qm1 cs cs.length (qd _) i hi).1,if_pos hi];unfold Zu;rw [Yc]
end Grd
namespace Grd
open Txt (wd)
open Sty (Q5)
def Weak (cs : List C) : Prop := ∀ i,i < cs.length → ((cs.getD i z0).1 ≠ 0 → wd (cs.getD i z0).1 ≠ 0) ∧ Q5 (cs.getD i z0).2 = true
theorem V4.weak {cs : List C} (h : V4 cs) : Weak cs := fun i hi => ⟨(h i hi).1,(h i hi).2.1⟩
theorem qjh {cs : List C} (h : Weak cs) : V4 (Q7 cs) := fun i hi => by
 rw [Yc] at hi;have h1 := h i hi;rw [Gm cs i hi]
 by_cases hp : Yp cs i = true
 ·rw [if_pos hp]
  refine ⟨fun _ => by show wd 32 ≠ 0;decide +kernel,h1.2,fun h0 => absurd (show (32 : Int) = 0 from h0) (by decide)⟩
 ·rw [if_neg hp]
  refine ⟨h1.1,h1.2,fun h0 hpos hw => ?_⟩
  rw [Gm cs (i - 1) (by omega)] at hw ⊢
  by_cases hq : Yp cs (i - 1) = true
  ·rw [if_pos hq] at hw
   exact absurd (show wd 32 = 2 from hw) qm0
  ·rw [if_neg hq] at hw ⊢
   have e : i - 1 + 1 = i := by omega
   have hq' : Yp cs (i - 1) = false := by simpa using hq
   unfold Yp at hq';rw [decide_eq_true hw,Bool.true_and,decide_eq_false_iff_not,e] at hq'
   by_cases hs : (cs.getD (i - 1) z0).2 = (cs.getD i z0).2
   ·exact hs.symm
   ·exact absurd ⟨hi,h0,hs⟩ hq'
theorem qok {cs : List C} (h : Weak cs) : Q8 (Zu (Q7 cs)) := G9 _ (qjh h)
end Grd
namespace Put
open Grd (C z0)
def K6 (row : List C) (x n : Nat) (bk : Int) : List C := row.take x ++ (row.drop (x + n) ++ qe n (32,0,bk,0))
theorem ql0 (row : List C) (x n : Nat) (bk : Int) (h : x + n ≤ row.length) : (K6 row x n bk).length = row.length := by
 unfold K6;rw [List.length_append,List.length_append,List.length_replicate,List.length_take,List.length_drop];omega
theorem qwt (row : List C) (x n : Nat) (bk : Int) (c : C) (h : c ∈ K6 row x n bk) : c ∈ row ∨ c = (32,0,bk,0) := by
 unfold K6 at h
 rcases List.mem_append.1 h with h | h
 ·exact .inl (List.mem_of_mem_take h)
 ·rcases List.mem_append.1 h with h | h
  ·exact .inl (List.mem_of_mem_drop h)
  ·exact .inr (List.eq_of_mem_replicate h)
theorem qxy {row : List C} (hr : Grd.Weak row) (x n : Nat) (bk : Int) (hs : Sty.Q5 (0,bk,0) = true) : Grd.Weak (K6 row x n bk) := fun i hi => by
 have e : (K6 row x n bk).getD i z0 = (K6 row x n bk)[i] := by simp [qy,hi]
 rw [e]
 rcases qwt row x n bk _ (List.getElem_mem hi) with h | h
 ·obtain ⟨j, hj, hje⟩ := List.mem_iff_getElem.1 h
  have h1 := hr j hj;have e2 : row.getD j z0 = row[j] := by simp [qy,hj]
  rw [e2,hje] at h1;exact h1
 ·rw [h]
  exact ⟨fun _ => by show Txt.wd 32 ≠ 0;decide +kernel,hs⟩
end Put
namespace Grd
open Txt (wd)
theorem qqt (b o c : Nat) (cs : List C) (x : Nat) (r f bk xx f2 b2 x2 : Int) (w : World) (hT : Txt.Tab w) (hx : x + 1 < cs.length) (hn : cs.length ≤ 1000000)
  (h0 : w.cell? ⟨b,o + x * 4,none⟩ = some (.int .i32 r)) (h1 : w.cell? ⟨b,o + x * 4 + 1,none⟩ = some (.int .i64 f)) (h2 : w.cell? ⟨b,o + x * 4 + 2,none⟩ = some (.int .i64 bk)) (h3 : w.cell? ⟨b,o + x * 4 + 3,none⟩ = some (.int .i64 xx))
  (p1 : w.cell? ⟨b,o + (x + 1) * 4 + 1,none⟩ = some (.int .i64 f2)) (p2 : w.cell? ⟨b,o + (x + 1) * 4 + 2,none⟩ = some (.int .i64 b2)) (p3 : w.cell? ⟨b,o + (x + 1) * 4 + 3,none⟩ = some (.int .i64 x2)) (hw : wd r = 2) (d : Bool) (hd : d = decide ((f,bk,xx) ≠ (f2,b2,x2))) :
  Calls qP 222 #[.slice (some ⟨b,o,none⟩) cs.length c,.int .i64 (x : Int)] w fun e w' => e = .returned (.bool d) ∧ Below w.heap.size w w' := by
 have HT : Hid (Txt.Tab w) := hT;have hx0 : x < cs.length := by omega
 have hwr : IntKind.i64.wrap ((x : Int) + 1) = (x : Int) + 1 := by unfold IntKind.wrap;simp [IntKind.bits,IntKind.signed];omega
 have hx1 : (0 : Int) ≤ (x : Int) + 1 := by omega
 have hx2 : (x : Int) + 1 < (cs.length : Int) := by omega
 have hx3 : ((x : Int) + 1).toNat = x + 1 := by omega
 have nq : ∀ w,(binOp .neq 26 (.agg #[.int .i64 f,.int .i64 bk,.int .i64 xx]) (.agg #[.int .i64 f2,.int .i64 b2,.int .i64 x2])).run qP w = .ok (.bool d) w := fun w => by
  rw [Sty.qko,hd];simp
 clear hd;have y0 : ∀ d os,(Sort.grow (redrawn w d) os).cell? ⟨b,o + x * 4,none⟩ = some (.int .i32 r) := fun d os => cell_regrown h0 d os
 have y1 : ∀ d os,(Sort.grow (redrawn w d) os).cell? ⟨b,o + x * 4 + 1,none⟩ = some (.int .i64 f) := fun d os => cell_regrown h1 d os
 have y2 : ∀ d os,(Sort.grow (redrawn w d) os).cell? ⟨b,o + x * 4 + 2,none⟩ = some (.int .i64 bk) := fun d os => cell_regrown h2 d os
 have y3 : ∀ d os,(Sort.grow (redrawn w d) os).cell? ⟨b,o + x * 4 + 3,none⟩ = some (.int .i64 xx) := fun d os => cell_regrown h3 d os
 have u1 : ∀ d os,(Sort.grow (redrawn w d) os).cell? ⟨b,o + (x + 1) * 4 + 1,none⟩ = some (.int .i64 f2) := fun d os => cell_regrown p1 d os
 have u2 : ∀ d os,(Sort.grow (redrawn w d) os).cell? ⟨b,o + (x + 1) * 4 + 2,none⟩ = some (.int .i64 b2) := fun d os => cell_regrown p2 d os
 have u3 : ∀ d os,(Sort.grow (redrawn w d) os).cell? ⟨b,o + (x + 1) * 4 + 3,none⟩ = some (.int .i64 x2) := fun d os => cell_regrown p3 d os
 have K4 : Hid (∀ d os,Calls qP 18 #[.int .i32 r] (Sort.grow (redrawn w d) os) fun e w'' => e = .returned (.int .i64 2) ∧ ∃ p : Regrown,w'' = Sort.grow (redrawn w p.d) p.os) := fun d os => Calls.regrown_of (Yn r _ (Tab.next HT.out (below_regrown w d os)) 2 hw)
 clear hT hw h0 h1 h2 h3 p1 p2 p3;go_enter Tryz.func222,Tryz.ntmps222;go_wp2_with fail;refine wp_region_quiet_below (by kernel_rfl) (by kernel_rfl) ?_
 repeat (first | go_big_quiet_skip | quiet_step (first | (go_at_call 18;exact K4.out _ _)))
 refine wpQuiet_nil ?_;intro _ hw';obtain ⟨⟨dq,os⟩,hw''⟩ := hw';subst hw'';have k3 : Below w.heap.size w (Sort.grow (redrawn w dq) os) := below_regrown w dq os;generalize Sort.grow (redrawn w dq) os = W3 at *;go_wp2_with fail;go_ret;exact ⟨rfl,k3⟩
theorem qf3 (b o c : Nat) (cs : List C) (x : Nat) (w : World) (hT : Txt.Tab w) (hC : Qb w b o cs) (hx : x < cs.length) (hn : cs.length ≤ 1000000) (hl : loose cs x = false) :
  Calls qP 222 #[.slice (some ⟨b,o,none⟩) cs.length c,.int .i64 (x : Int)] w fun e w' => e = .returned (.bool (Yp cs x)) ∧ Below w.heap.size w w' := by
 obtain ⟨h0,h1,h2,h3⟩ := hC x hx
 by_cases hw : wd (cs.getD x z0).1 = 2
 ·have hn0 : ¬ (cs.getD x z0).1 = 0 := by intro e; rw [e] at hw; exact absurd hw (by decide +kernel)
  unfold loose at hl;rw [if_neg hn0] at hl;simp only [hw,decide_true,Bool.true_and,Bool.or_eq_false_iff,decide_eq_false_iff_not,Decidable.not_not] at hl;have hx1 : x + 1 < cs.length := by omega
  obtain ⟨-,p1,p2,p3⟩ := hC (x + 1) hx1;refine qqt b o c cs x _ _ _ _ _ _ _ w hT hx1 hn h0 h1 h2 h3 p1 p2 p3 hw _ ?_;unfold Yp;rw [decide_eq_true hw,Bool.true_and,decide_eq_decide];exact ⟨fun h => h.2.2,fun h => ⟨hx1,hl.2,h⟩⟩
 ·have e : Yp cs x = false := by unfold Yp; rw [decide_eq_false hw, Bool.false_and]
  rw [e];exact qoe b o c cs x _ w hT hx h0 hw
theorem qvp (g c : Nat) (cs : List C) (pre post : List Value) (t : TypeId) (w : World) (hh : w.heap[g]? = some (.cells (pre ++ (flat cs ++ post)).toArray t (0, 0))) (hn : cs.length ≤ 1000000) (hT : Txt.Tab w) (hg : 0 < g) :
  Calls qP 174 #[.slice (some ⟨g,pre.length,none⟩) cs.length c] w fun e w' => e = .returned (.tuple #[]) ∧ w'.heap[g]? = some (.cells (pre ++ (flat (Zu (Q7 cs)) ++ post)).toArray t (0,0)) ∧ Apart g [g] w w' := by
 have HT : Hid (∀ W,Apart g [g] w W → Txt.Tab W) := fun W b => hT.below b.1 hg
 have HG : Hid (g < w.heap.size) := Xj hh;clear hT hg;generalize hl : cs.length = L at *;have HL : Hid (cs.length = L) := hl;clear hl;generalize hp : pre.length = o at *;have HP : Hid (pre.length = o) := hp;clear hp;go_enter Tryz.func174,Tryz.ntmps174;go_wp2_with fail;go_loopg [5] L (fun q i wr => ∃ k : Nat,i = .int .i64 (k : Int) ∧ k ≤ L ∧ L - k ≤ q ∧ Apart g [g] w wr ∧ wr.heap[g]? = some (.cells (pre ++ (flat (Qx cs k) ++ post)).toArray t (0,0)))
 case atStart => exact ⟨0,rfl,by omega,by omega,Apart.refl _ _ _,hh⟩
 case round =>
  obtain ⟨k,rfl,hk,hq,hb,hv⟩ := hrel;clear hh;have hlen : (Qx cs k).length = L := by rw [Ku,HL.out]
  by_cases hlt : k < L
  ·have lt1 : ((k : Int) < (L : Int)) := by omega
   have hC : Qb wr g o (Qx cs k) := by have := qmz hv;rwa [HP.out] at this
   have hcell := (hC k (by rw [hlen];exact hlt)).1
   have KL := qd8 g o c (Qx cs k) k wr (HT.out wr hb) hC (by rw [hlen];exact hlt) (by rw [hlen];exact hn)
   rw [hlen] at KL
   cases hlo : loose (Qx cs k) k with
   | false =>
    cases hpa : Yp (Qx cs k) k with
    | false =>
     rw [hlo] at KL;have HK : Hid (Calls qP 69 #[.slice (some ⟨g,o,none⟩) L c,.int .i64 (k : Int)] wr fun e w' => e = .returned (.bool false) ∧ Below wr.heap.size wr w') := KL
     have HKP : Hid (∀ W,Below wr.heap.size wr W → Calls qP 222 #[.slice (some ⟨g,o,none⟩) L c,.int .i64 (k : Int)] W fun e w' => e = .returned (.bool false) ∧ Below W.heap.size W w') := fun W bW => by
      have := qf3 g o c (Qx cs k) k W (Tab.next (HT.out wr hb) bW) (hC.below bW) (by rw [hlen];exact hlt) (by rw [hlen];exact hn) hlo
      rwa [hlen,hpa] at this
     have HE : Hid (Qx cs (k + 1) = Qx cs k) := by
      show Jy (Qx cs k) k = _
      unfold Jy;rw [hlo,hpa]
      rfl
     clear KL hlo hC hcell hlen
     go_wp2_with (first
      | (go_at_call 69;refine HK.out.mono ?_;rintro e W1 ⟨rfl,b1⟩)
      | (go_at_call 222;refine (HKP.out _ b1).mono ?_;rintro e W2 ⟨rfl,b2⟩;have b3 := b1.trans (b2.mono b1.size)))
     go_roundg (L - (k + 1))
     case measure => omega
     case rel => exact ⟨k + 1,rfl,by omega,by omega,hb.step b3 (Nat.le_of_lt (Xj hv)),by rw [HE.out];exact carry hv b3⟩
    | true =>
     rw [hlo] at KL;have HK : Hid (Calls qP 69 #[.slice (some ⟨g,o,none⟩) L c,.int .i64 (k : Int)] wr fun e w' => e = .returned (.bool false) ∧ Below wr.heap.size wr w') := KL
     have HKP : Hid (∀ W,Below wr.heap.size wr W → Calls qP 222 #[.slice (some ⟨g,o,none⟩) L c,.int .i64 (k : Int)] W fun e w' => e = .returned (.bool true) ∧ Below W.heap.size W w') := fun W bW => by
      have := qf3 g o c (Qx cs k) k W (Tab.next (HT.out wr hb) bW) (hC.below bW) (by rw [hlen];exact hlt) (by rw [hlen];exact hn) hlo
      rwa [hlen,hpa] at this
     have HE : Hid (pre ++ (flat (Qx cs (k + 1)) ++ post) = (pre ++ (flat (Qx cs k) ++ post)).set (o + k * 4) (.int .i32 32)) := by
      have e : Qx cs (k + 1) = setR (Qx cs k) k := by
       show Jy (Qx cs k) k = _
       unfold Jy;rw [hlo,hpa]
       rfl
      unfold Hid;rw [e,← HP.out];exact (qsn pre post _ k (by rw [hlen];exact hlt)).symm
     generalize ((Qx cs k).getD k z0).1 = rr at hcell;clear KL hlo hC hlen
     go_wp2_with (first
      | (go_at_call 69;refine HK.out.mono ?_;rintro e W0 ⟨rfl,b0⟩)
      | (go_at_call 222;refine (HKP.out _ b0).mono ?_;rintro e W1 ⟨rfl,b2⟩;have b1 := b0.trans (b2.mono b0.size);have hcell1 := Qk b1 hcell;have hv1 := carry hv b1;have hfz : W1.frozen? ⟨g,o + k * 4,none⟩ = false := Je hv1 _))
     go_roundg (L - (k + 1))
     case measure => omega
     case rel =>
      refine ⟨k + 1,rfl,by omega,by omega,(hb.step b1 (Nat.le_of_lt (Xj hv))).setCell g _ _ (by simp) (qd _),?_⟩
      rw [HE.out];have := heap_setCell_same W1 g (o + k * 4) _ t (.int .i32 32) hv1;simpa using this
   | true =>
    rw [hlo] at KL;have HK : Hid (Calls qP 69 #[.slice (some ⟨g,o,none⟩) L c,.int .i64 (k : Int)] wr fun e w' => e = .returned (.bool true) ∧ Below wr.heap.size wr w') := KL
    have HE : Hid (pre ++ (flat (Qx cs (k + 1)) ++ post) = (pre ++ (flat (Qx cs k) ++ post)).set (o + k * 4) (.int .i32 32)) := by
     have e : Qx cs (k + 1) = setR (Qx cs k) k := by
      show Jy (Qx cs k) k = _
      unfold Jy;rw [hlo]
      rfl
     unfold Hid;rw [e,← HP.out];exact (qsn pre post _ k (by rw [hlen];exact hlt)).symm
    generalize ((Qx cs k).getD k z0).1 = rr at hcell;clear KL hlo hC hlen;go_wp2_with (first | (go_at_call 69;refine HK.out.mono ?_;rintro e W1 ⟨rfl,b1⟩;have hcell1 := Qk b1 hcell;have hv1 := carry hv b1;have hfz : W1.frozen? ⟨g,o + k * 4,none⟩ = false := Je hv1 _));go_roundg (L - (k + 1))
    case measure => omega
    case rel =>
     refine ⟨k + 1,rfl,by omega,by omega,(hb.step b1 (Nat.le_of_lt (Xj hv))).setCell g _ _ (by simp) (qd _),?_⟩
     rw [HE.out];have := heap_setCell_same W1 g (o + k * 4) _ t (.int .i32 32) hv1;simpa using this
  ·have lt1 : ¬ ((k : Int) < (L : Int)) := by omega
   have hkL : k = L := by omega
   go_wp2_with fail;go_end0;refine ⟨rfl,?_,hb⟩;rw [← qw3,HL.out,← hkL];exact hv
end Grd
namespace Put
open Grd (C SliceAt Qb Qf z0 Q0 flat Qe Js Y5 Zu)
def qqu (hf : FuncId) (caps : Array Value) (W : World) (v : Value) (row' : List C) : Prop :=
 ∀ W1,Below W.heap.size W W1 → Calls qP hf (#[v] ++ caps) W1 fun e W2 => ∃ g cap rest,e = .returned (.slice (some ⟨g,0,none⟩) row'.length cap) ∧ W1.heap.size ≤ g ∧ row'.length ≤ cap ∧ cap ≤ 9223372036854775807 ∧ W2.heap[g]? = some (.cells (flat row' ++ rest).toArray 56 (0,0)) ∧ Below W1.heap.size W1 W2
theorem qgb (W : World) (M N p : Nat) (s : Scr) (rows : List (List C)) (cv tv gv rv : Value) (gvs vs : List Value) (hS : ShA 110 W M N p s rows cv tv gv rv gvs vs) (hT : Txt.Tab W) (y : Nat) (hy : y < rows.length) (hf : FuncId) (hpl : Plain hf) (caps : Array Value) (row' : List C) (hR : qqu hf caps W (vs.getD y Q0) row') (hl : row'.length ≤ 1000000) :
  Calls qP 113 #[.pointer (some ⟨p,0,none⟩),.int .i64 (y : Int),.func (.func hf) #[] caps] W (Ran W M N p s (rows.set y (Zu (Grd.Q7 row')))) := by
 obtain ⟨rb,rc,hrv,hrb,hrc1,hrc2,hvl,hrcell,A,hrA⟩ := Gc hS.rws (by omega)
 obtain ⟨va,vc,hsh⟩ := (hS.rin.2 y hy).shape;have hyI : (0 : Int) ≤ (y : Int) := by omega
 have hyI2 : (y : Int) < (rows.length : Int) := by omega
 have d1 := hrcell y hy;have HW : Hid (ShA 110 W M N p s rows cv tv gv rv gvs vs) := hS;rw [hsh] at d1 hR;have HR : Hid (qqu hf caps W (.slice va (rows.getD y []).length vc) row') := hR;have HRA : Hid (W.heap[rb]? = some (.cells A 22 (0,0))) := hrA;have HRV : Hid (rv = .slice (some ⟨rb,0,none⟩) rows.length rc) := hrv;have HT : Hid (Txt.Tab W) := hT;have hml := hS.ml;have hNW : N ≤ W.heap.size := Nat.le_trans hS.lo (Nat.le_of_lt (Qc hS.blk));obtain ⟨row,hrow⟩ : ∃ row,row = rows.getD y [] := ⟨_,rfl⟩;rw [← hrow] at d1 HR;have SK : Hid (∀ V,Below W.heap.size W V → V.cell? ⟨p,22,none⟩ = some (.slice (some ⟨rb,0,none⟩) rows.length rc) ∧ V.cell? ⟨rb,y,none⟩ = some (.slice va row.length vc) ∧ V.frozen? ⟨rb,y,none⟩ = false) := fun V h => by
  have hblk := Grd.carry HW.out.blk h;obtain ⟨-,⟨-,-,-,-,-,-,-,-,-,-,-,c22⟩,-⟩ := Qr hblk;rw [HRV.out] at c22;exact ⟨c22,Qa h d1,Grd.Je (Grd.carry HRA.out h) _⟩
 unfold Plain at hpl;obtain ⟨c22,dy,fy⟩ := SK.out W (qr _ _);clear hS hR hrA hrcell hsh hrow hrv d1 hT fy;go_enter Tryz.func113,Tryz.ntmps113;go_wp2_with fail;refine (HR.out W (qr _ _)).mono ?_;rintro e V ⟨g,cap,rest,rfl,hgW,hcap1,hcap2,hgh,q1⟩;have hTV : Txt.Tab V := Grd.Tab.next HT.out q1;have HMD := Grd.qvp g cap row' [] rest _ V hgh hl hTV (Nat.lt_of_lt_of_le (Txt.Tab.pos HT.out) hgW);have HQ1 : Hid (Below W.heap.size W V) := q1;clear c22 dy q1 hgh hTV HR;go_wp2_with fail;refine HMD.mono ?_;rintro e V2 ⟨rfl,hg2,ap⟩;have q2 : Below W.heap.size W V2 := HQ1.out.trans (ap.1.mono hgW);obtain ⟨c22,dy,fy⟩ := SK.out _ q2;have HQ2 : Hid (Below W.heap.size W V2) := q2;have hri : X3 V2 M (.slice (some ⟨g,0,none⟩) row'.length cap) (Zu (Grd.Q7 row')) := Fh (g := g) ⟨cap,rest,by rw [Grd.Ka,Grd.Yc],by rw [Grd.Ka,Grd.Yc];exact hcap1,hcap2,hg2⟩
 have HRI : Hid (X3 V2 M (.slice (some ⟨g,0,none⟩) row'.length cap) (Zu (Grd.Q7 row'))) := hri;clear hri ap hg2 q2 HMD SK HQ1;go_wp2_with fail
 all_goals go_end0
 all_goals exact ⟨rfl,⟨_,_,_,_,_,_,(ShA.next HW.out HQ2.out).qxe HRV.out HRI.out⟩,(HQ2.out.mono hNW).setCell hrb _,(Q3.of_below HQ2.out).trans (Q3.store (Grd.carry HRA.out HQ2.out) Vs)⟩
theorem qd4 (W : World) (M N p : Nat) (s : Scr) (rows : List (List C)) (cv tv gv rv : Value) (gvs vs : List Value) (hS : ShA 110 W M N p s rows cv tv gv rv gvs vs) (hT : Txt.Tab W) (y : Nat) (hy : y < rows.length) (hf : FuncId) (hpl : Plain hf) (caps : Array Value) (row' : List C) (hR : qqu hf caps W (vs.getD y Q0) row') (hAl : Grd.Alike row') (hl : row'.length ≤ 1000000) :
  Calls qP 113 #[.pointer (some ⟨p,0,none⟩),.int .i64 (y : Int),.func (.func hf) #[] caps] W (Ran W M N p s (rows.set y (Zu row'))) := by
 have h := qgb W M N p s rows cv tv gv rv gvs vs hS hT y hy hf hpl caps row' hR hl;rwa [Grd.qlh row' hAl] at h
theorem qgc (V : World) (b1 o1 b2 o2 b3 o3 x k m c1 c2 c3 : Nat) (r1 r2 r3 : List C) (h1 : Qb V b1 o1 r1) (h2 : Qb V b2 o2 r2) (h3 : Qb V b3 o3 r3) (l1 : r1.length = x) (l2 : r2.length = k) (l3 : r3.length = m) (hm : x + (k + m) ≤ 1000) :
  Calls qP 110 #[.slice (some ⟨V.heap.size,0,none⟩) 3 3] (V.alloc (.cells #[.slice (some ⟨b1,o1,none⟩) x c1,.slice (some ⟨b2,o2,none⟩) k c2,.slice (some ⟨b3,o3,none⟩) m c3] 22)) fun e w' => ∃ v',e = .returned v' ∧ w'.ownsRow (V.alloc (.cells #[.slice (some ⟨b1,o1,none⟩) x c1,.slice (some ⟨b2,o2,none⟩) k c2,.slice (some ⟨b3,o3,none⟩) m c3] 22)).heap.size 56 4 v' (x + (k + m)) (flat (r1 ++ (r2 ++ r3))) ∧ Below (V.alloc (.cells #[.slice (some ⟨b1,o1,none⟩) x c1,.slice (some ⟨b2,o2,none⟩) k c2,.slice (some ⟨b3,o3,none⟩) m c3] 22)).heap.size (V.alloc (.cells #[.slice (some ⟨b1,o1,none⟩) x c1,.slice (some ⟨b2,o2,none⟩) k c2,.slice (some ⟨b3,o3,none⟩) m c3] 22)) w' := by
 have kb : Below V.heap.size V (V.alloc (.cells #[.slice (some ⟨b1,o1,none⟩) x c1,.slice (some ⟨b2,o2,none⟩) k c2,.slice (some ⟨b3,o3,none⟩) m c3] 22)) := (qr _ _).alloc (qd _) _;have hnew := qf V (.cells #[.slice (some ⟨b1,o1,none⟩) x c1,.slice (some ⟨b2,o2,none⟩) k c2,.slice (some ⟨b3,o3,none⟩) m c3] 22);have hcell : ∀ (j : Nat) (v : Value),(#[.slice (some ⟨b1,o1,none⟩) x c1,.slice (some ⟨b2,o2,none⟩) k c2,.slice (some ⟨b3,o3,none⟩) m c3] : Array Value)[j]? = some v → (V.alloc (.cells #[.slice (some ⟨b1,o1,none⟩) x c1,.slice (some ⟨b2,o2,none⟩) k c2,.slice (some ⟨b3,o3,none⟩) m c3] 22)).cell? ⟨V.heap.size,0 + j,none⟩ = some v := fun j v h => by
  rw [Nat.zero_add];unfold World.cell?;rw [hnew];exact h
 have hfl : [r1,r2,r3].flatten = r1 ++ (r2 ++ r3) := by simp
 have hlen : (r1 ++ (r2 ++ r3)).length = x + (k + m) := by rw [List.length_append,List.length_append,l1,l2,l3]
 have key := qb2 V.heap.size 0 3 [r1, r2, r3] (V.alloc (.cells #[.slice (some ⟨b1, o1, none⟩) x c1, .slice (some ⟨b2, o2, none⟩) k c2, .slice (some ⟨b3, o3, none⟩) m c3] 22)) (fun j hj => by
  have hj3 : j < 3 := hj
  match j,hj3 with
  | 0,_ => exact ⟨b1,o1,c1,by show World.cell? _ _ = some (Value.slice _ r1.length c1);rw [l1];exact hcell 0 _ rfl,h1.below kb⟩
  | 1,_ => exact ⟨b2,o2,c2,by show World.cell? _ _ = some (Value.slice _ r2.length c2);rw [l2];exact hcell 1 _ rfl,h2.below kb⟩
  | 2,_ => exact ⟨b3,o3,c3,by show World.cell? _ _ = some (Value.slice _ r3.length c3);rw [l3];exact hcell 2 _ rfl,h3.below kb⟩) (r1 ++ (r2 ++ r3)) hfl (by rw [hlen];omega) (by simp)
 rw [hlen] at key;exact key
def ovR (row mid : List C) (a b : Nat) : List C := row.take a ++ (mid ++ row.drop b)
theorem Ff (row mid : List C) (a b : Nat) (h : a + mid.length = b) (hb : b ≤ row.length) : (ovR row mid a b).length = row.length := by
 unfold ovR;rw [List.length_append,List.length_append,List.length_take,List.length_drop];omega
theorem qjk (row mid : List C) (a b : Nat) (h : a + mid.length = b) (hb : b ≤ row.length) (i : Nat) : (ovR row mid a b).getD i z0 = if i < a then row.getD i z0 else if i < b then mid.getD (i - a) z0 else row.getD i z0 := by
 have e1 : (row.take a).length = a := by rw [List.length_take];omega
 unfold ovR;simp only [qy]
 by_cases h1 : i < a
 ·rw [if_pos h1,List.getElem?_append_left (by omega),List.getElem?_take_of_lt h1]
 ·rw [if_neg h1, List.getElem?_append_right (by omega), e1]
  by_cases h2 : i < b
  ·rw [if_pos h2,List.getElem?_append_left (by omega)]
  ·rw [if_neg h2,List.getElem?_append_right (by omega),List.getElem?_drop,show b + (i - a - mid.length) = i by omega]
theorem qry (V : World) (rb ro g go c a b k vc L : Nat) (row mid : List C) (hC : Qb V rb ro row) (hM : Qb V g go mid) (hk : mid.length = k) (hb : a + k = b) (hL : row.length = L) (hbl : b ≤ L) (hl : L ≤ 120) (oo cc : Nat) (ho : (oo = ro + b * 4) ∨ b = L) :
  Calls qP 110 #[.slice (some ⟨V.heap.size,0,none⟩) 3 3] (V.alloc (.cells #[.slice (some ⟨rb,ro,none⟩) a c,.slice (some ⟨g,go,none⟩) k vc,.slice (some ⟨rb,oo,none⟩) (L - b) cc] 22)) fun e w' => ∃ v',e = .returned v' ∧ w'.ownsRow (V.alloc (.cells #[.slice (some ⟨rb,ro,none⟩) a c,.slice (some ⟨g,go,none⟩) k vc,.slice (some ⟨rb,oo,none⟩) (L - b) cc] 22)).heap.size 56 4 v' L (flat (ovR row mid a b)) ∧ Below (V.alloc (.cells #[.slice (some ⟨rb,ro,none⟩) a c,.slice (some ⟨g,go,none⟩) k vc,.slice (some ⟨rb,oo,none⟩) (L - b) cc] 22)).heap.size (V.alloc (.cells #[.slice (some ⟨rb,ro,none⟩) a c,.slice (some ⟨g,go,none⟩) k vc,.slice (some ⟨rb,oo,none⟩) (L - b) cc] 22)) w' := by
 have hC1 := hC.part 0 a (by omega)
 rw [Nat.zero_mul,Nat.add_zero,List.drop_zero] at hC1;have hC2 : Qb V rb oo (row.drop b) := by
  by_cases hbL : b = L
  ·intro j hj
   rw [List.length_drop] at hj;omega
  ·rcases ho with rfl | h
   ·have h := hC.part b (L - b) (by omega)
    rwa [List.take_of_length_le (by rw [List.length_drop];omega)] at h
   ·exact absurd h hbL
 have key := qgc V rb ro g go rb oo a k (L - b) c vc cc (row.take a) mid (row.drop b) hC1 hM hC2 (by rw [List.length_take];omega) hk (by rw [List.length_drop,hL]) (by omega)
 rw [show a + (k + (L - b)) = L by omega] at key
 exact key
set_option linter.unusedVariables false in
theorem qzy (W : World) (p Bp Bn rb ro c x n : Nat) (bk : Int) (row : List C) (hp : W.cell? ⟨Bp, 0, none⟩ = some (.pointer (some ⟨p, 0, none⟩))) (hn : W.cell? ⟨Bn, 0, none⟩ = some (.int .i64 (n : Int))) (hx : W.cell? ⟨p, 3, none⟩ = some (.int .i64 (x : Int))) (h7 : W.cell? ⟨p, 7, none⟩ = some (.int .i64 bk)) (hC : Qb W rb ro row) (hc : row.length ≤ c) (hn1 : 1 ≤ n) (hxn : x + n ≤ row.length) (hl : row.length ≤ 120) (hcc : x + n < c) :
  Calls qP 227 #[.slice (some ⟨rb,ro,none⟩) row.length c,.pointer (some ⟨Bp,0,none⟩),.pointer (some ⟨Bn,0,none⟩)] W fun e W' => ∃ v',e = .returned v' ∧ W'.ownsRow W.heap.size 56 4 v' row.length (flat (K6 row x n bk)) ∧ Below W.heap.size W W' := by
 have SK : Hid (∀ V,Below W.heap.size W V → V.cell? ⟨Bp,0,none⟩ = some (.pointer (some ⟨p,0,none⟩)) ∧ V.cell? ⟨Bn,0,none⟩ = some (.int .i64 (n : Int)) ∧ V.cell? ⟨p,3,none⟩ = some (.int .i64 (x : Int))) := fun V h => ⟨Qa h hp,Qa h hn,Qa h hx⟩
 have HBL : Hid (∀ V,Below W.heap.size W V → Calls qP 115 #[.pointer (some ⟨p,0,none⟩),.int .i64 (n : Int)] V fun e W' => ∃ a c g,e = .returned (.slice a n c) ∧ V.heap.size ≤ g ∧ Js W' g (.slice a n c) (qe n (32,0,bk,0)) ∧ Below V.heap.size V W') := fun V h => G5 p n bk V (Qa h h7) hn1 (by omega)
 have HCC : Hid (Qb W rb ro row) := hC;obtain ⟨L,hL⟩ : ∃ L,L = row.length := ⟨_,rfl⟩;obtain ⟨k,hk⟩ : ∃ k,k = L - (x + n) := ⟨_,rfl⟩;have hwr : IntKind.i64.wrap ((x : Int) + (n : Int)) = (x : Int) + (n : Int) := Zl _ (by omega) (by omega)
 have HLR : Hid (row.length = L) := hL.symm;have HCN : Hid (∀ (V : World) (a : Option Addr) (vc g : Nat),Below W.heap.size W V → Js V g (.slice a n vc) (qe n (32,0,bk,0)) → Calls qP 110 #[.slice (some ⟨V.heap.size,0,none⟩) 3 3] (V.alloc (.cells #[.slice (some ⟨rb,ro,none⟩) x c,.slice (some ⟨rb,(ro + (x + n) * 4),none⟩) k (c - (x + n)),.slice a n vc] 22)) fun e w' => ∃ v',e = .returned v' ∧ w'.ownsRow (V.alloc (.cells #[.slice (some ⟨rb,ro,none⟩) x c,.slice (some ⟨rb,(ro + (x + n) * 4),none⟩) k (c - (x + n)),.slice a n vc] 22)).heap.size 56 4 v' L (flat (K6 row x n bk)) ∧ Below (V.alloc (.cells #[.slice (some ⟨rb,ro,none⟩) x c,.slice (some ⟨rb,(ro + (x + n) * 4),none⟩) k (c - (x + n)),.slice a n vc] 22)).heap.size (V.alloc (.cells #[.slice (some ⟨rb,ro,none⟩) x c,.slice (some ⟨rb,(ro + (x + n) * 4),none⟩) k (c - (x + n)),.slice a n vc] 22)) w') := fun V a vc g hV hB => by
  have hCV := HCC.out.below hV;have hC1 := hCV.part 0 x (by omega)
  rw [Nat.zero_mul,Nat.add_zero,List.drop_zero] at hC1;have hB2 := hB.cells;obtain ⟨bc,brest,hbv,-⟩ := hB;injection hbv with ha _ _
  subst ha;have hC2 : Qb V rb (ro + (x + n) * 4) (row.drop (x + n)) := by
   have h := hCV.part (x + n) k (by omega)
   rwa [List.take_of_length_le (by rw [List.length_drop];omega)] at h
  have key := qgc V rb ro rb (ro + (x + n) * 4) g 0 x k n c (c - (x + n)) vc (row.take x) (row.drop (x + n)) (qe n (32,0,bk,0)) hC1 hC2 hB2 (by rw [List.length_take];omega) (by rw [List.length_drop,hk,hL]) (List.length_replicate) (by omega)
  rw [show x + (k + n) = L by omega] at key
  exact key
 have b0 : Below W.heap.size W W.drew := (qr _ _).drew;have hx1 : (x : Int) ≤ (c : Int) := by omega
 have hx2 : (x : Int) ≤ (L : Int) := by omega
 have hx3 : (x : Int) + (n : Int) ≤ (L : Int) := by omega
 have hx4 : (0 : Int) ≤ (x : Int) + (n : Int) := by omega
 have hx5 : ((x : Int) + (n : Int)).toNat = x + n := by omega
 have hcI : (x : Int) + (n : Int) < (c : Int) := by omega
 have hkk : L - (x + n) = k := hk.symm;rw [← hL];clear hp hn hx h7 hC hc hn1 hxn hl hL hk HCC;generalize K6 row x n bk = res at *;go_enter Tryz.func227,Tryz.ntmps227;go_upto_region 1 with fail
 go_region_held3 (fun w' => w'.cell? ⟨Bp, 0, none⟩ = some (.pointer (some ⟨p, 0, none⟩)) ∧ w'.cell? ⟨Bn, 0, none⟩ = some (.int .i64 (n : Int)) ∧ w'.cell? ⟨p, 3, none⟩ = some (.int .i64 (x : Int)))
  (first | exact SK.out _ q3 | exact SK.out _ q2 | exact SK.out _ q1 | exact SK.out _ b0)
  (first
   | (go_at_call 115;refine (HBL.out _ b0).mono ?_;rintro e V1 ⟨a,vc,g,rfl,hg,hB,b1⟩;have q1 : Below W.heap.size W V1 := b0.trans (b1.mono b0.size);have q2 := q1.alloc q1.size (.cells #[.slice (some ⟨rb,ro,none⟩) x c,.slice (some ⟨rb,(ro + (x + n) * 4),none⟩) k (c - (x + n)),.slice a n vc] 22);have HC1 := HCN.out V1 a vc g q1 hB)
   | (go_at_call 110;(try rw [hkk]);refine HC1.mono ?_;rintro e V2 ⟨v',rfl,hO,b2⟩;have q3 : Below W.heap.size W V2 := q2.trans (b2.mono q2.size);have HFI : Hid _ := And.intro (Grd.Q4 hO q2.size) q3;obtain ⟨za,zc,hzv⟩ := Qz hO;subst hzv))
 all_goals go_wp2_with fail
 all_goals go_ret
 all_goals exact ⟨_,rfl,HFI.out.1,HFI.out.2⟩
set_option linter.unusedVariables false in
theorem qwa (W : World) (p Bp Bn rb ro c x n : Nat) (bk : Int) (row : List C) (hp : W.cell? ⟨Bp, 0, none⟩ = some (.pointer (some ⟨p, 0, none⟩))) (hn : W.cell? ⟨Bn, 0, none⟩ = some (.int .i64 (n : Int))) (hx : W.cell? ⟨p, 3, none⟩ = some (.int .i64 (x : Int))) (h7 : W.cell? ⟨p, 7, none⟩ = some (.int .i64 bk)) (hC : Qb W rb ro row) (hc : row.length ≤ c) (hn1 : 1 ≤ n) (hxn : x + n ≤ row.length) (hl : row.length ≤ 120) (hcc : ¬ x + n < c) :
  Calls qP 227 #[.slice (some ⟨rb,ro,none⟩) row.length c,.pointer (some ⟨Bp,0,none⟩),.pointer (some ⟨Bn,0,none⟩)] W fun e W' => ∃ v',e = .returned v' ∧ W'.ownsRow W.heap.size 56 4 v' row.length (flat (K6 row x n bk)) ∧ Below W.heap.size W W' := by
 have SK : Hid (∀ V,Below W.heap.size W V → V.cell? ⟨Bp,0,none⟩ = some (.pointer (some ⟨p,0,none⟩)) ∧ V.cell? ⟨Bn,0,none⟩ = some (.int .i64 (n : Int)) ∧ V.cell? ⟨p,3,none⟩ = some (.int .i64 (x : Int))) := fun V h => ⟨Qa h hp,Qa h hn,Qa h hx⟩
 have HBL : Hid (∀ V,Below W.heap.size W V → Calls qP 115 #[.pointer (some ⟨p,0,none⟩),.int .i64 (n : Int)] V fun e W' => ∃ a c g,e = .returned (.slice a n c) ∧ V.heap.size ≤ g ∧ Js W' g (.slice a n c) (qe n (32,0,bk,0)) ∧ Below V.heap.size V W') := fun V h => G5 p n bk V (Qa h h7) hn1 (by omega)
 have HCC : Hid (Qb W rb ro row) := hC;obtain ⟨L,hL⟩ : ∃ L,L = row.length := ⟨_,rfl⟩;obtain rfl : c = x + n := by omega
 obtain rfl : L = x + n := by omega
 have hwr : IntKind.i64.wrap ((x : Int) + (n : Int)) = (x : Int) + (n : Int) := Zl _ (by omega) (by omega)
 have HLR : Hid (row.length = x + n) := hL.symm;have HCN : Hid (∀ (V : World) (a : Option Addr) (vc g : Nat),Below W.heap.size W V → Js V g (.slice a n vc) (qe n (32,0,bk,0)) → Calls qP 110 #[.slice (some ⟨V.heap.size,0,none⟩) 3 3] (V.alloc (.cells #[.slice (some ⟨rb,ro,none⟩) x (x + n),.slice (some ⟨rb,ro,none⟩) 0 0,.slice a n vc] 22)) fun e w' => ∃ v',e = .returned v' ∧ w'.ownsRow (V.alloc (.cells #[.slice (some ⟨rb,ro,none⟩) x (x + n),.slice (some ⟨rb,ro,none⟩) 0 0,.slice a n vc] 22)).heap.size 56 4 v' (x + n) (flat (K6 row x n bk)) ∧ Below (V.alloc (.cells #[.slice (some ⟨rb,ro,none⟩) x (x + n),.slice (some ⟨rb,ro,none⟩) 0 0,.slice a n vc] 22)).heap.size (V.alloc (.cells #[.slice (some ⟨rb,ro,none⟩) x (x + n),.slice (some ⟨rb,ro,none⟩) 0 0,.slice a n vc] 22)) w') := fun V a vc g hV hB => by
  have hCV := HCC.out.below hV;have hC1 := hCV.part 0 x (by omega)
  rw [Nat.zero_mul,Nat.add_zero,List.drop_zero] at hC1;have hB2 := hB.cells;obtain ⟨bc,brest,hbv,-⟩ := hB;injection hbv with ha _ _
  subst ha;have hC2 : Qb V rb ro (row.drop (x + n)) := by
   intro j hj;rw [List.length_drop] at hj;omega
  have key := qgc V rb ro rb ro g 0 x 0 n (x + n) 0 vc (row.take x) (row.drop (x + n)) (qe n (32,0,bk,0)) hC1 hC2 hB2 (by rw [List.length_take];omega) (by rw [List.length_drop,← hL,Nat.sub_self]) (List.length_replicate) (by omega)
  rw [show x + (0 + n) = x + n by omega] at key
  exact key
 have b0 : Below W.heap.size W W.drew := (qr _ _).drew;have hx1 : (x : Int) ≤ (x : Int) + (n : Int) := by omega
 have hx2 : (x : Int) ≤ (x : Int) + (n : Int) := by omega
 have hx3 : (x : Int) + (n : Int) ≤ (x : Int) + (n : Int) := by omega
 have hx4 : (0 : Int) ≤ (x : Int) + (n : Int) := by omega
 have hx5 : ((x : Int) + (n : Int)).toNat = x + n := by omega
 have hcI : ¬ (x : Int) + (n : Int) < (x : Int) + (n : Int) := by omega
 have hkk : x + n - (x + n) = 0 := Nat.sub_self _;rw [← hL];clear hp hn hx h7 hC hc hn1 hxn hl hL HCC;generalize K6 row x n bk = res at *;go_enter Tryz.func227,Tryz.ntmps227;go_upto_region 1 with fail
 go_region_held3 (fun w' => w'.cell? ⟨Bp, 0, none⟩ = some (.pointer (some ⟨p, 0, none⟩)) ∧ w'.cell? ⟨Bn, 0, none⟩ = some (.int .i64 (n : Int)) ∧ w'.cell? ⟨p, 3, none⟩ = some (.int .i64 (x : Int)))
  (first | exact SK.out _ q3 | exact SK.out _ q2 | exact SK.out _ q1 | exact SK.out _ b0)
  (first
   | (go_at_call 115;refine (HBL.out _ b0).mono ?_;rintro e V1 ⟨a,vc,g,rfl,hg,hB,b1⟩;have q1 : Below W.heap.size W V1 := b0.trans (b1.mono b0.size);have q2 := q1.alloc q1.size (.cells #[.slice (some ⟨rb,ro,none⟩) x (x + n),.slice (some ⟨rb,ro,none⟩) 0 0,.slice a n vc] 22);have HC1 := HCN.out V1 a vc g q1 hB)
   | (go_at_call 110;(try rw [hkk]);refine HC1.mono ?_;rintro e V2 ⟨v',rfl,hO,b2⟩;have q3 : Below W.heap.size W V2 := q2.trans (b2.mono q2.size);have HFI : Hid _ := And.intro (Grd.Q4 hO q2.size) q3;obtain ⟨za,zc,hzv⟩ := Qz hO;subst hzv))
 all_goals go_wp2_with fail
 all_goals go_ret
 all_goals exact ⟨_,rfl,HFI.out.1,HFI.out.2⟩
theorem qv1 (W : World) (p Bp Bn rb ro c x n : Nat) (bk : Int) (row : List C) (hp : W.cell? ⟨Bp, 0, none⟩ = some (.pointer (some ⟨p, 0, none⟩))) (hn : W.cell? ⟨Bn, 0, none⟩ = some (.int .i64 (n : Int))) (hx : W.cell? ⟨p, 3, none⟩ = some (.int .i64 (x : Int))) (h7 : W.cell? ⟨p, 7, none⟩ = some (.int .i64 bk)) (hC : Qb W rb ro row) (hc : row.length ≤ c) (hn1 : 1 ≤ n) (hxn : x + n ≤ row.length) (hl : row.length ≤ 120) :
  Calls qP 227 #[.slice (some ⟨rb,ro,none⟩) row.length c,.pointer (some ⟨Bp,0,none⟩),.pointer (some ⟨Bn,0,none⟩)] W fun e W' => ∃ v',e = .returned v' ∧ W'.ownsRow W.heap.size 56 4 v' row.length (flat (K6 row x n bk)) ∧ Below W.heap.size W W' := by
 by_cases hcc : x + n < c
 ·exact qzy W p Bp Bn rb ro c x n bk row hp hn hx h7 hC hc hn1 hxn hl hcc
 ·exact qwa W p Bp Bn rb ro c x n bk row hp hn hx h7 hC hc hn1 hxn hl hcc
theorem qu5 : Plain 227 := by
 intro args W
 kernel_rfl
theorem qrr (X : World) (M N p : Nat) (s : Scr) (rows : List (List C)) (hS : ShAt 110 X M N p s rows) (hT : Txt.Tab X) (y x n : Nat) (hsy : s.y = y) (hsx : s.x = x) (hy : y < rows.length) (hn1 : 1 ≤ n) (hxn : x + n ≤ (rows.getD y []).length) (hl : (rows.getD y []).length ≤ 120) :
  Calls qP 195 #[.pointer (some ⟨p,0,none⟩),.int .i64 (n : Int)] X (Ran X M N p s (rows.set y (Zu (Grd.Q7 (K6 (rows.getD y []) x n s.sb))))) := by
 have kb : Below X.heap.size X ((X.alloc (.cells #[.pointer (some ⟨p,0,none⟩)] 83)).alloc (.cells #[.int .i64 (n : Int)] 3)) := ((qr _ _).alloc (qd _) _).alloc (by simp) _
 have h0 : (X.alloc (.cells #[.pointer (some ⟨p,0,none⟩)] 83)).heap[X.heap.size]? = some (.cells #[.pointer (some ⟨p,0,none⟩)] 83 (0,0)) := qf X _;have h0 := (qs (X.alloc (.cells #[.pointer (some ⟨p,0,none⟩)] 83)) (.cells #[.int .i64 (n : Int)] 3) _ (Qc h0)).trans h0;have h1 : ((X.alloc (.cells #[.pointer (some ⟨p,0,none⟩)] 83)).alloc (.cells #[.int .i64 (n : Int)] 3)).heap[X.heap.size + 1]? = some (.cells #[.int .i64 (n : Int)] 3 (0,0)) := by
  have h := qf (X.alloc (.cells #[.pointer (some ⟨p,0,none⟩)] 83)) (.cells #[.int .i64 (n : Int)] 3);have e : (X.alloc (.cells #[.pointer (some ⟨p,0,none⟩)] 83)).heap.size = X.heap.size + 1 := by simp
  rw [e] at h;exact h
 have q0 : ((X.alloc (.cells #[.pointer (some ⟨p,0,none⟩)] 83)).alloc (.cells #[.int .i64 (n : Int)] 3)).cell? ⟨X.heap.size,0,none⟩ = some (.pointer (some ⟨p,0,none⟩)) := by
  unfold World.cell?;rw [h0]
  rfl
 have q1 : ((X.alloc (.cells #[.pointer (some ⟨p,0,none⟩)] 83)).alloc (.cells #[.int .i64 (n : Int)] 3)).cell? ⟨X.heap.size + 1,0,none⟩ = some (.int .i64 (n : Int)) := by
  unfold World.cell?;rw [h1]
  rfl
 obtain ⟨cv,tv,gv,rv,gvs,vs,hA⟩ := hS;have hA2 := ShA.next hA kb;have hlen := ql0 (rows.getD y []) x n s.sb hxn
 have HRL : Hid (∀ V, Below (((X.alloc (.cells #[.pointer (some ⟨p, 0, none⟩)] 83)).alloc (.cells #[.int .i64 (n : Int)] 3))).heap.size ((X.alloc (.cells #[.pointer (some ⟨p, 0, none⟩)] 83)).alloc (.cells #[.int .i64 (n : Int)] 3)) V → Calls qP 113 #[.pointer (some ⟨p, 0, none⟩), .int .i64 (y : Int), .func (.func 227) #[] #[.pointer (some ⟨X.heap.size, 0, none⟩), .pointer (some ⟨X.heap.size + 1, 0, none⟩)]] V (Ran V M N p s (rows.set y (Zu (Grd.Q7 (K6 (rows.getD y []) x n s.sb)))))) := fun V hV => qgb V M N p s rows cv tv gv rv gvs vs (ShA.next hA2 hV) (Grd.Tab.next (Grd.Tab.next hT kb) hV) y hy 227 qu5 #[.pointer (some ⟨X.heap.size, 0, none⟩), .pointer (some ⟨X.heap.size + 1, 0, none⟩)] (K6 (rows.getD y []) x n s.sb) (fun W1 hW0 => by
  have hW1 := hV.trans (hW0.mono hV.size);have hri := (ShA.next hA2 hW1).rin.2 y hy;obtain ⟨⟨-,-,-,c3,-,-,-,c7,-⟩,-,-⟩ := Qr (ShA.next hA2 hW1).blk;rw [hsx] at c3
  rcases hri with ⟨he,-⟩ | ⟨hne,b,o,c,hv,hc1,hc2,hC,-⟩
  ·have h5 := congrArg List.length he
   rw [List.length_nil] at h5;omega
  ·rw [hv]
   refine (qv1 W1 p X.heap.size (X.heap.size + 1) b o c x n s.sb (rows.getD y []) (Qa hW1 q0) (Qa hW1 q1) c3 c7 hC hc1 hn1 hxn hl).mono ?_;rintro e W2 ⟨v',rfl,hO,b2⟩;have hO2 : W2.ownsRow W1.heap.size 56 4 v' (K6 (rows.getD y []) x n s.sb).length (flat (K6 (rows.getD y []) x n s.sb)) := by rw [hlen];exact hO
   rcases Fg.of hO2 with ⟨he,-⟩ | ⟨g,cap,rest,⟨t,ht⟩,hv',hg1,hg2,hg3,hg4⟩
   ·have h5 := congrArg List.length he
    rw [hlen,List.length_nil] at h5;omega
   ·subst ht
    rw [hv']
    exact ⟨g,cap,rest,rfl,hg1,hg2,hg3,hg4,b2⟩) (by rw [hlen];omega)
 have HKB : Hid (Below X.heap.size X ((X.alloc (.cells #[.pointer (some ⟨p,0,none⟩)] 83)).alloc (.cells #[.int .i64 (n : Int)] 3))) := kb;have hNX : N ≤ X.heap.size := Nat.le_trans hA.lo (Nat.le_of_lt (Qc hA.blk));have c4 : ((X.alloc (.cells #[.pointer (some ⟨p,0,none⟩)] 83)).alloc (.cells #[.int .i64 (n : Int)] 3)).cell? ⟨p,4,none⟩ = some (.int .i64 (y : Int)) := by
  obtain ⟨⟨-,-,-,-,c4,-⟩,-,-⟩ := Qr hA2.blk;rw [hsy] at c4;exact c4
 clear hA hA2 h0 h1 kb hsy hsx hlen hT;generalize Zu (Grd.Q7 (K6 (rows.getD y []) x n s.sb)) = row2 at *;go_enter Tryz.func195,Tryz.ntmps195;go_upto_region 1 with fail
 generalize ((X.alloc (.cells #[.pointer (some ⟨p,0,none⟩)] 83)).alloc (.cells #[.int .i64 (n : Int)] 3)) = Z at *;have b0 : Below Z.heap.size Z Z.drew := (qr _ _).drew;clear q1;go_region_with (first | (go_at_call 113;refine (HRL.out _ b0).mono ?_;rintro e V ⟨rfl,hV,bV,fV⟩))
 all_goals go_wp2_with fail
 all_goals go_end0
 all_goals exact ⟨rfl,hV,((HKB.out.trans (b0.mono HKB.out.size)).mono hNX).trans bV,((Q3.of_below HKB.out).trans (Q3.of_below b0)).trans fV⟩
end Put
end Go.Proofs.YtooobiigijphkaaGreatDoor
