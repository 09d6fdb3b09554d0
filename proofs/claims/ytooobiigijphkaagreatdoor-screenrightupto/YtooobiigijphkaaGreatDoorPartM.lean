/- Parts of the proof, shortened by a program. -/
import Derived.Test.YtooobiigijphkaaGreatDoorPartL
import Derived.Test.YtooobiigijphkaaGreatDoorPartE
import Derived.Test.YtooobiigijphkaaGreatDoorPartK
import Derived.Test.YtooobiigijphkaaGreatDoorPartG
import Derived.Test.YtooobiigijphkaaGreatDoorPartF
import Derived.Test.YtooobiigijphkaaGreatDoorPartJ
import Derived.Deep.RegionWith
import Derived.Test.YtooobiigijphkaaGreatDoorPartI
import Derived.Deep.RegionHeld3
import Derived.BigRegion
import Derived.BigQuiet
import Derived.Deep.Cut
import Derived.Deep.CutRange
set_option maxHeartbeats 8000000
open Nat renaming le_refl → qd
open List renaming replicate → qe, getD → qy
open Go renaming heap_alloc_new → qf
open Go.RowKit.Below renaming refl → qr, heap_alloc → qs
open Go.Proofs.Tryz renaming prog → qP
namespace Go.Proofs.YtooobiigijphkaaGreatDoor
set_option linter.unusedVariables false
set_option linter.unusedSimpArgs false
set_option maxRecDepth 100000
open Go.ChangeShapes Go.WideShapes Go.ChangeAt Go.RowKit
namespace Put
open Grd (C SliceAt Qb Qf z0 Q0 flat Qe Js Y5 Zu)
theorem qks (row : List C) (x n : Nat) (bk : Int) (h : x + n ≤ row.length) (i : Nat) (hi : i < row.length) : (Gs row x n bk).getD i z0 = if i < x then row.getD i z0 else if i < x + n then (32,0,bk,0) else row.getD (i - n) z0 := by
 have e1 : (row.take x).length = x := by rw [List.length_take];omega
 unfold Gs
 by_cases h1 : i < x
 ·rw [if_pos h1]
  simp only [qy];rw [List.getElem?_append_left (by omega),List.getElem?_take_of_lt h1]
 ·rw [if_neg h1]
  simp only [qy];rw [List.getElem?_append_right (by omega),e1]
  by_cases h2 : i < x + n
  ·rw [if_pos h2, List.getElem?_append_left (by rw [List.length_replicate]; omega), List.getElem?_replicate, if_pos (by omega)]
   rfl
  ·rw [if_neg h2,List.getElem?_append_right (by rw [List.length_replicate];omega),List.length_replicate,List.getElem?_take_of_lt (by omega),List.getElem?_drop,show x + (i - x - n) = i - n by omega]
theorem qdz {row : List C} (hr : Grd.V4 row) (x n : Nat) (bk : Int) (hn : 1 ≤ n) (hx : x + n ≤ row.length) (hs : Sty.Q5 (0,bk,0) = true) : Grd.V4 (Gs row x n bk) := fun i hi => by
 rw [Uy _ _ _ _ hx] at hi;rw [qks _ _ _ _ hx i hi]
 by_cases h1 : i < x
 ·rw [if_pos h1]
  refine ⟨(hr i hi).1,(hr i hi).2.1,fun h0 hp hw => ?_⟩
  rw [qks _ _ _ _ hx (i - 1) (by omega),if_pos (by omega)] at hw ⊢
  exact (hr i hi).2.2 h0 hp hw
 ·rw [if_neg h1]
  by_cases h2 : i < x + n
  ·rw [if_pos h2]
   exact ⟨fun _ => by dsimp only;rw [Grd.wd32];decide,hs,fun h => absurd h (by simp)⟩
  ·rw [if_neg h2]
   have hi2 : i - n < row.length := by omega
   refine ⟨(hr _ hi2).1,(hr _ hi2).2.1,fun h0 hp hw => ?_⟩
   rw [qks _ _ _ _ hx (i - 1) (by omega),if_neg (by omega)] at hw ⊢
   by_cases h3 : i - 1 < x + n
   ·rw [if_pos h3] at hw
    dsimp only at hw
    rw [Grd.wd32] at hw;exact absurd hw (by decide)
   ·rw [if_neg h3] at hw ⊢
    rw [show i - 1 - n = i - n - 1 by omega] at hw ⊢
    exact (hr _ hi2).2.2 h0 (by omega) hw
theorem qu4 : Plain 114 := by
 intro args W
 kernel_rfl
theorem qf7 (X : World) (M N p : Nat) (s : Scr) (rows : List (List C)) (hS : ShAt 110 X M N p s rows) (hT : Txt.Tab X) (y x n : Nat) (hsy : s.y = y) (hsx : s.x = x) (hy : y < rows.length) (hn1 : 1 ≤ n) (hxn : x + n ≤ (rows.getD y []).length) (hl : (rows.getD y []).length ≤ 120) (hm : Grd.V4 (rows.getD y [])) (hst : Sty.Q5 (0, s.sb, 0) = true) :
  Calls qP 66 #[.pointer (some ⟨p,0,none⟩),.int .i64 (n : Int)] X (Ran X M N p s (rows.set y (Zu (Gs (rows.getD y []) x n s.sb)))) := by
 have kb : Below X.heap.size X ((X.alloc (.cells #[.pointer (some ⟨p,0,none⟩)] 83)).alloc (.cells #[.int .i64 (n : Int)] 3)) := ((qr _ _).alloc (qd _) _).alloc (by simp) _
 have h0 : (X.alloc (.cells #[.pointer (some ⟨p,0,none⟩)] 83)).heap[X.heap.size]? = some (.cells #[.pointer (some ⟨p,0,none⟩)] 83 (0,0)) := qf X _;have h0 := (qs (X.alloc (.cells #[.pointer (some ⟨p,0,none⟩)] 83)) (.cells #[.int .i64 (n : Int)] 3) _ (Qc h0)).trans h0;have h1 : ((X.alloc (.cells #[.pointer (some ⟨p,0,none⟩)] 83)).alloc (.cells #[.int .i64 (n : Int)] 3)).heap[X.heap.size + 1]? = some (.cells #[.int .i64 (n : Int)] 3 (0,0)) := by
  have h := qf (X.alloc (.cells #[.pointer (some ⟨p,0,none⟩)] 83)) (.cells #[.int .i64 (n : Int)] 3);have e : (X.alloc (.cells #[.pointer (some ⟨p,0,none⟩)] 83)).heap.size = X.heap.size + 1 := by simp
  rw [e] at h;exact h
 have q0 : ((X.alloc (.cells #[.pointer (some ⟨p,0,none⟩)] 83)).alloc (.cells #[.int .i64 (n : Int)] 3)).cell? ⟨X.heap.size,0,none⟩ = some (.pointer (some ⟨p,0,none⟩)) := by
  unfold World.cell?;rw [h0]
  rfl
 have q1 : ((X.alloc (.cells #[.pointer (some ⟨p,0,none⟩)] 83)).alloc (.cells #[.int .i64 (n : Int)] 3)).cell? ⟨X.heap.size + 1,0,none⟩ = some (.int .i64 (n : Int)) := by
  unfold World.cell?;rw [h1]
  rfl
 obtain ⟨cv,tv,gv,rv,gvs,vs,hA⟩ := hS;have hA2 := ShA.next hA kb;have hlen := Uy (rows.getD y []) x n s.sb hxn
 have HRL : Hid (∀ V, Below (((X.alloc (.cells #[.pointer (some ⟨p, 0, none⟩)] 83)).alloc (.cells #[.int .i64 (n : Int)] 3))).heap.size ((X.alloc (.cells #[.pointer (some ⟨p, 0, none⟩)] 83)).alloc (.cells #[.int .i64 (n : Int)] 3)) V → Calls qP 113 #[.pointer (some ⟨p, 0, none⟩), .int .i64 (y : Int), .func (.func 114) #[] #[.pointer (some ⟨X.heap.size, 0, none⟩), .pointer (some ⟨X.heap.size + 1, 0, none⟩)]] V (Ran V M N p s (rows.set y (Zu (Gs (rows.getD y []) x n s.sb))))) := fun V hV => qd4 V M N p s rows cv tv gv rv gvs vs (ShA.next hA2 hV) (Grd.Tab.next (Grd.Tab.next hT kb) hV) y hy 114 qu4 #[.pointer (some ⟨X.heap.size, 0, none⟩), .pointer (some ⟨X.heap.size + 1, 0, none⟩)] (Gs (rows.getD y []) x n s.sb) (fun W1 hW0 => by
  have hW1 := hV.trans (hW0.mono hV.size);have hri := (ShA.next hA2 hW1).rin.2 y hy;obtain ⟨⟨-,-,-,c3,-,-,-,c7,-⟩,-,-⟩ := Qr (ShA.next hA2 hW1).blk;rw [hsx] at c3
  rcases hri with ⟨he,-⟩ | ⟨hne,b,o,c,hv,hc1,hc2,hC,-⟩
  ·have h5 := congrArg List.length he
   rw [List.length_nil] at h5;omega
  ·rw [hv]
   refine (qxg W1 p X.heap.size (X.heap.size + 1) b o c x n s.sb (rows.getD y []) (Qa hW1 q0) (Qa hW1 q1) c3 c7 hC hc1 hn1 hxn hl).mono ?_;rintro e W2 ⟨v',rfl,hO,b2⟩;have hO2 : W2.ownsRow W1.heap.size 56 4 v' (Gs (rows.getD y []) x n s.sb).length (flat (Gs (rows.getD y []) x n s.sb)) := by rw [hlen];exact hO
   rcases Fg.of hO2 with ⟨he,-⟩ | ⟨g,cap,rest,⟨t,ht⟩,hv',hg1,hg2,hg3,hg4⟩
   ·have h5 := congrArg List.length he
    rw [hlen,List.length_nil] at h5;omega
   ·subst ht
    rw [hv']
    exact ⟨g,cap,rest,rfl,hg1,hg2,hg3,hg4,b2⟩) (qdz hm x n s.sb hn1 hxn hst).alike (by rw [hlen];omega)
 have HKB : Hid (Below X.heap.size X ((X.alloc (.cells #[.pointer (some ⟨p,0,none⟩)] 83)).alloc (.cells #[.int .i64 (n : Int)] 3))) := kb;have hNX : N ≤ X.heap.size := Nat.le_trans hA.lo (Nat.le_of_lt (Qc hA.blk));have c4 : ((X.alloc (.cells #[.pointer (some ⟨p,0,none⟩)] 83)).alloc (.cells #[.int .i64 (n : Int)] 3)).cell? ⟨p,4,none⟩ = some (.int .i64 (y : Int)) := by
  obtain ⟨⟨-,-,-,-,c4,-⟩,-,-⟩ := Qr hA2.blk;rw [hsy] at c4;exact c4
 clear hA hA2 h0 h1 kb hm hst hsy hsx hlen hT;generalize Zu (Gs (rows.getD y []) x n s.sb) = row2 at *;go_enter Tryz.func66,Tryz.ntmps66;go_upto_region 1 with fail
 generalize ((X.alloc (.cells #[.pointer (some ⟨p,0,none⟩)] 83)).alloc (.cells #[.int .i64 (n : Int)] 3)) = Z at *;have b0 : Below Z.heap.size Z Z.drew := (qr _ _).drew;clear q1;go_region_with (first | (go_at_call 113;refine (HRL.out _ b0).mono ?_;rintro e V ⟨rfl,hV,bV,fV⟩))
 all_goals go_wp2_with fail
 all_goals go_end0
 all_goals exact ⟨rfl,hV,((HKB.out.trans (b0.mono HKB.out.size)).mono hNX).trans bV,((Q3.of_below HKB.out).trans (Q3.of_below b0)).trans fV⟩
end Put
namespace Put
open Grd (C)
theorem qxu (rows : List (List C)) (n : Nat) (bk : Int) (top bot : Nat) (htb : top ≤ bot) (hb : bot < rows.length) (y : Nat) :
  (Zq rows n bk top bot).getD y [] = if y < top then rows.getD y [] else if y < bot then rows.getD (y + 1) [] else if y = bot then qe n (32,0,bk,0) else rows.getD y [] := by
 have hl : (rows.eraseIdx top).length = rows.length - 1 := List.length_eraseIdx_of_lt (by omega)
 unfold Zq;rw [Kv _ _ _ _ _ (by omega)]
 by_cases h1 : y < top
 ·rw [if_pos h1,if_pos (by omega),Yi,if_pos h1]
 ·rw [if_neg h1]
  by_cases h2 : y < bot
  ·rw [if_pos h2,if_pos h2,Yi,if_neg h1]
  ·rw [if_neg h2, if_neg h2]
   by_cases h3 : y = bot
   ·rw [if_pos h3,if_pos h3]
   ·rw [if_neg h3,if_neg h3,Yi,if_neg (by omega),show y - 1 + 1 = y by omega]
theorem qph (rows : List (List C)) (n : Nat) (bk : Int) (top bot : Nat) (htb : top ≤ bot) (hb : bot < rows.length) (y : Nat) :
  (Zq rows n bk bot top).getD y [] = if y < top then rows.getD y [] else if y = top then qe n (32,0,bk,0) else if y ≤ bot then rows.getD (y - 1) [] else rows.getD y [] := by
 have hl : (rows.eraseIdx bot).length = rows.length - 1 := List.length_eraseIdx_of_lt (by omega)
 unfold Zq;rw [Kv _ _ _ _ _ (by omega)]
 by_cases h1 : y < top
 ·rw [if_pos h1,if_pos h1,Yi,if_pos (by omega)]
 ·rw [if_neg h1, if_neg h1]
  by_cases h2 : y = top
  ·rw [if_pos h2,if_pos h2]
  ·rw [if_neg h2, if_neg h2, Yi]
   by_cases h3 : y ≤ bot
   ·rw [if_pos h3,if_pos (by omega)]
   ·rw [if_neg h3,if_neg (by omega),show y - 1 + 1 = y by omega]
end Put
namespace Put
open Grd (C SliceAt Qb Qf z0 Q0 flat Qe Q8 wd32)
open Sty (Q5)
def Jd (n : Nat) (rows : List (List C)) : Prop := ∀ i,i < rows.length → (rows.getD i []).length = n ∧ Q8 (rows.getD i [])
theorem Gl {s : Scr} {n hh : Nat} (h : Qg s n hh) : Jd n (Qe n s.cs hh) := fun i hi => by
 rw [Grd.Qt] at hi;have e2 : (Qe n s.cs hh).getD i [] = Grd.rowAt n s.cs i := by simp [Qe,qy,hi]
 rw [e2];exact ⟨Grd.qbf n hh s.cs i h.cl hi,((Grd.Zd n hh s.cs).1 h.gz).2.2 i hi⟩
theorem qhn {s : Scr} {n hh : Nat} (h : Qg s n hh) : Q5 (0,s.sb,0) = true := by
 have h1 := h.looks;simp only [Za,Bool.and_eq_true] at h1;have h2 := h1.1;simp only [Q5,decide_eq_true_eq] at h2 ⊢;omega
theorem qys {a b : List (List C)} (hl : a.length = b.length) (h : ∀ i,i < a.length → a.getD i [] = b.getD i []) : a = b := by
 apply List.ext_getElem hl;intro i h1 h2;have := h i h1;simpa [qy,h1,h2] using this
theorem qg1 (n : Nat) (row : List C) (hn1 : 1 ≤ n) (hn2 : n ≤ 120) (hl : row.length = n) (hr : Q8 row) : Qf n 1 row = 0 := by
 refine (Grd.Zd n 1 row).2 ⟨?_,by omega,fun y hy => ?_⟩
 ·simp [Grd.Zk]
  omega
 ·have e : y = 0 := by omega
  subst e;have e2 : Grd.rowAt n row 0 = row := by
   unfold Grd.rowAt;rw [Nat.zero_mul,List.drop_zero,List.take_of_length_le (by omega)]
  rw [e2];exact hr
theorem qgf (n : Nat) (rows : List (List C)) (hr : ∀ i,i < rows.length → (rows.getD i []).length = n) (i : Nat) (hi : i < rows.length) : Grd.rowAt n rows.flatten i = rows.getD i [] := by
 have h1 := Grd.Yb n rows hr i (by omega)
 have h2 : rows.flatten = (rows.take i).flatten ++ (rows.drop i).flatten := by rw [← List.flatten_append,List.take_append_drop]
 have h3 : rows.getD i [] = rows[i] := by simp [qy,hi]
 have h4 := hr i hi;rw [h3] at h4;unfold Grd.rowAt;rw [h2,List.drop_left' h1,List.drop_eq_getElem_cons hi,List.flatten_cons,List.take_left' h4,h3]
theorem F6 (n : Nat) (bk : Int) (hs : Q5 (0,bk,0) = true) : Q8 (qe n ((32,0,bk,0) : C)) := by
 have hg : ∀ x,x < n → (qe n ((32,0,bk,0) : C)).getD x z0 = (32,0,bk,0) := fun x hx => by simp [qy,hx]
 refine ⟨fun x hx => ?_,fun x hx => ?_⟩
 ·rw [List.length_replicate] at hx
  rw [hg x hx];exact ⟨fun _ => by dsimp only;rw [wd32];decide,hs,fun h => absurd h (by simp)⟩
 ·rw [List.length_replicate] at hx
  unfold Grd.loose;rw [hg x hx,if_neg (by simp)]
  dsimp only
  rw [wd32]
  rfl
theorem Jd.up {n : Nat} {rows : List (List C)} (h : Jd n rows) (bk : Int) (hs : Q5 (0,bk,0) = true) (top bot : Nat) (htb : top ≤ bot) (hb : bot < rows.length) : Jd n (Zq rows n bk top bot) := fun i hi => by
 rw [Xm _ _ _ _ _ (by omega) hb] at hi
 rw [qxu _ _ _ _ _ htb hb];split
 ·exact h i hi
 ·split
  ·exact h (i + 1) (by omega)
  ·split
   ·exact ⟨List.length_replicate,F6 n bk hs⟩
   ·exact h i hi
theorem Jd.down {n : Nat} {rows : List (List C)} (h : Jd n rows) (bk : Int) (hs : Q5 (0,bk,0) = true) (top bot : Nat) (htb : top ≤ bot) (hb : bot < rows.length) : Jd n (Zq rows n bk bot top) := fun i hi => by
 rw [Xm _ _ _ _ _ hb (by omega)] at hi
 rw [qph _ _ _ _ _ htb hb];split
 ·exact h i hi
 ·split
  ·exact ⟨List.length_replicate,F6 n bk hs⟩
  ·split
   ·exact h (i - 1) (by omega)
   ·exact h i hi
theorem Ux {s : Scr} {n hh : Nat} (h : Qg s n hh) (g : List (List C)) (rows' : List (List C)) (hl : rows'.length = hh) (hRR : Jd n rows') (hg1 : g.length ≤ 50) (hg2 : ∀ row,row ∈ g → Qf row.length 1 row = 0) : Qg { s with gone := g,cs := rows'.flatten } n hh ∧ Qe n rows'.flatten hh = rows' := by
 have hlen := Grd.Yb n rows' (fun i hi => (hRR i hi).1) hh (by omega)
 rw [← hl,List.take_length,hl,Nat.mul_comm] at hlen
 have hgz : Qf n hh rows'.flatten = 0 := (Grd.Zd n hh _).2 ⟨((Grd.Zd n hh _).1 h.gz).1, hlen, fun y hy => by
  rw [qgf n rows' (fun i hi => (hRR i hi).1) y (by omega)]
  exact (hRR y (by omega)).2⟩
 refine ⟨⟨h.w,h.h,h.n1,h.n2,h.h1,h.h2,hlen,hgz,h.x0,h.x1,h.y0,h.y1,h.kx0,h.kx1,h.ky0,h.ky1,h.t0,h.t1,h.t2,h.t3,h.late,h.looks,h.tl,h.la,h.ti,hg1,hg2⟩,?_⟩;refine qys (by rw [Grd.Qt,hl]) fun i hi => ?_
 rw [Grd.Qt] at hi;have e2 : (Qe n rows'.flatten hh).getD i [] = Grd.rowAt n rows'.flatten i := by simp [Qe,qy,hi]
 rw [e2,qgf n rows' (fun i hi => (hRR i hi).1) i (by omega)]
structure Zi (s : Scr) (n hh : Nat) (x : Scr × List (List C)) : Prop where
 e : x.1 = { s with gone := x.1.gone }
 l : x.2.length = hh
 r : Jd n x.2
 g1 : x.1.gone.length ≤ 50
 g2 : ∀ row,row ∈ x.1.gone → Qf row.length 1 row = 0
theorem Zi.start {s : Scr} {n hh : Nat} (h : Qg s n hh) : Zi s n hh (s,Qe n s.cs hh) := ⟨rfl,Grd.Qt _ _ _,Gl h,h.gl,h.gr⟩
theorem Zi.sb {s : Scr} {n hh : Nat} {x : Scr × List (List C)} (h : Zi s n hh x) : x.1.sb = s.sb := by rw [h.e]
theorem Zi.up {s : Scr} {n hh : Nat} {x : Scr × List (List C)} (hR : Qg s n hh) (h : Zi s n hh x) (top bot : Nat) (keep : Bool) (htb : top ≤ bot) (hb : bot < hh) : Zi s n hh (rUp n top bot keep x) := by
 have hl := h.l;have hs : Q5 (0,x.1.sb,0) = true := by rw [h.sb];exact qhn hR
 have e1 : (Zq x.2 n x.1.sb top bot).length = hh := by rw [Xm _ _ _ _ _ (by omega) (by omega),hl]
 have e2 := h.r.up x.1.sb hs top bot htb (by omega)
 unfold rUp;split
 ·refine ⟨?_, e1, e2, Uv _ _ h.g1, fun r hm => ?_⟩
  ·show ({ x.1 with gone := Ye x.1.gone (x.2.getD 0 []) } : Scr) = { s with gone := Ye x.1.gone (x.2.getD 0 []) }
   generalize Ye x.1.gone (x.2.getD 0 []) = gg;rw [h.e]
  rcases qbg hm with q | q
  ·exact h.g2 r q
  ·have h0 := h.r 0 (by omega)
   rw [q,h0.1];exact qg1 n _ hR.n1 hR.n2 h0.1 h0.2
 ·exact ⟨h.e,e1,e2,h.g1,h.g2⟩
theorem Zi.dn {s : Scr} {n hh : Nat} {x : Scr × List (List C)} (hR : Qg s n hh) (h : Zi s n hh x) (top bot : Nat) (htb : top ≤ bot) (hb : bot < hh) : Zi s n hh (rDn n top bot x) := by
 have hl := h.l;have hs : Q5 (0,x.1.sb,0) = true := by rw [h.sb];exact qhn hR
 exact ⟨h.e,by show (Zq x.2 n x.1.sb bot top).length = hh;rw [Xm _ _ _ _ _ (by omega) (by omega),hl],h.r.down x.1.sb hs top bot htb (by omega),h.g1,h.g2⟩
theorem Zi.iter {s : Scr} {n hh : Nat} {f : Scr × List (List C) → Scr × List (List C)} (hf : ∀ x, Zi s n hh x → Zi s n hh (f x)) (x : Scr × List (List C)) (h : Zi s n hh x) : ∀ j, Zi s n hh (Zy f j x)
 | 0 => h
 | j + 1 => hf _ (Zi.iter hf x h j)
theorem Zi.right {s : Scr} {n hh : Nat} {x : Scr × List (List C)} (hR : Qg s n hh) (h : Zi s n hh x) : Qg { x.1 with cs := x.2.flatten } n hh ∧ Qe n x.2.flatten hh = x.2 := by
 have k := Ux hR x.1.gone x.2 h.l h.r h.g1 h.g2;refine ⟨?_,k.2⟩;have e : ({ x.1 with cs := x.2.flatten } : Scr) = { s with gone := x.1.gone,cs := x.2.flatten } := by
  have he := h.e;generalize x.1 = a at he ⊢;rw [he]
 rw [e];exact k.1
end Put
namespace Put
open Grd (C SliceAt Qb Qf z0 Q0 flat Qe Zu Q8)
open Sty (Q5)
def onw (s : Scr) (k : Int) : Int := min (cnt k) (s.w - s.x)
theorem qba {s : Scr} {n hh : Nat} (hR : Qg s n hh) (k : Int) : 1 ≤ onw s k ∧ s.x + onw s k ≤ n := by
 have := Xw k;have := hR.w;have := hR.x1;unfold onw;omega
theorem qas {s : Scr} {n hh : Nat} (hR : Qg s n hh) : Q5 (0,s.sb,0) = true := by
 have hk := hR.looks;simp only [Za,Bool.and_eq_true] at hk;have h2 := hk.1;simp only [Q5,decide_eq_true_eq] at h2 ⊢;omega
theorem qg6 {n : Nat} {rows : List (List C)} (h : Jd n rows) (y : Nat) (row : List C) (hl : row.length = n) (hr : Q8 row) : Jd n (rows.set y row) := fun i hi => by
 rw [List.length_set] at hi
 by_cases e : y = i
 ·subst e
  have e2 : (rows.set y row).getD y [] = row := by simp [qy,hi]
  rw [e2];exact ⟨hl,hr⟩
 ·have e2 : (rows.set y row).getD i [] = rows.getD i [] := by simp [qy, List.getElem?_set_ne e]
  rw [e2];exact h i hi
theorem Qg.qd0 {s : Scr} {n hh : Nat} (h : Qg s n hh) : Qg { s with late := false } n hh :=
 ⟨h.w,h.h,h.n1,h.n2,h.h1,h.h2,h.cl,h.gz,h.x0,h.x1,h.y0,h.y1,h.kx0,h.kx1,h.ky0,h.ky1,h.t0,h.t1,h.t2,h.t3,by unfold Z6;rfl,h.looks,h.tl,h.la,h.ti,h.gl,h.gr⟩
theorem qhg (W : World) (M N p : Nat) (s : Scr) (rows : List (List C)) (hS : ShAt 110 W M N p s rows) (k : Int) (h0 : 0 ≤ s.x) (h1 : s.x ≤ 120) (w1 : 1 ≤ s.w) (w2 : s.w ≤ 120) :
  Calls qP 187 #[.pointer (some ⟨p,0,none⟩),.int .i64 k] W fun e W' => e = .returned (.int .i64 (onw s k)) ∧ Below W.heap.size W W' := by
 have b0 : Below W.heap.size W W.drew := (qr _ _).drew;obtain ⟨c0,-,c3,-⟩ := (hS.next b0).words;have HC : Hid (∀ V,Calls qP 225 #[.int .i64 k] V fun e w' => e = .returned (.int .i64 (cnt k)) ∧ V = w') := fun V => qc0 k V
 have hwr : IntKind.i64.wrap (s.w - s.x) = s.w - s.x := Zl _ (by omega) (by omega)
 have mn := Grd.min2 (cnt k) (s.w - s.x);have HB : Hid (Below W.heap.size W W.drew) := b0;unfold onw;generalize cnt k = q at *;clear hS b0;go_enter Tryz.func187,Tryz.ntmps187;go_upto_region 1 with fail
 go_region_with (first | (go_at_call 225;refine (HC.out _).mono ?_;rintro e V ⟨rfl,hv⟩;subst hv))
 all_goals go_wp2_with fail
 all_goals go_ret
 all_goals exact ⟨rfl,HB.out⟩
theorem qtq (k : Int) (B1 M : Nat) (w : World) (hT : Txt.Tab w) (s : Scr) (rows : List (List C)) (x y n m : Nat) (hB1 : w.cell? ⟨B1, 0, none⟩ = some (.int .i64 k)) (hsx : s.x = x) (hsy : s.y = y) (hw : s.w = n) (hn2 : n ≤ 120) (hy : y < rows.length) (hrow : (rows.getD y []).length = n) (hm : onw s k = m) (hm1 : 1 ≤ m) (hxm : x + m ≤ n) (hmt : Grd.V4 (rows.getD y [])) (hst : Q5 (0, s.sb, 0) = true) :
  Does 186 #[.pointer (some ⟨B1,0,none⟩)] M w s { s with late := false } rows (rows.set y (Zu (Gs (rows.getD y []) x m s.sb))) := by
 intro W p hb hS;have hT2 := Grd.Tab.next hT hb;have hTp := Txt.Tab.pos hT;obtain ⟨-,-,-,-,c5,-,-,-,-,f⟩ := hS.words;have f5 := f 5;obtain ⟨hS1,hB2,hF1⟩ := hS.put 5 (.bool false) (s' := { s with late := false }) (fun _ _ _ _ => rfl) rfl rfl
 have hT3 : Txt.Tab (W.setCell ⟨p,5,none⟩ (.bool false)) := Txt.Tab.below hT2 hB2 hTp;have HB : Hid (Below w.heap.size W (W.setCell ⟨p,5,none⟩ (.bool false))) := hB2;have q1 : (W.setCell ⟨p,5,none⟩ (.bool false)).cell? ⟨B1,0,none⟩ = some (.int .i64 k) := Qa (hb.trans hB2) hB1;have HO := qhg (W.setCell ⟨p,5,none⟩ (.bool false)) M w.heap.size p { s with late := false } rows hS1 k (by show 0 ≤ s.x;omega) (by show s.x ≤ 120;omega) (by show 1 ≤ s.w;omega) (by show s.w ≤ 120;omega)
 rw [show onw { s with late := false } k = (m : Int) from hm] at HO
 have HDE : Hid (∀ V,Below (W.setCell ⟨p,5,none⟩ (.bool false)).heap.size (W.setCell ⟨p,5,none⟩ (.bool false)) V → Calls qP 66 #[.pointer (some ⟨p,0,none⟩),.int .i64 (m : Int)] V (Ran V M w.heap.size p { s with late := false } (rows.set y (Zu (Gs (rows.getD y []) x m s.sb))))) := fun V hV => qf7 V M w.heap.size p { s with late := false } rows (hS1.next hV) (Grd.Tab.next hT3 hV) y x m hsy hsx hy hm1 (by rw [hrow];exact hxm) (by rw [hrow];exact hn2) hmt hst
 have hNs : w.heap.size ≤ (W.setCell ⟨p,5,none⟩ (.bool false)).heap.size := Nat.le_trans hb.size hB2.size;clear hS hS1 hF1 hB1 hT hT2 hT3 hTp hb hB2 f;generalize rows.set y (Zu (Gs (rows.getD y []) x m s.sb)) = rows2 at *;go_enter Tryz.func186,Tryz.ntmps186;go_upto_region 1 with fail
 generalize (W.setCell ⟨p,5,none⟩ (.bool false)) = X at *;clear c5 f5;go_wp2_with fail;refine HO.mono ?_;rintro e V ⟨rfl,b1⟩;have HD := HDE.out V b1;have HBV : Hid (Below w.heap.size W V) := HB.out.trans (b1.mono hNs);clear HO HDE b1 q1;go_wp2_with fail;refine HD.mono ?_;rintro e V2 ⟨rfl,h1,h2,-⟩;have HE : Hid (ShAt 110 V2 M w.heap.size p { s with late := false } rows2 ∧ Below w.heap.size W V2) := ⟨h1,HBV.out.trans h2⟩
 clear h1 h2 HD;go_wp2_with fail;go_end0;exact ⟨rfl,HE.out⟩
theorem qto (k : Int) (B1 M : Nat) (w : World) (hT : Txt.Tab w) (s : Scr) (rows : List (List C)) (x y n m : Nat) (hB1 : w.cell? ⟨B1, 0, none⟩ = some (.int .i64 k)) (hsx : s.x = x) (hsy : s.y = y) (hw : s.w = n) (hn2 : n ≤ 120) (hy : y < rows.length) (hrow : (rows.getD y []).length = n) (hm : onw s k = m) (hm1 : 1 ≤ m) (hxm : x + m ≤ n) :
  Does 194 #[.pointer (some ⟨B1,0,none⟩)] M w s { s with late := false } rows (rows.set y (Zu (Grd.Q7 (K6 (rows.getD y []) x m s.sb)))) := by
 intro W p hb hS;have hT2 := Grd.Tab.next hT hb;have hTp := Txt.Tab.pos hT;obtain ⟨-,-,-,-,c5,-,-,-,-,f⟩ := hS.words;have f5 := f 5;obtain ⟨hS1,hB2,hF1⟩ := hS.put 5 (.bool false) (s' := { s with late := false }) (fun _ _ _ _ => rfl) rfl rfl
 have hT3 : Txt.Tab (W.setCell ⟨p,5,none⟩ (.bool false)) := Txt.Tab.below hT2 hB2 hTp;have HB : Hid (Below w.heap.size W (W.setCell ⟨p,5,none⟩ (.bool false))) := hB2;have q1 : (W.setCell ⟨p,5,none⟩ (.bool false)).cell? ⟨B1,0,none⟩ = some (.int .i64 k) := Qa (hb.trans hB2) hB1;have HO := qhg (W.setCell ⟨p,5,none⟩ (.bool false)) M w.heap.size p { s with late := false } rows hS1 k (by show 0 ≤ s.x;omega) (by show s.x ≤ 120;omega) (by show 1 ≤ s.w;omega) (by show s.w ≤ 120;omega)
 rw [show onw { s with late := false } k = (m : Int) from hm] at HO
 have HDE : Hid (∀ V,Below (W.setCell ⟨p,5,none⟩ (.bool false)).heap.size (W.setCell ⟨p,5,none⟩ (.bool false)) V → Calls qP 195 #[.pointer (some ⟨p,0,none⟩),.int .i64 (m : Int)] V (Ran V M w.heap.size p { s with late := false } (rows.set y (Zu (Grd.Q7 (K6 (rows.getD y []) x m s.sb)))))) := fun V hV => qrr V M w.heap.size p { s with late := false } rows (hS1.next hV) (Grd.Tab.next hT3 hV) y x m hsy hsx hy hm1 (by rw [hrow];exact hxm) (by rw [hrow];exact hn2)
 have hNs : w.heap.size ≤ (W.setCell ⟨p,5,none⟩ (.bool false)).heap.size := Nat.le_trans hb.size hB2.size;clear hS hS1 hF1 hB1 hT hT2 hT3 hTp hb hB2 f;generalize rows.set y (Zu (Grd.Q7 (K6 (rows.getD y []) x m s.sb))) = rows2 at *;go_enter Tryz.func194,Tryz.ntmps194;go_upto_region 1 with fail
 generalize (W.setCell ⟨p,5,none⟩ (.bool false)) = X at *;clear c5 f5;go_wp2_with fail;refine HO.mono ?_;rintro e V ⟨rfl,b1⟩;have HD := HDE.out V b1;have HBV : Hid (Below w.heap.size W V) := HB.out.trans (b1.mono hNs);clear HO HDE b1 q1;go_wp2_with fail;refine HD.mono ?_;rintro e V2 ⟨rfl,h1,h2,-⟩;have HE : Hid (ShAt 110 V2 M w.heap.size p { s with late := false } rows2 ∧ Below w.heap.size W V2) := ⟨h1,HBV.out.trans h2⟩
 clear h1 h2 HD;go_wp2_with fail;go_end0;exact ⟨rfl,HE.out⟩
theorem qic : Plain 186 := by
 intro args W
 kernel_rfl
def cinR (s : Scr) (n hh : Nat) (k : Int) : List (List C) := (Qe n s.cs hh).set s.y.toNat (Zu (Gs ((Qe n s.cs hh).getD s.y.toNat []) s.x.toNat (onw s k).toNat s.sb))
def cinS (s : Scr) (n hh : Nat) (k : Int) : Scr := { s with late := false,cs := (cinR s n hh k).flatten }
theorem qno {s : Scr} {n hh : Nat} (hR : Qg s n hh) (k : Int) : (cinR s n hh k).length = hh ∧ Jd n (cinR s n hh k) := by
 have hw := hR.w;have x0 := hR.x0;have x1 := hR.x1;have y0 := hR.y0;have y1 := hR.y1;have hm := qba hR k;have h0 := Gl hR;have hl := Grd.Qt n s.cs hh;have hrow := h0 s.y.toNat (by rw [hl];omega)
 unfold cinR;refine ⟨by rw [List.length_set,hl],qg6 h0 _ _ ?_ ?_⟩
 ·rw [Grd.Ka,Uy _ _ _ _ (by rw [hrow.1];omega),hrow.1]
 ·exact Grd.G9 _ (qdz hrow.2.1 _ _ _ (by omega) (by rw [hrow.1];omega) (qas hR))
theorem qvh {s : Scr} {n hh : Nat} (hR : Qg s n hh) (k : Int) : Qg (cinS s n hh k) n hh := by
 have h := qno hR k;have h1 := (Ux hR s.gone (cinR s n hh k) h.1 h.2 hR.gl hR.gr).1;exact h1.qd0
theorem qmd {w0 w : World} {s : Scr} {cv tv gv : Value} {n hh : Nat} (h : Met w0 w s cv tv gv) (hR : Qg s n hh) (k : Int) : Calls qP 144 #[.agg (scrA s cv tv gv),.int .i64 k] w (Made w0 w (cinS s n hh k) 0) := by
 have hw := hR.w;have x0 := hR.x0;have x1 := hR.x1;have y0 := hR.y0;have y1 := hR.y1;have hm := qba hR k;have h0 := Gl hR;have hl := Grd.Qt n s.cs hh;have hrow := h0 s.y.toNat (by rw [hl];omega)
 have hr := qno hR k;exact qcc s _ cv tv gv k 0 w0 w h.v h.b.size fun W B hW hB => K7 (s' := { s with late := false }) (h.next hW) hR _ qic _ (cinR s n hh k) _ (fun w1 hw1 => qtq k B _ w1 (Grd.Tab.next (h.next hW).t hw1) s _ s.x.toNat s.y.toNat n (onw s k).toNat (Qa hw1 hB) (by omega) (by omega) hw hR.n2 (by rw [hl];omega) hrow.1 (by omega) (by omega) (by omega) hrow.2.1 (qas hR)) (F8 hR _ _ hr.1 (fun i hi => (hr.2 i hi).1) (Nat.le_succ_of_le hR.gl) (fun i hi => by have := hR.Ue i hi;exact Nat.le_trans this (by omega))) rfl
theorem qhw : Plain 194 := by
 intro args W
 kernel_rfl
def cdlR (s : Scr) (n hh : Nat) (k : Int) : List (List C) := (Qe n s.cs hh).set s.y.toNat (Zu (Grd.Q7 (K6 ((Qe n s.cs hh).getD s.y.toNat []) s.x.toNat (onw s k).toNat s.sb)))
def cdlS (s : Scr) (n hh : Nat) (k : Int) : Scr := { s with late := false,cs := (cdlR s n hh k).flatten }
theorem qlv {s : Scr} {n hh : Nat} (hR : Qg s n hh) (k : Int) : (cdlR s n hh k).length = hh ∧ Jd n (cdlR s n hh k) := by
 have hw := hR.w;have x0 := hR.x0;have x1 := hR.x1;have y0 := hR.y0;have y1 := hR.y1;have hm := qba hR k;have h0 := Gl hR;have hl := Grd.Qt n s.cs hh;have hrow := h0 s.y.toNat (by rw [hl];omega)
 unfold cdlR;refine ⟨by rw [List.length_set,hl],qg6 h0 _ _ ?_ ?_⟩
 ·rw [Grd.Ka,Grd.Yc,ql0 _ _ _ _ (by rw [hrow.1];omega),hrow.1]
 ·exact Grd.qok (qxy hrow.2.1.weak _ _ _ (qas hR))
theorem qu7 {s : Scr} {n hh : Nat} (hR : Qg s n hh) (k : Int) : Qg (cdlS s n hh k) n hh := by
 have h := qlv hR k;have h1 := (Ux hR s.gone (cdlR s n hh k) h.1 h.2 hR.gl hR.gr).1;exact h1.qd0
theorem qnd {w0 w : World} {s : Scr} {cv tv gv : Value} {n hh : Nat} (h : Met w0 w s cv tv gv) (hR : Qg s n hh) (k : Int) : Calls qP 151 #[.agg (scrA s cv tv gv),.int .i64 k] w (Made w0 w (cdlS s n hh k) 0) := by
 have hw := hR.w;have x0 := hR.x0;have x1 := hR.x1;have y0 := hR.y0;have y1 := hR.y1;have hm := qba hR k;have h0 := Gl hR;have hl := Grd.Qt n s.cs hh;have hrow := h0 s.y.toNat (by rw [hl];omega)
 have hr := qlv hR k;exact qcs s _ cv tv gv k 0 w0 w h.v h.b.size fun W B hW hB => K7 (s' := { s with late := false }) (h.next hW) hR _ qhw _ (cdlR s n hh k) _ (fun w1 hw1 => qto k B _ w1 (Grd.Tab.next (h.next hW).t hw1) s _ s.x.toNat s.y.toNat n (onw s k).toNat (Qa hw1 hB) (by omega) (by omega) hw hR.n2 (by rw [hl];omega) hrow.1 (by omega) (by omega) (by omega)) (F8 hR _ _ hr.1 (fun i hi => (hr.2 i hi).1) (Nat.le_succ_of_le hR.gl) (fun i hi => by have := hR.Ue i hi;exact Nat.le_trans this (by omega))) rfl
end Put
namespace Put
open Grd (C Qf Qe)
theorem Qg.went {s : Scr} {n hh : Nat} (h : Qg s n hh) (x y : Int) (x0 : 0 ≤ x) (x1 : x < n) (y0 : 0 ≤ y) (y1 : y < hh) : Qg { s with x := x, y := y, late := false } n hh :=
 ⟨h.w,h.h,h.n1,h.n2,h.h1,h.h2,h.cl,h.gz,x0,x1,y0,y1,h.kx0,h.kx1,h.ky0,h.ky1,h.t0,h.t1,h.t2,h.t3,by unfold Z6;rfl,h.looks,h.tl,h.la,h.ti,h.gl,h.gr⟩
theorem sup_right {s : Scr} {n hh : Nat} (hR : Qg s n hh) (top bot : Nat) (ht : s.top = top) (hb : s.bot = bot) (keep : Bool) (j : Nat) : Qg { (Zy (rUp n top bot keep) j (s,Qe n s.cs hh)).1 with cs := (Zy (rUp n top bot keep) j (s,Qe n s.cs hh)).2.flatten } n hh := by
 have t1 := hR.t1;have t2 := hR.t2;exact (Zi.right hR (Zi.iter (f := rUp n top bot keep) (fun x hx => Zi.up hR hx top bot keep (by omega) (by omega)) _ (Zi.start hR) j)).1
theorem qnb {s : Scr} {n hh : Nat} (hR : Qg s n hh) (top bot : Nat) (ht : s.top = top) (hb : s.bot = bot) (j : Nat) : Qg { (Zy (rDn n top bot) j (s,Qe n s.cs hh)).1 with cs := (Zy (rDn n top bot) j (s,Qe n s.cs hh)).2.flatten } n hh := by
 have t1 := hR.t1;have t2 := hR.t2;exact (Zi.right hR (Zi.iter (f := rDn n top bot) (fun x hx => Zi.dn hR hx top bot (by omega) (by omega)) _ (Zi.start hR) j)).1
theorem qa4 {s : Scr} {n hh : Nat} (hR : Qg s n hh) (s' : Scr) (hc : s'.cs = s.cs) (h : Qg s' n hh) : Qg { s' with cs := (Qe n s.cs hh).flatten } n hh := by
 rw [hR.flatten,← hc];exact h
theorem qo9 {s : Scr} {n hh : Nat} (hR : Qg s n hh) (k : Int) (bot : Nat) (hb : s.bot = bot) : Qg { (insZ s k n hh bot).1 with cs := (insZ s k n hh bot).2.flatten } n hh := by
 have n1 := hR.n1;have y0 := hR.y0;have y1 := hR.y1;have t0 := hR.t0;have t2 := hR.t2;unfold insZ
 by_cases hq : s.top ≤ s.y ∧ s.y ≤ s.bot
 ·rw [if_pos hq]
  have hR1 : Qg { s with x := 0,late := false } n hh := hR.went 0 s.y (by omega) (by omega) y0 y1
  exact (Zi.right hR1 (Zi.iter (f := rDn n s.y.toNat bot) (fun x hx => Zi.dn hR1 hx s.y.toNat bot (by omega) (by omega)) _ (Zi.start hR1) (Vf k s.y.toNat bot))).1
 ·rw [if_neg hq]
  exact qa4 hR s rfl hR
theorem qqg {s : Scr} {n hh : Nat} (hR : Qg s n hh) (k : Int) (bot : Nat) (hb : s.bot = bot) : Qg { (delZ s k n hh bot).1 with cs := (delZ s k n hh bot).2.flatten } n hh := by
 have n1 := hR.n1;have y0 := hR.y0;have y1 := hR.y1;have t0 := hR.t0;have t2 := hR.t2;unfold delZ
 by_cases hq : s.top ≤ s.y ∧ s.y ≤ s.bot
 ·rw [if_pos hq]
  have hR1 : Qg { s with x := 0,late := false } n hh := hR.went 0 s.y (by omega) (by omega) y0 y1
  exact (Zi.right hR1 (Zi.iter (f := rUp n s.y.toNat bot false) (fun x hx => Zi.up hR1 hx s.y.toNat bot false (by omega) (by omega)) _ (Zi.start hR1) (Vf k s.y.toNat bot))).1
 ·rw [if_neg hq]
  exact qa4 hR s rfl hR
theorem qy9 (n top bot : Nat) (s : Scr) (rows : List (List C)) : rUp n top bot true (s,rows) = (upS s rows top,Zq rows n s.sb top bot) := by
 unfold rUp upS;simp
theorem qo6 {s : Scr} {n hh : Nat} (hR : Qg s n hh) (top bot : Nat) (ht : s.top = top) (hb : s.bot = bot) : Qg { qcq s (Qe n s.cs hh) top with cs := (Ub s (Qe n s.cs hh) n top bot).flatten } n hh := by
 have n1 := hR.n1;have x0 := hR.x0;have x1 := hR.x1;have y0 := hR.y0;have y1 := hR.y1;have t1 := hR.t1;have t2 := hR.t2;have eh := hR.h;unfold qcq Ub
 by_cases hq : s.y = s.bot
 ·rw [if_pos hq, if_pos hq]
  have hR1 : Qg { s with late := false } n hh := hR.qd0
  have h := (Zi.right hR1 (Zi.up hR1 (Zi.start hR1) top bot true (by omega) (by omega))).1
  rw [qy9] at h;exact h
 ·rw [if_neg hq, if_neg hq]
  refine qa4 hR (Uc s) ?_ ?_
  ·unfold Uc
   split <;> rfl
  ·unfold Uc
   split
   ·exact hR.went s.x (s.y + 1) x0 x1 (by omega) (by omega)
   ·exact hR.qd0
theorem qp8 {s : Scr} {n hh : Nat} (hR : Qg s n hh) (top bot : Nat) (ht : s.top = top) (hb : s.bot = bot) : Qg { qah s with cs := (qb8 s (Qe n s.cs hh) n top bot).flatten } n hh := by
 have x0 := hR.x0;have x1 := hR.x1;have y0 := hR.y0;have y1 := hR.y1;have t1 := hR.t1;have t2 := hR.t2;unfold qah qb8
 by_cases hq : s.y = s.top
 ·rw [if_pos hq, if_pos hq]
  have hR1 : Qg { s with late := false } n hh := hR.qd0
  exact (Zi.right hR1 (Zi.dn hR1 (Zi.start hR1) top bot (by omega) (by omega))).1
 ·rw [if_neg hq, if_neg hq]
  refine qa4 hR _ ?_ ?_
  ·split <;> rfl
  ·split
   ·exact hR.went s.x (s.y - 1) x0 x1 (by omega) (by omega)
   ·exact hR.qd0
end Put
namespace Put
open Grd (C)
def qad (s : Scr) : Scr := { s with x := 0,y := if hasB s.modes 2 then s.top else 0,late := false }
def Yy (m b : Int) (on : Bool) : Int := if on then bits .or .i64 (bits .andNot .i64 m b) b else bits .andNot .i64 m b
def Vn (b : Int) (s : Scr) : Scr := if bits .and .i64 b 2 = 0 then s else qad s
def Ym (s : Scr) : Scr := { s with late := s.late && hasB s.modes 4 }
def setS (s : Scr) (b : Int) (on : Bool) : Scr := Ym (Vn b { s with modes := Yy s.modes b on })
theorem qmu (b : Int) (s : Scr) : (Vn b s).gone = s.gone ∧ (Vn b s).tabs = s.tabs ∧ (Vn b s).cs = s.cs ∧ (Vn b s).w = s.w ∧ (Vn b s).h = s.h ∧ (Vn b s).modes = s.modes := by
 unfold Vn qad;split <;> exact ⟨rfl,rfl,rfl,rfl,rfl,rfl⟩
theorem qvb (s : Scr) (b : Int) (on : Bool) : (setS s b on).gone = s.gone ∧ (setS s b on).tabs = s.tabs ∧ (setS s b on).cs = s.cs ∧ (setS s b on).w = s.w ∧ (setS s b on).h = s.h := by
 obtain ⟨h1,h2,h3,h4,h5,-⟩ := qmu b { s with modes := Yy s.modes b on }
 exact ⟨h1,h2,h3,h4,h5⟩
def qeh (s : Scr) : Scr := { s with kx := s.x,ky := s.y,kf := s.sf,kb := s.sb,kbits := s.sx,km := bits .and .i64 s.modes 6 }
def qeo (s : Scr) : Scr := { s with x := s.kx,y := s.ky,sf := s.kf,sb := s.kb,sx := s.kbits,late := false,modes := bits .or .i64 (bits .andNot .i64 s.modes 6) s.km }
theorem qu8 (m k : Int) (hm0 : 0 ≤ m) (hm1 : m ≤ 63) (hk : K5 k = true) : bits .or .i64 (bits .andNot .i64 m 6) k = bits .and .i64 m 57 + k ∧ 0 ≤ bits .and .i64 m 57 + k ∧ bits .and .i64 m 57 + k ≤ 63 := by
 have key : ∀ j : Fin 64,∀ k : Fin 7,K5 (k.val : Int) = true → bits .or .i64 (bits .andNot .i64 (j.val : Int) 6) (k.val : Int) = bits .and .i64 (j.val : Int) 57 + (k.val : Int) ∧ 0 ≤ bits .and .i64 (j.val : Int) 57 + (k.val : Int) ∧ bits .and .i64 (j.val : Int) 57 + (k.val : Int) ≤ 63 := by decide +kernel
 have hk2 : k = 0 ∨ k = 2 ∨ k = 4 ∨ k = 6 := by simpa [K5] using hk
 have h := key ⟨m.toNat,by omega⟩ ⟨k.toNat,by omega⟩
 have e1 : ((m.toNat : Nat) : Int) = m := by omega
 have e2 : ((k.toNat : Nat) : Int) = k := by omega
 simp only [e1,e2] at h;exact h hk
theorem qf2 {M N p : Nat} {s : Scr} {rows : List (List C)} (W : World) (hS : ShAt 110 W M N p s rows) :
  Calls qP 185 #[.pointer (some ⟨p,0,none⟩)] W fun e W' => e = .returned (.tuple #[]) ∧ ShAt 110 W' M N p (qad s) rows ∧ Below N W W' := by
 have HR : Hid (qad s = { s with x := 0,y := if hasB s.modes 2 then s.top else 0,late := false }) := rfl
 generalize qad s = s' at *;have k3 : ShAt 110 (W.setCell ⟨p,3,none⟩ (.int .i64 0)) M N p { s with x := 0 } rows := hS.set Qp 3 _ (fun _ _ _ _ => rfl) rfl rfl
 have k4 : ShAt 110 ((W.setCell ⟨p,3,none⟩ (.int .i64 0)).setCell ⟨p,4,none⟩ (.int .i64 0)) M N p { s with x := 0,y := 0 } rows := k3.set Qp 4 _ (fun _ _ _ _ => rfl) rfl rfl
 have k5 : ShAt 110 (((W.setCell ⟨p,3,none⟩ (.int .i64 0)).setCell ⟨p,4,none⟩ (.int .i64 0)).setCell ⟨p,5,none⟩ (.bool false)) M N p { s with x := 0,y := 0,late := false } rows := k4.set Qp 5 _ (fun _ _ _ _ => rfl) rfl rfl
 have hlo := hS.lo;have HB5 : Hid (Below N W (((W.setCell ⟨p,3,none⟩ (.int .i64 0)).setCell ⟨p,4,none⟩ (.int .i64 0)).setCell ⟨p,5,none⟩ (.bool false))) := (((qr _ _).setCell hlo _).setCell hlo _).setCell hlo _;have HK5 : Hid (ShAt 110 (((W.setCell ⟨p,3,none⟩ (.int .i64 0)).setCell ⟨p,4,none⟩ (.int .i64 0)).setCell ⟨p,5,none⟩ (.bool false)) M N p { s with x := 0,y := 0,late := false } rows) := k5
 have HH := Kk 2 _ k5;obtain ⟨c0,c1,c3,c4,c5,c9,c10,c11,c19,f⟩ := hS.words;have f3 := f 3;have f4 := f 4;have f5 := f 5;clear k3 k4 k5 hS f c0 c1 c11 c19 c9 c10;go_enter Tryz.func185,Tryz.ntmps185;go_wp2_with fail;refine HH.mono ?_;rintro e V ⟨rfl,hv⟩;subst hv;clear HH f3 f4 f5 c3 c4 c5;generalize (((W.setCell ⟨p,3,none⟩ (.int .i64 0)).setCell ⟨p,4,none⟩ (.int .i64 0)).setCell ⟨p,5,none⟩ (.bool false)) = Y at *
 cases hmo : hasB s.modes 2 with
 | false =>
  have HE2 : Hid (s' = { s with x := 0,y := 0,late := false }) := by unfold Hid;rw [HR.out,hmo];rfl
  go_wp2_with fail;go_end0;rw [HE2.out];exact ⟨rfl,HK5.out,HB5.out⟩
 | true =>
  have HE2 : Hid (s' = { s with x := 0,y := s.top,late := false }) := by unfold Hid;rw [HR.out,hmo];rfl
  have k6 : ShAt 110 (Y.setCell ⟨p,4,none⟩ (.int .i64 s.top)) M N p { s with x := 0,y := s.top,late := false } rows := ShAt.set Qp HK5.out 4 _ (fun _ _ _ _ => rfl) rfl rfl
  have HK6 : Hid (ShAt 110 (Y.setCell ⟨p,4,none⟩ (.int .i64 s.top)) M N p { s with x := 0,y := s.top,late := false } rows) := k6
  obtain ⟨c0,c1,c3,c4,c5,c9,c10,c11,c19,f⟩ := ShAt.words HK5.out;have f4 := f 4;clear k6 f c0 c1 c3 c5 c10 c11 c19;go_wp2_with fail;go_end0;rw [HE2.out];exact ⟨rfl,HK6.out,HB5.out.setCell hlo _⟩
def Gp (h b : Int) : Int := if b < 1 ∨ h < b then h - 1 else b - 1
def mayB (h a b : Int) : Bool := decide (a < b) || (decide (a = b) && decide (h = 1))
def regS (s : Scr) (a b : Int) : Scr :=
 if mayB s.h (max a 1 - 1) (Gp s.h b) then { s with top := max a 1 - 1,bot := Gp s.h b,x := 0,y := if hasB s.modes 2 then max a 1 - 1 else 0,late := false } else s
theorem qjd {s : Scr} {n hh : Nat} (h : Qg s n hh) (a b : Int) : Qg (regS s a b) n hh := by
 have n1 := h.n1;have h1 := h.h1;have eh := h.h;unfold regS
 by_cases hq : mayB s.h (max a 1 - 1) (Gp s.h b) = true
 ·rw [if_pos hq]
  have hl : 0 ≤ Gp s.h b ∧ Gp s.h b < hh := by
   unfold Gp;split <;> omega
  simp only [mayB,Bool.or_eq_true,Bool.and_eq_true,decide_eq_true_eq] at hq;refine ⟨h.w,h.h,h.n1,h.n2,h.h1,h.h2,h.cl,h.gz,by show (0 : Int) ≤ 0;omega,by show (0 : Int) < n;omega,?_,?_,h.kx0,h.kx1,h.ky0,h.ky1,by show 0 ≤ max a 1 - 1;omega,by show max a 1 - 1 ≤ Gp s.h b;omega,hl.2,by show max a 1 - 1 < Gp s.h b ∨ hh = 1;omega,by unfold Z6;rfl,h.looks,h.tl,h.la,h.ti,h.gl,h.gr⟩
  ·dsimp only
   split <;> omega
  ·dsimp only
   split <;> omega
 ·rw [if_neg hq]
  exact h
theorem qm2 {M N p : Nat} {s : Scr} {rows : List (List C)} (b : Int) (W : World) (hS : ShAt 110 W M N p s rows) (h1 : 1 ≤ s.h) (h2 : s.h ≤ 60) :
  Calls qP 218 #[.pointer (some ⟨p,0,none⟩),.int .i64 b] W fun e W' => e = .returned (.int .i64 (Gp s.h b)) ∧ W = W' := by
 obtain ⟨c0,c1,c3,c4,c5,c9,c10,c11,c19,f⟩ := hS.words;have HE : Hid (Gp s.h b = if b < 1 ∨ s.h < b then s.h - 1 else b - 1) := rfl
 have hwr : IntKind.i64.wrap (s.h - 1) = s.h - 1 := Zl _ (by omega) (by omega)
 clear hS c0 c3 c4 c5 c9 c10 c11 c19 f;generalize Gp s.h b = v at *
 by_cases hb : b < 1
 ·have HV : Hid (s.h - 1 = v) := by unfold Hid; rw [HE.out, if_pos (.inl hb)]
  go_enter Tryz.func218,Tryz.ntmps218;go_wp2_with fail;go_ret;exact ⟨Q6 HV.out,rfl⟩
 ·by_cases hc : s.h < b
  ·have HV : Hid (s.h - 1 = v) := by unfold Hid; rw [HE.out, if_pos (.inr hc)]
   go_enter Tryz.func218,Tryz.ntmps218;go_wp2_with fail;go_ret;exact ⟨Q6 HV.out,rfl⟩
  ·have HV : Hid (b - 1 = v) := by unfold Hid; rw [HE.out, if_neg (by omega)]
   have hwb : IntKind.i64.wrap (b - 1) = b - 1 := Zl _ (by omega) (by omega)
   go_enter Tryz.func218,Tryz.ntmps218;go_wp2_with fail;go_ret;exact ⟨Q6 HV.out,rfl⟩
theorem qij {M N p : Nat} {s : Scr} {rows : List (List C)} (a b : Int) (W : World) (hS : ShAt 110 W M N p s rows) :
  Calls qP 219 #[.pointer (some ⟨p,0,none⟩),.int .i64 a,.int .i64 b] W fun e W' => e = .returned (.bool (mayB s.h a b)) ∧ W = W' := by
 obtain ⟨c0,c1,c3,c4,c5,c9,c10,c11,c19,f⟩ := hS.words;clear hS c0 c3 c4 c5 c9 c10 c11 c19 f;unfold mayB
 by_cases h1 : a < b
 ·go_enter Tryz.func219, Tryz.ntmps219
  go_wp2_with fail;go_ret;exact ⟨Sty.Qh (by simp [h1]),rfl⟩
 ·by_cases h2 : a = b
  ·have n2 : (a == b) = true := by simpa using h2
   have H2 : Hid (a = b) := h2;clear h2;go_enter Tryz.func219,Tryz.ntmps219;go_wp2_with fail;go_ret;exact ⟨Sty.Qh (by rw [Bool.eq_iff_iff];simp [H2.out]),rfl⟩
  ·have n2 : (a == b) = false := by simpa using h2
   have H1 : Hid (¬ a < b) := h1;have H2 : Hid (¬ a = b) := h2;clear h2;go_enter Tryz.func219,Tryz.ntmps219;go_wp2_with fail;go_ret;exact ⟨Sty.Qh (by rw [Bool.eq_iff_iff];simp [H1.out,H2.out]),rfl⟩
theorem qnf (a b : Int) (B1 B2 M : Nat) (w : World) (s : Scr) (rows : List (List C)) (hB1 : w.cell? ⟨B1, 0, none⟩ = some (.int .i64 a)) (hB2 : w.cell? ⟨B2, 0, none⟩ = some (.int .i64 b)) (h1 : 1 ≤ s.h) (h2 : s.h ≤ 60) (ha : a ≤ 9223372036854775807) :
  Does 217 #[.pointer (some ⟨B1,0,none⟩),.pointer (some ⟨B2,0,none⟩)] M w s (regS s a b) rows rows := by
 intro W p hb hS;have q1 := Qa hb hB1;have q2 := Qa hb hB2;have HL : Hid (∀ W',ShAt 110 W' M w.heap.size p s rows → Calls qP 218 #[.pointer (some ⟨p,0,none⟩),.int .i64 b] W' fun e W'' => e = .returned (.int .i64 (Gp s.h b)) ∧ W' = W'') := fun W' h => qm2 b W' h h1 h2
 have HM : Hid (∀ W' x y,ShAt 110 W' M w.heap.size p s rows → Calls qP 219 #[.pointer (some ⟨p,0,none⟩),.int .i64 x,.int .i64 y] W' fun e W'' => e = .returned (.bool (mayB s.h x y)) ∧ W' = W'') := fun W' x y h => qij x y W' h
 have hmx := Grd.max2 a 1;have hmx1 : 1 ≤ max a 1 := by omega
 have hmx2 : max a 1 ≤ 9223372036854775807 := by omega
 have hws : IntKind.i64.wrap (max a 1 - 1) = max a 1 - 1 := Zl _ (by omega) (by omega)
 have HSd : Hid (ShAt 110 W.drew M w.heap.size p s rows) := hS.drew;have HR : Hid (regS s a b = if mayB s.h (max a 1 - 1) (Gp s.h b) then { s with top := max a 1 - 1,bot := Gp s.h b,x := 0,y := if hasB s.modes 2 then max a 1 - 1 else 0,late := false } else s) := rfl
 generalize regS s a b = s' at *;have HL2 := HL.out _ HSd.out;have SK : Hid (∀ w',Below W.heap.size W w' → Below W.heap.size W w' ∧ w'.cell? ⟨B1,0,none⟩ = some (.int .i64 a) ∧ w'.cell? ⟨B2,0,none⟩ = some (.int .i64 b)) := fun w' h => ⟨h,Qa h q1,Qa h q2⟩
 have b0 : Below W.heap.size W W.drew := (qr _ _).drew;have HNX : Hid (∀ V,Below W.heap.size W V → ShAt 110 V M w.heap.size p s rows ∧ Below w.heap.size W V) := fun V h => ⟨hS.next h,h.mono hb.size⟩
 clear hS hB1 hB2 HSd;go_enter Tryz.func217,Tryz.ntmps217;go_upto_region 0 with fail
 go_region_held3 (fun w' => Below W.heap.size W w' ∧ w'.cell? ⟨B1, 0, none⟩ = some (.int .i64 a) ∧ w'.cell? ⟨B2, 0, none⟩ = some (.int .i64 b))
  (first | exact SK.out _ b0)
  (first | (go_at_call 218;refine HL2.mono ?_;rintro e V ⟨rfl,hv⟩;subst hv))
 all_goals (
  obtain ⟨HSX,HBX⟩ := HNX.out _ b0;clear SK HL HL2 HNX q1 q2 hws hmx;generalize W.drew = X at *;generalize max a 1 - 1 = fr at *;generalize Gp s.h b = la at *;have HM2 := HM.out X fr la HSX;clear HM
  cases hmy : mayB s.h fr la with
  | false =>
   have HE : Hid (s' = s) := by unfold Hid;rw [HR.out,hmy];rfl
   rw [hmy] at HM2;clear HR;go_wp2_with fail;refine HM2.mono ?_;rintro e V ⟨rfl,hv⟩;subst hv;go_wp2_with fail
   (try simp only [Exit.inBlock,Exit.then])
   refine bodyPost_ret (v := .tuple #[]) (results_none rfl _ _ _) rfl ⟨rfl,?_,HBX⟩;rw [HE.out];exact HSX
  | true =>
   have HE : Hid (s' = { s with top := fr,bot := la,x := 0,y := if hasB s.modes 2 then fr else 0,late := false }) := by unfold Hid;rw [HR.out,hmy];rfl
   rw [hmy] at HM2;have k1 : ShAt 110 (X.setCell ⟨p,9,none⟩ (.int .i64 fr)) M w.heap.size p { s with top := fr } rows := HSX.set Qp 9 _ (fun _ _ _ _ => rfl) rfl rfl
   have k2 : ShAt 110 ((X.setCell ⟨p,9,none⟩ (.int .i64 fr)).setCell ⟨p,10,none⟩ (.int .i64 la)) M w.heap.size p { s with top := fr,bot := la } rows := k1.set Qp 10 _ (fun _ _ _ _ => rfl) rfl rfl
   have HB2 : Hid (Below w.heap.size W ((X.setCell ⟨p,9,none⟩ (.int .i64 fr)).setCell ⟨p,10,none⟩ (.int .i64 la))) := (HBX.setCell HSX.lo _).setCell HSX.lo _;have HH := qf2 _ k2;obtain ⟨c0,c1,c3,c4,c5,c9,c10,c11,c19,f⟩ := HSX.words;have f9 := f 9;have f10 := f 10;clear k1 k2 HR HSX HBX f c0 c1 c3 c4 c5 c11 c19;go_wp2_with fail;refine HM2.mono ?_;rintro e V ⟨rfl,hv⟩;subst hv;go_wp2_with fail;refine HH.mono ?_;rintro e V ⟨rfl,hk,hbv⟩;clear HH HM2 f9 f10 c9 c10;go_wp2_with fail;go_end0;rw [HE.out]
   exact ⟨rfl,hk,HB2.out.trans hbv⟩)
end Put
namespace Put
open Grd (C SliceAt Qb Qf z0 Q0 flat Qe)
theorem qk6 : Plain 217 := by
 intro args W
 kernel_rfl
theorem qzo (s : Scr) (a b : Int) (cs : List C) (h : cs = s.cs) : { regS s a b with cs := cs } = regS s a b := by
 subst h;unfold regS;split <;> rfl
theorem qtz (s : Scr) (a b : Int) : (regS s a b).gone = s.gone := by
 unfold regS;split <;> rfl
theorem qpr {w0 w : World} {s : Scr} {cv tv gv : Value} {n hh : Nat} (h : Met w0 w s cv tv gv) (hR : Qg s n hh) (a b : Int) (ha : a ≤ 9223372036854775807) : Calls qP 164 #[.agg (scrA s cv tv gv),.int .i64 a,.int .i64 b] w (Made w0 w (regS s a b) 0) := by
 have e2 := hR.h;have h1 := hR.h1;have h2 := hR.h2;exact qkk s _ cv tv gv a b 0 w0 w h.v h.b.size fun _ B1 B2 hW hB1 hB2 => by
  have := K7 (h.next hW) hR _ qk6 #[.pointer (some ⟨B1,0,none⟩),.pointer (some ⟨B2,0,none⟩)] (Qe n s.cs hh) _ (fun w1 hw1 => qnf a b B1 B2 _ w1 s _ (Qa hw1 hB1) (Qa hw1 hB2) (by omega) (by omega) ha) (Ya hR _ (qtz s a b)) rfl
  rwa [qzo s a b _ hR.flatten] at this
end Put
namespace Put
open Grd (C z0 Qf putRow Zu Q8 V4)
open Sty (Q5)
open Txt (wd)
def Jb (bk : Int) (row : List C) (a b : Nat) : List C := Zu (putRow row (fun x => decide (a ≤ x ∧ x < b)) fun _ => (32,0,bk,0))
theorem qar (bk : Int) (row : List C) (a b : Nat) : (Jb bk row a b).length = row.length := by
 unfold Jb;rw [Grd.Ka,Grd.Yj]
theorem Fx (bk : Int) (row : List C) (a b : Nat) (h : Q8 row) (hs : Q5 (0,bk,0) = true) : Q8 (Jb bk row a b) := by
 unfold Jb;exact Grd.G9 _ (Grd.qgm row _ _ h.1 Grd.wd32 hs)
theorem q0c (bk : Int) (row : List C) (a b x : Nat) (hx : x < row.length) (h : a ≤ x ∧ x < b) : (Jb bk row a b).getD x z0 = (32,0,bk,0) := by
 unfold Jb;rw [Grd.qm8,Grd.Kr _ _ (by rw [Grd.Yj];exact hx)]
 have e : (putRow row (fun x => decide (a ≤ x ∧ x < b)) fun _ => (32,0,bk,0)).getD x z0 = (32,0,bk,0) := by
  rw [Grd.Kj _ _ _ _ hx,if_pos (by simpa using h)]
 rw [e];split <;> rfl
theorem qhf (bk : Int) (row : List C) (b : Nat) (hb : row.length ≤ b) : Jb bk row 0 b = qe row.length (32,0,bk,0) := by
 refine Grd.Ko _ _ (by rw [qar,List.length_replicate]) fun x hx => ?_
 rw [qar] at hx;rw [q0c bk row 0 b x hx ⟨Nat.zero_le _,by omega⟩]
 simp [qy,hx]
theorem qxf (n : Nat) (row : List C) (hn : row.length = n) (hz : Qf n 1 row = 0) : Q8 row := by
 have h := ((Grd.Zd n 1 row).1 hz).2.2 0 (by omega)
 have e : Grd.rowAt n row 0 = row := by unfold Grd.rowAt;rw [Nat.zero_mul,List.drop_zero,← hn,List.take_length]
 rw [e] at h;exact h
end Put
namespace Put
open Grd (C SliceAt Qb Qf z0 Q0 flat Qe Y5 Js)
open Sty (Q5)
open Txt (wd)
set_option linter.unusedVariables false in
theorem quk (W : World) (p Bp Bf Be rb ro c a b n : Nat) (bk : Int) (row : List C) (hp : W.cell? ⟨Bp, 0, none⟩ = some (.pointer (some ⟨p, 0, none⟩))) (hf : W.cell? ⟨Bf, 0, none⟩ = some (.int .i64 (a : Int))) (he : W.cell? ⟨Be, 0, none⟩ = some (.int .i64 (b : Int))) (h7 : W.cell? ⟨p, 7, none⟩ = some (.int .i64 bk)) (hC : Qb W rb ro row) (hc : row.length ≤ c) (hab : a + n = b) (hbl : b ≤ row.length) (hl : row.length ≤ 120) (hcc : b < c) :
  Calls qP 229 #[.slice (some ⟨rb,ro,none⟩) row.length c,.pointer (some ⟨Bf,0,none⟩),.pointer (some ⟨Bp,0,none⟩),.pointer (some ⟨Be,0,none⟩)] W fun e W' => ∃ v',e = .returned v' ∧ W'.ownsRow W.heap.size 56 4 v' row.length (flat (ovR row (qe n (32,0,bk,0)) a b)) ∧ Below W.heap.size W W' := by
 have SK : Hid (∀ V,Below W.heap.size W V → V.cell? ⟨Bp,0,none⟩ = some (.pointer (some ⟨p,0,none⟩)) ∧ V.cell? ⟨Bf,0,none⟩ = some (.int .i64 (a : Int)) ∧ V.cell? ⟨Be,0,none⟩ = some (.int .i64 (b : Int))) := fun V h => ⟨Qa h hp,Qa h hf,Qa h he⟩
 have HBL : Hid (∀ V,Below W.heap.size W V → Calls qP 115 #[.pointer (some ⟨p,0,none⟩),.int .i64 (n : Int)] V fun e W' => ∃ q c g,e = .returned (.slice q n c) ∧ V.heap.size ≤ g ∧ Js W' g (.slice q n c) (qe n (32,0,bk,0)) ∧ Below V.heap.size V W') := fun V h => qgs p n bk V (Qa h h7) (by omega)
 have hwr : IntKind.i64.wrap ((b : Int) - (a : Int)) = (n : Int) := by
  rw [Zl _ (by omega) (by omega)]
  omega
 have HCC : Hid (Qb W rb ro row) := hC;obtain ⟨L,hL⟩ : ∃ L,L = row.length := ⟨_,rfl⟩;obtain ⟨m,hm⟩ : ∃ m,m = L - b := ⟨_,rfl⟩;have HCN : Hid (∀ (V : World) (q : Option Addr) (vc g : Nat),Below W.heap.size W V → Js V g (.slice q n vc) (qe n (32,0,bk,0)) → Calls qP 110 #[.slice (some ⟨V.heap.size,0,none⟩) 3 3] (V.alloc (.cells #[.slice (some ⟨rb,ro,none⟩) a c,.slice q n vc,.slice (some ⟨rb,ro + b * 4,none⟩) m (c - b)] 22)) fun e w' => ∃ v',e = .returned v' ∧ w'.ownsRow (V.alloc (.cells #[.slice (some ⟨rb,ro,none⟩) a c,.slice q n vc,.slice (some ⟨rb,ro + b * 4,none⟩) m (c - b)] 22)).heap.size 56 4 v' L (flat (ovR row (qe n (32,0,bk,0)) a b)) ∧ Below (V.alloc (.cells #[.slice (some ⟨rb,ro,none⟩) a c,.slice q n vc,.slice (some ⟨rb,ro + b * 4,none⟩) m (c - b)] 22)).heap.size (V.alloc (.cells #[.slice (some ⟨rb,ro,none⟩) a c,.slice q n vc,.slice (some ⟨rb,ro + b * 4,none⟩) m (c - b)] 22)) w') := fun V q vc g hV hB => by
  have hM := hB.cells;obtain ⟨bc,brest,hbv,-⟩ := hB;injection hbv with ha _ _
  subst ha;have key := qry V rb ro g 0 c a b n vc L row (qe n (32,0,bk,0)) (HCC.out.below hV) hM List.length_replicate hab hL.symm (by omega) (by omega) (ro + b * 4) (c - b) (.inl rfl)
  rw [← hm] at key;exact key
 have b0 : Below W.heap.size W W.drew := (qr _ _).drew;have hx1 : (a : Int) ≤ (c : Int) := by omega
 have hx2 : (a : Int) ≤ (L : Int) := by omega
 have hx3 : (b : Int) ≤ (L : Int) := by omega
 have hx4 : (0 : Int) ≤ (b : Int) := by omega
 have hcI : (b : Int) < (c : Int) := by omega
 have hcN : ¬ c = b := by omega
 have hkk : L - b = m := hm.symm;rw [← hL];clear hp hf he h7 hC hc hab hbl hl hcc hL hm HCC;generalize ovR row (qe n (32,0,bk,0)) a b = res at *;go_enter Tryz.func229,Tryz.ntmps229;go_upto_region 1 with fail
 go_region_held3 (fun w' => w'.cell? ⟨Bp, 0, none⟩ = some (.pointer (some ⟨p, 0, none⟩)) ∧ w'.cell? ⟨Bf, 0, none⟩ = some (.int .i64 (a : Int)) ∧ w'.cell? ⟨Be, 0, none⟩ = some (.int .i64 (b : Int)))
  (first | exact SK.out _ q3 | exact SK.out _ q2 | exact SK.out _ q1 | exact SK.out _ b0)
  (first
   | (go_at_call 115;refine (HBL.out _ b0).mono ?_;rintro e V1 ⟨q,vc,g,rfl,hg,hB,b1⟩;have q1 : Below W.heap.size W V1 := b0.trans (b1.mono b0.size);have q2 := q1.alloc q1.size (.cells #[.slice (some ⟨rb,ro,none⟩) a c,.slice q n vc,.slice (some ⟨rb,ro + b * 4,none⟩) m (c - b)] 22);have HC1 := HCN.out V1 q vc g q1 hB)
   | (go_at_call 110;(try rw [hkk]);refine HC1.mono ?_;rintro e V2 ⟨v',rfl,hO,b2⟩;have q3 : Below W.heap.size W V2 := q2.trans (b2.mono q2.size);have HFI : Hid _ := And.intro (Grd.Q4 hO q2.size) q3;obtain ⟨za,zc,hzv⟩ := Qz hO;subst hzv))
 all_goals go_wp2_with fail
 all_goals go_ret
 all_goals exact ⟨_,rfl,HFI.out.1,HFI.out.2⟩
set_option linter.unusedVariables false in
theorem qox (W : World) (p Bp Bf Be rb ro c a b n : Nat) (bk : Int) (row : List C) (hp : W.cell? ⟨Bp, 0, none⟩ = some (.pointer (some ⟨p, 0, none⟩))) (hf : W.cell? ⟨Bf, 0, none⟩ = some (.int .i64 (a : Int))) (he : W.cell? ⟨Be, 0, none⟩ = some (.int .i64 (b : Int))) (h7 : W.cell? ⟨p, 7, none⟩ = some (.int .i64 bk)) (hC : Qb W rb ro row) (hc : row.length ≤ c) (hab : a + n = b) (hbl : b ≤ row.length) (hl : row.length ≤ 120) (hcc : ¬ b < c) :
  Calls qP 229 #[.slice (some ⟨rb,ro,none⟩) row.length c,.pointer (some ⟨Bf,0,none⟩),.pointer (some ⟨Bp,0,none⟩),.pointer (some ⟨Be,0,none⟩)] W fun e W' => ∃ v',e = .returned v' ∧ W'.ownsRow W.heap.size 56 4 v' row.length (flat (ovR row (qe n (32,0,bk,0)) a b)) ∧ Below W.heap.size W W' := by
 have SK : Hid (∀ V,Below W.heap.size W V → V.cell? ⟨Bp,0,none⟩ = some (.pointer (some ⟨p,0,none⟩)) ∧ V.cell? ⟨Bf,0,none⟩ = some (.int .i64 (a : Int)) ∧ V.cell? ⟨Be,0,none⟩ = some (.int .i64 (b : Int))) := fun V h => ⟨Qa h hp,Qa h hf,Qa h he⟩
 have HBL : Hid (∀ V,Below W.heap.size W V → Calls qP 115 #[.pointer (some ⟨p,0,none⟩),.int .i64 (n : Int)] V fun e W' => ∃ q c g,e = .returned (.slice q n c) ∧ V.heap.size ≤ g ∧ Js W' g (.slice q n c) (qe n (32,0,bk,0)) ∧ Below V.heap.size V W') := fun V h => qgs p n bk V (Qa h h7) (by omega)
 have hwr : IntKind.i64.wrap ((b : Int) - (a : Int)) = (n : Int) := by
  rw [Zl _ (by omega) (by omega)]
  omega
 have HCC : Hid (Qb W rb ro row) := hC;obtain ⟨L,hL⟩ : ∃ L,L = row.length := ⟨_,rfl⟩;have hbc : b = c := by omega
 have hbL : b = L := by omega
 subst hbc;subst hbL;have HCN : Hid (∀ (V : World) (q : Option Addr) (vc g : Nat),Below W.heap.size W V → Js V g (.slice q n vc) (qe n (32,0,bk,0)) → Calls qP 110 #[.slice (some ⟨V.heap.size,0,none⟩) 3 3] (V.alloc (.cells #[.slice (some ⟨rb,ro,none⟩) a b,.slice q n vc,.slice (some ⟨rb,ro,none⟩) 0 0] 22)) fun e w' => ∃ v',e = .returned v' ∧ w'.ownsRow (V.alloc (.cells #[.slice (some ⟨rb,ro,none⟩) a b,.slice q n vc,.slice (some ⟨rb,ro,none⟩) 0 0] 22)).heap.size 56 4 v' b (flat (ovR row (qe n (32,0,bk,0)) a b)) ∧ Below (V.alloc (.cells #[.slice (some ⟨rb,ro,none⟩) a b,.slice q n vc,.slice (some ⟨rb,ro,none⟩) 0 0] 22)).heap.size (V.alloc (.cells #[.slice (some ⟨rb,ro,none⟩) a b,.slice q n vc,.slice (some ⟨rb,ro,none⟩) 0 0] 22)) w') := fun V q vc g hV hB => by
  have hM := hB.cells;obtain ⟨bc,brest,hbv,-⟩ := hB;injection hbv with ha _ _
  subst ha;have key := qry V rb ro g 0 b a b n vc b row (qe n (32,0,bk,0)) (HCC.out.below hV) hM List.length_replicate hab hL.symm (by omega) (by omega) ro 0 (.inr rfl)
  rw [Nat.sub_self] at key;exact key
 have b0 : Below W.heap.size W W.drew := (qr _ _).drew;have hx1 : (a : Int) ≤ (b : Int) := by omega
 have hx2 : (a : Int) ≤ (b : Int) := by omega
 have hx3 : (b : Int) ≤ (b : Int) := by omega
 have hx4 : (0 : Int) ≤ (b : Int) := by omega
 have hcI : ¬ (b : Int) < (b : Int) := by omega
 have hcN : b = b := rfl;have hkk : b - b = 0 := Nat.sub_self _;rw [← hL];clear hp hf he h7 hC hc hab hbl hl hcc hL HCC;generalize ovR row (qe n (32,0,bk,0)) a b = res at *;go_enter Tryz.func229,Tryz.ntmps229;go_upto_region 1 with fail
 go_region_held3 (fun w' => w'.cell? ⟨Bp, 0, none⟩ = some (.pointer (some ⟨p, 0, none⟩)) ∧ w'.cell? ⟨Bf, 0, none⟩ = some (.int .i64 (a : Int)) ∧ w'.cell? ⟨Be, 0, none⟩ = some (.int .i64 (b : Int)))
  (first | exact SK.out _ q3 | exact SK.out _ q2 | exact SK.out _ q1 | exact SK.out _ b0)
  (first
   | (go_at_call 115;refine (HBL.out _ b0).mono ?_;rintro e V1 ⟨q,vc,g,rfl,hg,hB,b1⟩;have q1 : Below W.heap.size W V1 := b0.trans (b1.mono b0.size);have q2 := q1.alloc q1.size (.cells #[.slice (some ⟨rb,ro,none⟩) a b,.slice q n vc,.slice (some ⟨rb,ro,none⟩) 0 0] 22);have HC1 := HCN.out V1 q vc g q1 hB)
   | (go_at_call 110;(try rw [hkk]);refine HC1.mono ?_;rintro e V2 ⟨v',rfl,hO,b2⟩;have q3 : Below W.heap.size W V2 := q2.trans (b2.mono q2.size);have HFI : Hid _ := And.intro (Grd.Q4 hO q2.size) q3;obtain ⟨za,zc,hzv⟩ := Qz hO;subst hzv))
 all_goals go_wp2_with fail
 all_goals go_ret
 all_goals exact ⟨_,rfl,HFI.out.1,HFI.out.2⟩
theorem qoy (W : World) (p Bp Bf Be rb ro c a b n : Nat) (bk : Int) (row : List C) (hp : W.cell? ⟨Bp, 0, none⟩ = some (.pointer (some ⟨p, 0, none⟩))) (hf : W.cell? ⟨Bf, 0, none⟩ = some (.int .i64 (a : Int))) (he : W.cell? ⟨Be, 0, none⟩ = some (.int .i64 (b : Int))) (h7 : W.cell? ⟨p, 7, none⟩ = some (.int .i64 bk)) (hC : Qb W rb ro row) (hc : row.length ≤ c) (hab : a + n = b) (hbl : b ≤ row.length) (hl : row.length ≤ 120) :
  Calls qP 229 #[.slice (some ⟨rb,ro,none⟩) row.length c,.pointer (some ⟨Bf,0,none⟩),.pointer (some ⟨Bp,0,none⟩),.pointer (some ⟨Be,0,none⟩)] W fun e W' => ∃ v',e = .returned v' ∧ W'.ownsRow W.heap.size 56 4 v' row.length (flat (ovR row (qe n (32,0,bk,0)) a b)) ∧ Below W.heap.size W W' := by
 by_cases hcc : b < c
 ·exact quk W p Bp Bf Be rb ro c a b n bk row hp hf he h7 hC hc hab hbl hl hcc
 ·exact qox W p Bp Bf Be rb ro c a b n bk row hp hf he h7 hC hc hab hbl hl hcc
end Put
namespace Put
open Grd (C SliceAt Qb Qf z0 Q0 flat Qe Y5 Js)
open Sty (Q5)
theorem qz1 (w : World) (o0 o1 o2 : Obj) : (((w.alloc o0).alloc o1).alloc o2).heap[w.heap.size]? = some o0 ∧ (((w.alloc o0).alloc o1).alloc o2).heap[w.heap.size + 1]? = some o1 ∧
  (((w.alloc o0).alloc o1).alloc o2).heap[w.heap.size + 2]? = some o2 ∧
  Below w.heap.size w (((w.alloc o0).alloc o1).alloc o2) ∧ (((w.alloc o0).alloc o1).alloc o2).heap.size = w.heap.size + 3 := by
 have s1 : (w.alloc o0).heap.size = w.heap.size + 1 := by simp
 have s2 : ((w.alloc o0).alloc o1).heap.size = w.heap.size + 2 := by simp
 refine ⟨?_,?_,?_,(((qr _ _).alloc (qd _) _).alloc (by omega) _).alloc (by omega) _,by simp⟩
 ·rw [qs _ _ _ (by omega),qs _ _ _ (by omega),qf]
 ·rw [qs _ _ _ (by omega),← s1,qf]
 ·rw [← s2,qf]
theorem Zm {W : World} {R : Nat} {v : Value} {t : TypeId} (h : W.heap[R]? = some (.cells #[v] t (0,0))) : W.cell? ⟨R,0,none⟩ = some v := by simp [World.cell?,h]
theorem qmn : Plain 229 := by
 intro args W
 kernel_rfl
theorem qzf (bk : Int) (row : List C) (a b : Nat) (h : a ≤ b) (hb : b ≤ row.length) : Jb bk row a b = Grd.Zu (ovR row (qe (b - a) (32,0,bk,0)) a b) := by
 unfold Jb;have hl : a + (qe (b - a) ((32,0,bk,0) : C)).length = b := by rw [List.length_replicate];omega
 refine congrArg Grd.Zu (Grd.Ko _ _ (by rw [Grd.Yj,Ff _ _ _ _ hl hb]) fun j hj => ?_)
 rw [Grd.Yj] at hj;rw [qjk _ _ _ _ hl hb,Grd.Kj _ _ _ _ hj]
 by_cases h1 : j < a
 ·rw [if_neg (by simp;omega),if_pos h1]
 ·rw [if_neg h1]
  by_cases h2 : j < b
  ·rw [if_pos (by simp; omega), if_pos h2]
   simp only [qy];rw [List.getElem?_replicate,if_pos (by omega)]
   rfl
  ·rw [if_neg (by simp;omega),if_neg h2]
theorem qwl (bk : Int) (row : List C) (a b : Nat) (h : a ≤ b) (hb : b ≤ row.length) (hr : Grd.Q8 row) (hs : Q5 (0,bk,0) = true) : Grd.Alike (ovR row (qe (b - a) (32,0,bk,0)) a b) := by
 have hl : a + (qe (b - a) ((32,0,bk,0) : C)).length = b := by rw [List.length_replicate];omega
 have e : ovR row (qe (b - a) (32,0,bk,0)) a b = Grd.putRow row (fun x => decide (a ≤ x ∧ x < b)) fun _ => (32,0,bk,0) := by
  refine Grd.Ko _ _ (by rw [Grd.Yj,Ff _ _ _ _ hl hb]) fun j hj => ?_
  rw [Ff _ _ _ _ hl hb] at hj;rw [qjk _ _ _ _ hl hb,Grd.Kj _ _ _ _ hj]
  by_cases h1 : j < a
  ·rw [if_neg (show ¬ (decide (a ≤ j ∧ j < b) = true) by simp;omega),if_pos h1]
  ·rw [if_neg h1]
   by_cases h2 : j < b
   ·rw [if_pos (show decide (a ≤ j ∧ j < b) = true by simp; omega), if_pos h2]
    simp only [qy];rw [List.getElem?_replicate,if_pos (by omega)]
    rfl
   ·rw [if_neg (show ¬ (decide (a ≤ j ∧ j < b) = true) by simp;omega),if_neg h2]
 rw [e];exact (Grd.qgm row _ _ hr.1 Grd.wd32 hs).alike
theorem qd1 (W : World) (M N p : Nat) (s : Scr) (rows : List (List C)) (hT : Txt.Tab W) (hSt : ShAt 110 W M N p s rows)
  (n y a b : Nat) (hy : y < rows.length) (row : List C) (hrow : rows.getD y [] = row) (hn1 : 1 ≤ n) (hn2 : n ≤ 120) (hrn : row.length = n) (hz : Qf n 1 row = 0) (hst : Q5 (0,s.sb,0) = true) (hab : a ≤ b) (hb : b ≤ n) :
  Calls qP 201 #[.pointer (some ⟨p,0,none⟩),.int .i64 (y : Int),.int .i64 (a : Int),.int .i64 (b : Int)] W (Ran W M N p s (rows.set y (Jb s.sb row a b))) := by
 obtain ⟨cv,tv,gv,rv,gvs,vs,hS⟩ := hSt;have kb : Below W.heap.size W (((W.alloc (.cells #[.pointer (some ⟨p,0,none⟩)] 83)).alloc (.cells #[.int .i64 (a : Int)] 3)).alloc (.cells #[.int .i64 (b : Int)] 3)) := (((qr _ _).alloc (qd _) _).alloc (by simp) _).alloc (by simp;omega) _
 obtain ⟨hx0,hx1,hx2,-⟩ := qz1 W (.cells #[.pointer (some ⟨p,0,none⟩)] 83) (.cells #[.int .i64 (a : Int)] 3) (.cells #[.int .i64 (b : Int)] 3);have hrr := qxf n row hrn hz;have hlen := Ff row (qe (b - a) (32,0,s.sb,0)) a b (by rw [List.length_replicate];omega) (by omega)
 have HA : Hid (∀ X,Below W.heap.size W X → X.cell? ⟨W.heap.size,0,none⟩ = some (.pointer (some ⟨p,0,none⟩)) → X.cell? ⟨W.heap.size + 1,0,none⟩ = some (.int .i64 (a : Int)) → X.cell? ⟨W.heap.size + 2,0,none⟩ = some (.int .i64 (b : Int)) → Calls qP 113 #[.pointer (some ⟨p,0,none⟩),.int .i64 (y : Int),.func (.func 229) #[] #[.pointer (some ⟨W.heap.size + 1,0,none⟩),.pointer (some ⟨W.heap.size,0,none⟩),.pointer (some ⟨W.heap.size + 2,0,none⟩)]] X (Ran X M N p s (rows.set y (Jb s.sb row a b)))) := fun X hX q1 q2 q3 => by
  rw [qzf _ _ _ _ (by omega) (by omega)]
  refine qd4 X M N p s rows cv tv gv rv gvs vs (hS.next hX) (Grd.Tab.next hT hX) y hy _ qmn _ _ (fun W1 hW1 => ?_) (qwl _ _ _ _ (by omega) (by omega) hrr hst) (by rw [hlen];omega)
  have hS1 := (hS.next hX).next hW1;have hri := hS1.rin.2 y hy;rw [hrow] at hri;obtain ⟨⟨-,-,-,-,-,-,-,c7,-⟩,-,-⟩ := Qr hS1.blk
  rcases hri with ⟨he,-⟩ | ⟨hne,bb,o,c,hv,hc1,hc2,hC,-⟩
  ·have h5 := congrArg List.length he
   rw [List.length_nil] at h5;omega
  ·rw [hv]
   refine (qoy W1 p W.heap.size (W.heap.size + 1) (W.heap.size + 2) bb o c a b (b - a) s.sb row (Qa hW1 q1) (Qa hW1 q2) (Qa hW1 q3) c7 hC hc1 (by omega) (by omega) (by omega)).mono ?_
   rintro e W2 ⟨v',rfl,hO,b2⟩;have hO2 : W2.ownsRow W1.heap.size 56 4 v' (ovR row (qe (b - a) (32,0,s.sb,0)) a b).length (flat (ovR row (qe (b - a) (32,0,s.sb,0)) a b)) := by rw [hlen];exact hO
   rcases Fg.of hO2 with ⟨he,-⟩ | ⟨g,cap,rest,⟨t,ht⟩,hv',hg1,hg2,hg3,hg4⟩
   ·have h5 := congrArg List.length he
    rw [hlen,List.length_nil] at h5;omega
   ·subst ht
    rw [hv'];exact ⟨g,cap,rest,rfl,hg1,hg2,hg3,hg4,b2⟩
 have HP0 : Hid _ := hx0;have q1 := Zm hx0;have q2 := Zm hx1;have q3 := Zm hx2;have HKB : Hid _ := kb;have hNW : N ≤ W.heap.size := by have := hS.lo;have := Qc hS.blk;omega
 clear hS hT hrow hz hst kb hx0 hx1 hx2 hrr hlen;go_enter Tryz.func201,Tryz.ntmps201;go_upto_region 1 with fail
 generalize (((W.alloc (.cells #[.pointer (some ⟨p,0,none⟩)] 83)).alloc (.cells #[.int .i64 (a : Int)] 3)).alloc (.cells #[.int .i64 (b : Int)] 3)) = X at *;go_wp2_with fail;refine (HA.out _ HKB.out q1 q2 q3).mono ?_;rintro e V ⟨rfl,hSV,hBV,hFV⟩;have HSV : Hid _ := hSV;have HBV : Hid _ := hBV;have HFV : Hid _ := hFV;clear hSV hBV hFV q1 q2 q3;go_wp2_with fail;go_end0;exact ⟨rfl,HSV.out,(HKB.out.mono hNW).trans HBV.out,(Q3.of_below HKB.out).trans HFV.out⟩
end Put
namespace Put
open Grd (C SliceAt Qb Qf z0 Q0 flat Qe Q8)
open Sty (Q5)
def Zo (n : Nat) (rows : List (List C)) : Prop := ∀ i,i < rows.length → (rows.getD i []).length = n ∧ Q8 (rows.getD i [])
theorem Vp {s : Scr} {n hh : Nat} (h : Qg s n hh) : Zo n (Qe n s.cs hh) := fun i hi => by
 rw [Grd.Qt] at hi;have e2 : (Qe n s.cs hh).getD i [] = Grd.rowAt n s.cs i := by simp [Qe,qy,hi]
 rw [e2];exact ⟨Grd.qbf n hh s.cs i h.cl hi,((Grd.Zd n hh s.cs).1 h.gz).2.2 i hi⟩
theorem Zo.set {n : Nat} {rows : List (List C)} (h : Zo n rows) (k : Nat) (row : List C) (hl : row.length = n) (hr : Q8 row) : Zo n (rows.set k row) := fun i hi => by
 rw [List.length_set] at hi
 by_cases e : i = k
 ·subst e
  rw [J4 _ _ _ _ hi];exact ⟨hl,hr⟩
 ·rw [getD_set_ne _ _ _ _ _ e]
  exact h i hi
theorem qju (n : Nat) (row : List C) (hn1 : 1 ≤ n) (hn2 : n ≤ 120) (hl : row.length = n) (hr : Q8 row) : Qf n 1 row = 0 := by
 refine (Grd.Zd n 1 row).2 ⟨?_,by omega,fun y hy => ?_⟩
 ·simp [Grd.Zk]
  omega
 ·have e : y = 0 := by omega
  subst e;have e2 : Grd.rowAt n row 0 = row := by
   unfold Grd.rowAt;rw [Nat.zero_mul,List.drop_zero,List.take_of_length_le (by omega)]
  rw [e2];exact hr
theorem V8 {s : Scr} {n hh : Nat} (h : Qg s n hh) : Q5 (0,s.sb,0) = true := by
 have h1 := h.looks;simp only [Za,Bool.and_eq_true] at h1;have h2 := h1.1;simp only [Q5,decide_eq_true_eq] at h2 ⊢;omega
def Zw (k : Int) (at' size : Nat) : Nat × Nat := if k ≤ 0 then (at',size) else if k = 1 then (0,at' + 1) else if k = 2 then (0,size) else (0,0)
theorem qn6 (k : Int) (x n : Nat) (hx : x ≤ 120) (w : World) : Calls qP 230 #[.int .i64 k,.int .i64 (x : Int),.int .i64 (n : Int)] w fun e w' => e = .returned (.tuple #[.int .i64 ((Zw k x n).1 : Nat),.int .i64 ((Zw k x n).2 : Nat)]) ∧ w = w' := by
 by_cases k0 : k ≤ 0
 ·have e : Zw k x n = (x, n) := by unfold Zw; rw [if_pos k0]
  rw [e];clear e;go_enter Tryz.func230,Tryz.ntmps230;go_wp2_with fail;go_ret2;exact ⟨rfl,rfl⟩
 ·by_cases k1 : k = 1
  ·have e : Zw k x n = (0, x + 1) := by unfold Zw; rw [if_neg k0, if_pos k1]
   rw [e];clear e k0;subst k1;go_enter Tryz.func230,Tryz.ntmps230;go_wp2_with fail;go_ret2;exact ⟨rfl,rfl⟩
  ·by_cases k2 : k = 2
   ·have e : Zw k x n = (0, n) := by unfold Zw; rw [if_neg k0, if_neg k1, if_pos k2]
    rw [e];clear e k0 k1;subst k2;go_enter Tryz.func230,Tryz.ntmps230;go_wp2_with fail;go_ret2;exact ⟨rfl,rfl⟩
   ·have e : Zw k x n = (0, 0) := by unfold Zw; rw [if_neg k0, if_neg k1, if_neg k2]
    have q1 : (k == 1) = false := by rw [beq_eq_false_iff_ne];exact k1
    have q2 : (k == 2) = false := by rw [beq_eq_false_iff_ne];exact k2
    rw [e];clear e k1 k2;go_enter Tryz.func230,Tryz.ntmps230;go_wp2_with fail;go_ret2;exact ⟨rfl,rfl⟩
theorem qw7 (k : Int) (x n : Nat) (hx : x < n) : (Zw k x n).1 ≤ (Zw k x n).2 := by
 unfold Zw
 repeat' split
 all_goals (dsimp only;omega)
theorem qr7 (k : Int) (x n : Nat) (hx : x < n) : (Zw k x n).1 ≤ n ∧ (Zw k x n).2 ≤ n := by
 unfold Zw;split
 ·exact ⟨by show x ≤ n;omega,qd _⟩
 ·split
  ·exact ⟨by show 0 ≤ n;omega,by show x + 1 ≤ n;omega⟩
  ·split
   ·exact ⟨by show 0 ≤ n;omega,qd _⟩
   ·exact ⟨by show 0 ≤ n;omega,by show 0 ≤ n;omega⟩
def J7 (s : Scr) (k : Int) (x n : Nat) (row : List C) : List C := Jb s.sb row (Zw k x n).1 (Zw k x n).2
theorem qbr (W : World) (M N p : Nat) (s : Scr) (rows : List (List C)) (hT : Txt.Tab W) (hS : ShAt 110 W M N p s rows) (n y x : Nat) (k : Int) (hw : s.w = n) (hy : s.y = y) (hx : s.x = x) (hyl : y < rows.length) (hxn : x < n) (hn1 : 1 ≤ n) (hn2 : n ≤ 120) (hR : Zo n rows) (hst : Q5 (0, s.sb, 0) = true) :
  Calls qP 206 #[.pointer (some ⟨p,0,none⟩),.int .i64 k] W (Ran W M N p s (rows.set y (J7 s k x n (rows.getD y [])))) := by
 obtain ⟨c0,c1,c3,c4,c5,c9,c10,c11,c19,f⟩ := hS.words;have hsp := qr7 k x n hxn;have HSP : Hid (∀ W,Calls qP 230 #[.int .i64 k,.int .i64 (x : Int),.int .i64 (n : Int)] W fun e w' => e = .returned (.tuple #[.int .i64 ((Zw k x n).1 : Nat),.int .i64 ((Zw k x n).2 : Nat)]) ∧ W = w') := fun W => qn6 k x n (by omega) W
 have HCL : Hid (∀ V,Below W.heap.size W V → Calls qP 201 #[.pointer (some ⟨p,0,none⟩),.int .i64 (y : Int),.int .i64 ((Zw k x n).1 : Nat),.int .i64 ((Zw k x n).2 : Nat)] V (Ran V M N p s (rows.set y (J7 s k x n (rows.getD y []))))) := fun V hV => qd1 V M N p s rows (Grd.Tab.next hT hV) (hS.next hV) n y _ _ hyl _ rfl hn1 hn2 (hR y hyl).1 (qju n _ hn1 hn2 (hR y hyl).1 (hR y hyl).2) hst (qw7 k x n hxn) hsp.2
 have hNW : N ≤ W.heap.size := by
  obtain ⟨_,_,_,_,_,_,hA⟩ := hS;have := hA.lo;have := Qc hA.blk;omega
 rw [hw] at c0;rw [hx] at c3;rw [hy] at c4;clear c1 c5 c9 c10 c11 c19 f hT hS hR hsp hw hx hy;generalize (Zw k x n).1 = a at *;generalize (Zw k x n).2 = b at *;generalize rows.set y (J7 s k x n (rows.getD y [])) = rows' at *;go_enter Tryz.func206,Tryz.ntmps206;go_upto_region 0 with fail
 go_region_held3 (fun w' => w'.cell? ⟨p,3,none⟩ = some (.int .i64 (x : Int)) ∧ w'.cell? ⟨p,0,none⟩ = some (.int .i64 (n : Int))) (go_keep) (first | (go_at_call 230;refine (HSP.out _).mono ?_;rintro e V ⟨rfl,hv⟩;subst hv))
 go_wp2_with fail;refine (HCL.out _ ((qr _ _).drew)).mono ?_;rintro e V ⟨rfl,hSV,hBV,hFV⟩;have HSV : Hid _ := hSV;have HBV : Hid (Below N W V) := ((qr _ _).drew).trans hBV;have HFV : Hid (Q3 W V) := (Q3.of_below ((qr _ _).drew)).trans hFV;clear hSV hBV hFV;go_wp2_with fail;go_end0;exact ⟨rfl,HSV.out,HBV.out,HFV.out⟩
def J8 (rows : List (List C)) (n : Nat) (bk : Int) (a k y : Nat) : List (List C) := (List.range rows.length).map fun i => if a ≤ i ∧ i < k ∧ i ≠ y then qe n (32,0,bk,0) else rows.getD i []
theorem Zp (rows : List (List C)) (n : Nat) (bk : Int) (a k y : Nat) : (J8 rows n bk a k y).length = rows.length := by simp [J8]
theorem Vi (rows : List (List C)) (n : Nat) (bk : Int) (a k y i : Nat) (hi : i < rows.length) : (J8 rows n bk a k y).getD i [] = if a ≤ i ∧ i < k ∧ i ≠ y then qe n (32,0,bk,0) else rows.getD i [] := by
 simp [J8,qy,hi]
theorem qco {a b : List (List C)} (hl : a.length = b.length) (h : ∀ i,i < a.length → a.getD i [] = b.getD i []) : a = b := by
 apply List.ext_getElem hl;intro i h1 h2;have := h i h1;simpa [qy,h1,h2] using this
theorem qkm (rows : List (List C)) (n : Nat) (bk : Int) (a y : Nat) : J8 rows n bk a a y = rows := by
 refine qco (Zp _ _ _ _ _ _) fun i hi => ?_
 rw [Zp] at hi;rw [Vi _ _ _ _ _ _ _ hi,if_neg (by omega)]
theorem qmo (rows : List (List C)) (n : Nat) (bk : Int) (a k : Nat) : J8 rows n bk a (k + 1) k = J8 rows n bk a k k := by
 refine qco (by rw [Zp,Zp]) fun i hi => ?_
 rw [Zp] at hi;rw [Vi _ _ _ _ _ _ _ hi,Vi _ _ _ _ _ _ _ hi]
 by_cases h : a ≤ i ∧ i < k ∧ i ≠ k
 ·rw [if_pos h,if_pos (by omega)]
 ·rw [if_neg h,if_neg (by omega)]
theorem qly (rows : List (List C)) (n : Nat) (bk : Int) (a k y : Nat) (hk : k < rows.length) (ha : a ≤ k) (hy : k ≠ y) : (J8 rows n bk a k y).set k (qe n (32,0,bk,0)) = J8 rows n bk a (k + 1) y := by
 refine qco (by rw [List.length_set,Zp,Zp]) fun i hi => ?_
 rw [List.length_set,Zp] at hi
 by_cases e : i = k
 ·subst e
  rw [J4 _ _ _ _ (by rw [Zp];exact hi),Vi _ _ _ _ _ _ _ hi,if_pos (by omega)]
 ·rw [getD_set_ne _ _ _ _ _ e, Vi _ _ _ _ _ _ _ hi, Vi _ _ _ _ _ _ _ hi]
  by_cases h : a ≤ i ∧ i < k ∧ i ≠ y
  ·rw [if_pos h,if_pos (by omega)]
  ·rw [if_neg h,if_neg (by omega)]
theorem qm3 (n : Nat) (bk : Int) (hs : Q5 (0,bk,0) = true) : Q8 (qe n ((32,0,bk,0) : C)) := by
 have h := Fx bk (qe n ((32,0,0,0) : C)) 0 n (Grd.qe7 n) hs;rw [qhf bk _ n (by rw [List.length_replicate];exact qd _),List.length_replicate] at h
 exact h
theorem Vt (rows : List (List C)) (n : Nat) (bk : Int) (a k y : Nat) (h : Zo n rows) (hs : Q5 (0,bk,0) = true) : Zo n (J8 rows n bk a k y) := fun i hi => by
 rw [Zp] at hi;rw [Vi _ _ _ _ _ _ _ hi];split
 ·exact ⟨List.length_replicate,qm3 n bk hs⟩
 ·exact h i hi
theorem qh7 (W : World) (M N p : Nat) (s : Scr) (rows : List (List C)) (hT : Txt.Tab W) (hTN : 0 < N) (hS : ShAt 110 W M N p s rows) (n hh y : Nat) (k : Int) (hw : s.w = n) (hh' : s.h = hh) (hy : s.y = y) (hrl : rows.length = hh) (hyl : y < hh) (hhl : hh ≤ 60) (hn1 : 1 ≤ n) (hn2 : n ≤ 120) (hR : Zo n rows) (hst : Q5 (0, s.sb, 0) = true) :
  Calls qP 207 #[.pointer (some ⟨p,0,none⟩),.int .i64 k] W (Ran W M N p s (J8 rows n s.sb (Zw k y hh).1 (Zw k y hh).2 y)) := by
 obtain ⟨c0,c1,c3,c4,c5,c9,c10,c11,c19,f⟩ := hS.words;have hsp := qr7 k y hh hyl;have HSP : Hid (∀ W,Calls qP 230 #[.int .i64 k,.int .i64 (y : Int),.int .i64 (hh : Int)] W fun e w' => e = .returned (.tuple #[.int .i64 ((Zw k y hh).1 : Nat),.int .i64 ((Zw k y hh).2 : Nat)]) ∧ W = w') := fun W => qn6 k y hh (by omega) W
 have hmono : (Zw k y hh).1 ≤ (Zw k y hh).2 := by
  unfold Zw;split
  ·show y ≤ hh
   omega
  ·split
   ·show 0 ≤ y + 1
    omega
   ·split
    ·show 0 ≤ hh
     omega
    ·exact qd _
 rw [hh'] at c1;rw [hy] at c4;have HSW : Hid (s.w = n ∧ s.y = y) := ⟨hw,hy⟩;have HRR : Hid (Zo n rows) := hR;have HT : Hid (Txt.Tab W) := hT;have HS : Hid (ShAt 110 W M N p s rows) := hS;clear c0 c3 c5 c9 c10 c11 c19 f hT hS hR hw hh' hy;generalize (Zw k y hh).1 = a at *;generalize (Zw k y hh).2 = b at *;go_enter Tryz.func207,Tryz.ntmps207;go_upto_region 0 with fail
 go_region_held3 (fun w' => w'.cell? ⟨p,4,none⟩ = some (.int .i64 (y : Int)) ∧ w'.cell? ⟨p,1,none⟩ = some (.int .i64 (hh : Int))) (go_keep) (first | (go_at_call 230;refine (HSP.out _).mono ?_;rintro e V ⟨rfl,hv⟩;subst hv))
 go_wp2_with fail;clear c1 c4;go_loopg [6] hh (fun q i wr => ∃ j : Nat,i = .int .i64 (j : Int) ∧ a ≤ j ∧ j ≤ b ∧ b - j ≤ q ∧ ShAt 110 wr M N p s (J8 rows n s.sb a j y) ∧ Below N W wr ∧ Q3 W wr ∧ Txt.Tab wr)
 case atStart => exact ⟨a,rfl,qd _,hmono,by omega,by rw [qkm];exact HS.out.drew,(qr _ _).drew,Q3.of_below ((qr _ _).drew),Grd.Tab.next HT.out ((qr _ _).drew)⟩
 case round =>
  obtain ⟨j,rfl,hj1,hj2,hq,hSj,hBj,hFj,hTj⟩ := hrel
  by_cases hlt : j < b
  ·have lt1 : (j : Int) < (b : Int) := by omega
   obtain ⟨c0,c1,c3,c4,c5,c9,c10,c11,c19,f⟩ := hSj.words;rw [HSW.out.1] at c0;rw [HSW.out.2] at c4;have HBJ : Hid (Below N W wr) := hBj;have HFJ : Hid (Q3 W wr) := hFj;have HTJ : Hid (Txt.Tab wr) := hTj;have HSJ : Hid (ShAt 110 wr M N p s (J8 rows n s.sb a j y)) := hSj;clear c1 c3 c5 c9 c10 c11 c19 f hSj hBj hFj hTj
   by_cases hjy : j = y
   ·have hb : ((j : Int) != (y : Int)) = false := by rw [bne_eq_false_iff_eq]; omega
    have HJY : Hid (j = y) := hjy;clear hjy;go_wp2_with fail;go_roundg (b - (j + 1))
    case measure => omega
    case rel =>
     refine ⟨j + 1,by go_num,by omega,by omega,by omega,?_,HBJ.out,HFJ.out,HTJ.out⟩
     have h := HSJ.out;rw [← HJY.out] at h ⊢;rw [qmo];exact h
   ·have hb : ((j : Int) != (y : Int)) = true := by rw [bne_iff_ne]; omega
    have HCL := qd1 wr M N p s _ HTJ.out HSJ.out n j 0 n (by rw [Zp];omega) _ rfl hn1 hn2 (Vt rows n s.sb a j y HRR.out hst j (by rw [Zp];omega)).1 (qju n _ hn1 hn2 (Vt rows n s.sb a j y HRR.out hst j (by rw [Zp];omega)).1 (Vt rows n s.sb a j y HRR.out hst j (by rw [Zp];omega)).2) hst (by omega) (qd _)
    have hlen := (Vt rows n s.sb a j y HRR.out hst j (by rw [Zp];omega)).1
    rw [qhf s.sb _ n (by omega),hlen,qly rows n s.sb a j y (by omega) hj1 hjy] at HCL
    clear hjy hlen;go_wp2_with fail;refine HCL.mono ?_;rintro e V ⟨rfl,hSV,hBV,hFV⟩;have HSV : Hid _ := hSV;have HBV : Hid (Below N W V) := HBJ.out.trans hBV;have HFV : Hid (Q3 W V) := HFJ.out.trans hFV;have HTV : Hid (Txt.Tab V) := HTJ.out.below hBV hTN;clear hSV hBV hFV HCL;go_wp2_with fail;go_roundg (b - (j + 1))
    case measure => omega
    case rel => exact ⟨j + 1,by go_num,by omega,by omega,by omega,HSV.out,HBV.out,HFV.out,HTV.out⟩
  ·have lt1 : ¬ (j : Int) < (b : Int) := by omega
   have hjb : j = b := by omega
   subst hjb;clear hTj;go_wp2_with fail;go_end0;exact ⟨rfl,hSj,hBj,hFj⟩
end Put
namespace Put
open Grd (C SliceAt Qb Qf z0 Q0 flat Qe)
theorem q1d {w V : World} {s : Scr} {cv tv gv : Value} {A : Array Value} {t t' : TypeId} (hb : Below w.heap.size w V) (h0 : V.heap[w.heap.size]? = some (.cells (scrA s cv tv gv) t (0, 0))) (h1 : V.heap[w.heap.size + 1]? = some (.cells A t' (0, 0))) {s' : Scr} {cv' tv' gv' : Value} :
  Below w.heap.size w (V.setRow (w.heap.size + 1) (scrA s' cv' tv' gv')) ∧ Zj (V.setRow (w.heap.size + 1) (scrA s' cv' tv' gv')) (.pointer (some ⟨w.heap.size,0,none⟩)) ∧ Z7 (V.setRow (w.heap.size + 1) (scrA s' cv' tv' gv')) (.pointer (some ⟨w.heap.size,0,none⟩)) = scrA s cv tv gv ∧ Zc (V.setRow (w.heap.size + 1) (scrA s' cv' tv' gv')) (.pointer (some ⟨w.heap.size + 1,0,none⟩)) := by
 have h2 : (V.setRow (w.heap.size + 1) (scrA s' cv' tv' gv')).heap[w.heap.size]? = _ := (setRow_other _ _ _ _ (by omega)).trans h0
 have h3 := setRow_heap V (w.heap.size + 1) A (scrA s' cv' tv' gv') t' _ h1;exact ⟨below_setRow hb (by omega) _,(Qs h2).1,(Qs h2).2,Zb h3 rfl⟩
section
attribute [local go_sem ↓] Xp Jg
attribute [local go_sem] G7 Xx Xy
theorem ql7 (s s' : Scr) (cv tv gv : Value) (df : FuncId) (caps : Array Value) (w0 w : World) (hT : Txt.Tab w) (hV : Zh w0 s cv tv gv) (hb0 : Below w0.heap.size w0 w) (hF : Fits s)
  (hCH : ∀ W,Below w.heap.size w W → Calls qP 35 #[.agg (scrA s cv tv gv),.int .i64 (Qj s),.func (.func df) #[] caps] W (Made w0 W s' (Qj s))) :
  Calls qP 208 #[.agg (scrA s cv tv gv),.func (.func df) #[] caps] w (Made w0 w s' (Qj s)) := by
 obtain ⟨ca,cc,rfl⟩ := hV.c.shape;obtain ⟨ta,tc,rfl⟩ := hV.t.slice;obtain ⟨ga,gc,rfl⟩ := hV.g.slice;have hx0 : ((w.alloc (.cells (scS s ca cc ta tc ga gc) 32)).alloc (.cells zA 32)).heap[w.heap.size]? = some (.cells (scS s ca cc ta tc ga gc) 32 (0,0)) := (qs _ _ _ (by simp)).trans (qf _ _)
 have hx1 : ((w.alloc (.cells (scS s ca cc ta tc ga gc) 32)).alloc (.cells zA 32)).heap[w.heap.size + 1]? = some (.cells zA 32 (0,0)) := heap_alloc2_new w _ _;have hkb : Below w.heap.size w ((w.alloc (.cells (scS s ca cc ta tc ga gc) 32)).alloc (.cells zA 32)) := ((qr _ _).alloc (qd _) _).alloc (by simp) _
 have hsz : ((w.alloc (.cells (scS s ca cc ta tc ga gc) 32)).alloc (.cells zA 32)).heap.size = w.heap.size + 2 := by simp
 have HX0 : Hid _ := hx0;have HX1 : Hid _ := hx1;have HKB : Hid _ := hkb;have HSZ : Hid _ := hsz;have HCK : Hid (∀ W,Below w.heap.size w W → Calls qP 6 #[.agg (scS s ca cc ta tc ga gc)] W fun e w' => e = .returned (.int .i64 (Qj s)) ∧ Below W.heap.size W w') := fun W hW => Zt s _ _ _ W (Grd.Tab.next hT hW) (hV.next (hb0.trans (hW.mono hb0.size))) hF
 have HCH : Hid (∀ W,Below w.heap.size w W → Calls qP 35 #[.agg (scS s ca cc ta tc ga gc),.int .i64 (Qj s),.func (.func df) #[] caps] W (Made w0 W s' (Qj s))) := hCH;have hM := hb0.size;clear hx0 hx1 hkb hV hF hT hCH hb0 hsz;generalize Qj s = er at *;go_enter Tryz.func208,Tryz.ntmps208;go_upto_region 1 with fail
 generalize ((w.alloc (.cells (scS s ca cc ta tc ga gc) 32)).alloc (.cells zA 32)) = X at *;have SK : Hid (∀ w',Below X.heap.size X w' → Below w.heap.size w w' ∧ Zj w' (.pointer (some ⟨w.heap.size,0,none⟩)) ∧ Z7 w' (.pointer (some ⟨w.heap.size,0,none⟩)) = (scS s ca cc ta tc ga gc) ∧ Zc w' (.pointer (some ⟨w.heap.size + 1,0,none⟩))) := fun w' hb => by
  have h0 := Grd.carry HX0.out hb;exact ⟨HKB.out.trans (hb.mono HKB.out.size),(Qs h0).1,(Qs h0).2,Zb (Grd.carry HX1.out hb) rfl⟩
 have b0 : Below X.heap.size X X.drew := (qr _ _).drew
 go_region_held3 (fun w' => Below w.heap.size w w' ∧ Zj w' (.pointer (some ⟨w.heap.size, 0, none⟩)) ∧ Z7 w' (.pointer (some ⟨w.heap.size, 0, none⟩)) = (scS s ca cc ta tc ga gc) ∧ Zc w' (.pointer (some ⟨w.heap.size + 1, 0, none⟩)))
  (first | exact KF.out | exact SK.out _ b2 | exact SK.out _ b1 | exact SK.out _ b0)
  (first | (go_at_call 6;refine (HCK.out _ (SK.out _ b0).1).mono ?_;rintro e V1 ⟨rfl,c1⟩;have b1 := b0.trans (c1.mono b0.size);clear c1) | (go_at_call 35;refine (HCH.out _ (SK.out _ b1).1).mono ?_;rintro e V2 ⟨cv',tv',gv',rfl,hO,c2⟩;have b2 := b1.trans (c2.mono b1.size);obtain ⟨a1,n1,c1,a2,n2,c2',a3,n3,c3,rfl,rfl,rfl⟩ := hO.shapes;have HO : Hid (Qo V2 0 _ s' _ _ _) := hO;clear c2 hO;have HR : Hid (V2.heap[w.heap.size + 1]? = _) := Grd.carry HX1.out b2;have KF : Hid (Below w.heap.size w (V2.setRow (w.heap.size + 1) (scT s' a1 n1 c1 a2 n2 c2' a3 n3 c3)) ∧ Zj (V2.setRow (w.heap.size + 1) (scT s' a1 n1 c1 a2 n2 c2' a3 n3 c3)) (.pointer (some ⟨w.heap.size,0,none⟩)) ∧ Z7 (V2.setRow (w.heap.size + 1) (scT s' a1 n1 c1 a2 n2 c2' a3 n3 c3)) (.pointer (some ⟨w.heap.size,0,none⟩)) = (scS s ca cc ta tc ga gc) ∧ Zc (V2.setRow (w.heap.size + 1) (scT s' a1 n1 c1 a2 n2 c2' a3 n3 c3)) (.pointer (some ⟨w.heap.size + 1,0,none⟩))) := q1d (SK.out _ b2).1 (Grd.carry HX0.out b2) HR.out))
 go_wp2_with fail
 (try simp only [Exit.inBlock,Exit.then])
 refine bodyPost_ret (v := .tuple #[.agg (scT s' a1 n1 c1 a2 n2 c2' a3 n3 c3),.int .i64 er]) ?_ rfl ⟨_,_,_,rfl,?_,KF.out.1⟩
 ·exact Grd.Qd rfl _ _ (w.heap.size + 1) _ _ _ _ rfl (setRow_heap _ _ _ _ _ _ HR.out) Tryz.underlying32 rfl (by kernel_rfl) _ rfl
 ·exact (Qo.off HO.out HR.out Ql (by omega) fun k hk => setRow_other _ _ _ _ hk).mono (SK.out _ b1).1.size
end
end Put
end Go.Proofs.YtooobiigijphkaaGreatDoor
