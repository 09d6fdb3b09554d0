/- Parts of the proof, shortened by a program. -/
import Derived.Test.YtcnblcmpgmgbbaaGreatDoorPartL
import Derived.Test.YtcnblcmpgmgbbaaGreatDoorPartE
import Derived.Test.YtcnblcmpgmgbbaaGreatDoorPartK
import Derived.Test.YtcnblcmpgmgbbaaGreatDoorPartG
import Derived.Test.YtcnblcmpgmgbbaaGreatDoorPartF
import Derived.Test.YtcnblcmpgmgbbaaGreatDoorPartJ
import Derived.Deep.RegionWith
import Derived.Test.YtcnblcmpgmgbbaaGreatDoorPartI
import Derived.Deep.RegionHeld3
import Derived.BigRegion
import Derived.BigQuiet
import Derived.Deep.Cut
import Derived.Deep.CutRange
namespace Go.Proofs.YtcnblcmpgmgbbaaGreatDoor
set_option linter.unusedVariables false
set_option linter.unusedSimpArgs false
set_option maxRecDepth 100000
open Go.ChangeShapes Go.WideShapes Go.ChangeAt Go.RowKit
namespace Put
open Grd (C SliceAt Qb Qf z0 Qx flat Qe Jw Y7 Zr)
theorem qkc (row : List C) (x n : Nat) (bk : Int) (h : x + n ≤ row.length) (i : Nat) (hi : i < row.length) : (G7 row x n bk).getD i z0 = if i < x then row.getD i z0 else if i < x + n then (32, 0, bk, 0) else row.getD (i - n) z0 := by
 have e1 : (row.take x).length = x := by rw [List.length_take]; omega
 unfold G7
 by_cases h1 : i < x
 ·rw [if_pos h1]
  simp only [List.getD]
  rw [List.getElem?_append_left (by omega), List.getElem?_take_of_lt h1]
 ·rw [if_neg h1]
  simp only [List.getD]
  rw [List.getElem?_append_right (by omega), e1]
  by_cases h2 : i < x + n
  ·rw [if_pos h2, List.getElem?_append_left (by rw [List.length_replicate]; omega), List.getElem?_replicate, if_pos (by omega)]
   rfl
  ·rw [if_neg h2, List.getElem?_append_right (by rw [List.length_replicate]; omega), List.length_replicate, List.getElem?_take_of_lt (by omega), List.getElem?_drop, show x + (i - x - n) = i - n by omega]
theorem qdx {row : List C} (hr : Grd.V4 row) (x n : Nat) (bk : Int) (hn : 1 ≤ n) (hx : x + n ≤ row.length) (hs : Sty.Q3 (0, bk, 0) = true) : Grd.V4 (G7 row x n bk) := fun i hi => by
 rw [U7 _ _ _ _ hx] at hi
 rw [qkc _ _ _ _ hx i hi]
 by_cases h1 : i < x
 ·rw [if_pos h1]
  refine ⟨(hr i hi).1, (hr i hi).2.1, fun h0 hp hw => ?_⟩
  rw [qkc _ _ _ _ hx (i - 1) (by omega), if_pos (by omega)] at hw ⊢
  exact (hr i hi).2.2 h0 hp hw
 ·rw [if_neg h1]
  by_cases h2 : i < x + n
  ·rw [if_pos h2]
   exact ⟨fun _ => by dsimp only; rw [Grd.wd32]; decide, hs, fun h => absurd h (by simp)⟩
  ·rw [if_neg h2]
   have hi2 : i - n < row.length := by omega
   refine ⟨(hr _ hi2).1, (hr _ hi2).2.1, fun h0 hp hw => ?_⟩
   rw [qkc _ _ _ _ hx (i - 1) (by omega), if_neg (by omega)] at hw ⊢
   by_cases h3 : i - 1 < x + n
   ·rw [if_pos h3] at hw
    dsimp only at hw
    rw [Grd.wd32] at hw
    exact absurd hw (by decide)
   ·rw [if_neg h3] at hw ⊢
    rw [show i - 1 - n = i - n - 1 by omega] at hw ⊢
    exact (hr _ hi2).2.2 h0 (by omega) hw
theorem quu : Plain 115 := by
 intro args W
 kernel_rfl
set_option maxHeartbeats 4000000 in
theorem qfi (X : World) (M N p : Nat) (s : Scr) (rows : List (List C)) (hS : ShAt 111 X M N p s rows) (hT : Txt.Tab X) (y x n : Nat) (hsy : s.y = y) (hsx : s.x = x) (hy : y < rows.length) (hn1 : 1 ≤ n) (hxn : x + n ≤ (rows.getD y []).length) (hl : (rows.getD y []).length ≤ 120) (hm : Grd.V4 (rows.getD y [])) (hst : Sty.Q3 (0, s.sb, 0) = true) :
  Calls Tryz.prog 67 #[.pointer (some ⟨p, 0, none⟩), .int .i64 (n : Int)] X (Ran X M N p s (rows.set y (Zr (G7 (rows.getD y []) x n s.sb)))) := by
 have kb : Below X.heap.size X ((X.alloc (.cells #[.pointer (some ⟨p, 0, none⟩)] 84)).alloc (.cells #[.int .i64 (n : Int)] 3)) := ((Below.refl _ _).alloc (Nat.le_refl _) _).alloc (by simp) _
 have h0 : (X.alloc (.cells #[.pointer (some ⟨p, 0, none⟩)] 84)).heap[X.heap.size]? = some (.cells #[.pointer (some ⟨p, 0, none⟩)] 84 (0, 0)) := heap_alloc_new X _
 have h0 := (Below.heap_alloc (X.alloc (.cells #[.pointer (some ⟨p, 0, none⟩)] 84)) (.cells #[.int .i64 (n : Int)] 3) _ (Qc h0)).trans h0
 have h1 : ((X.alloc (.cells #[.pointer (some ⟨p, 0, none⟩)] 84)).alloc (.cells #[.int .i64 (n : Int)] 3)).heap[X.heap.size + 1]? = some (.cells #[.int .i64 (n : Int)] 3 (0, 0)) := by
  have h := heap_alloc_new (X.alloc (.cells #[.pointer (some ⟨p, 0, none⟩)] 84)) (.cells #[.int .i64 (n : Int)] 3)
  have e : (X.alloc (.cells #[.pointer (some ⟨p, 0, none⟩)] 84)).heap.size = X.heap.size + 1 := by simp
  rw [e] at h
  exact h
 have q0 : ((X.alloc (.cells #[.pointer (some ⟨p, 0, none⟩)] 84)).alloc (.cells #[.int .i64 (n : Int)] 3)).cell? ⟨X.heap.size, 0, none⟩ = some (.pointer (some ⟨p, 0, none⟩)) := by
  unfold World.cell?
  rw [h0]
  rfl
 have q1 : ((X.alloc (.cells #[.pointer (some ⟨p, 0, none⟩)] 84)).alloc (.cells #[.int .i64 (n : Int)] 3)).cell? ⟨X.heap.size + 1, 0, none⟩ = some (.int .i64 (n : Int)) := by
  unfold World.cell?
  rw [h1]
  rfl
 obtain ⟨cv, tv, gv, rv, gvs, vs, hA⟩ := hS
 have hA2 := ShA.next hA kb
 have hlen := U7 (rows.getD y []) x n s.sb hxn
 have HRL : Hid (∀ V, Below (((X.alloc (.cells #[.pointer (some ⟨p, 0, none⟩)] 84)).alloc (.cells #[.int .i64 (n : Int)] 3))).heap.size ((X.alloc (.cells #[.pointer (some ⟨p, 0, none⟩)] 84)).alloc (.cells #[.int .i64 (n : Int)] 3)) V → Calls Tryz.prog 114 #[.pointer (some ⟨p, 0, none⟩), .int .i64 (y : Int), .func (.func 115) #[] #[.pointer (some ⟨X.heap.size, 0, none⟩), .pointer (some ⟨X.heap.size + 1, 0, none⟩)]] V (Ran V M N p s (rows.set y (Zr (G7 (rows.getD y []) x n s.sb))))) := fun V hV => qc9 V M N p s rows cv tv gv rv gvs vs (ShA.next hA2 hV) (Grd.Tab.next (Grd.Tab.next hT kb) hV) y hy 115 quu #[.pointer (some ⟨X.heap.size, 0, none⟩), .pointer (some ⟨X.heap.size + 1, 0, none⟩)] (G7 (rows.getD y []) x n s.sb) (fun W1 hW0 => by
  have hW1 := hV.trans (hW0.mono hV.size)
  have hri := (ShA.next hA2 hW1).rin.2 y hy
  obtain ⟨⟨-, -, -, c3, -, -, -, c7, -⟩, -, -⟩ := Qr (ShA.next hA2 hW1).blk
  rw [hsx] at c3
  rcases hri with ⟨he, -⟩ | ⟨hne, b, o, c, hv, hc1, hc2, hC, -⟩
  ·have h5 := congrArg List.length he
   rw [List.length_nil] at h5
   omega
  ·rw [hv]
   refine (qvp W1 p X.heap.size (X.heap.size + 1) b o c x n s.sb (rows.getD y []) (Qa hW1 q0) (Qa hW1 q1) c3 c7 hC hc1 hn1 hxn hl).mono ?_
   rintro e W2 ⟨v', rfl, hO, b2⟩
   have hO2 : W2.ownsRow W1.heap.size 57 4 v' (G7 (rows.getD y []) x n s.sb).length (flat (G7 (rows.getD y []) x n s.sb)) := by rw [hlen]; exact hO
   rcases U8.of hO2 with ⟨he, -⟩ | ⟨g, cap, rest, ⟨t, ht⟩, hv', hg1, hg2, hg3, hg4⟩
   ·have h5 := congrArg List.length he
    rw [hlen, List.length_nil] at h5
    omega
   ·subst ht
    rw [hv']
    exact ⟨g, cap, rest, rfl, hg1, hg2, hg3, hg4, b2⟩) (qdx hm x n s.sb hn1 hxn hst).alike (by rw [hlen]; omega)
 have HKB : Hid (Below X.heap.size X ((X.alloc (.cells #[.pointer (some ⟨p, 0, none⟩)] 84)).alloc (.cells #[.int .i64 (n : Int)] 3))) := kb
 have hNX : N ≤ X.heap.size := Nat.le_trans hA.lo (Nat.le_of_lt (Qc hA.blk))
 have c4 : ((X.alloc (.cells #[.pointer (some ⟨p, 0, none⟩)] 84)).alloc (.cells #[.int .i64 (n : Int)] 3)).cell? ⟨p, 4, none⟩ = some (.int .i64 (y : Int)) := by
  obtain ⟨⟨-, -, -, -, c4, -⟩, -, -⟩ := Qr hA2.blk
  rw [hsy] at c4
  exact c4
 clear hA hA2 h0 h1 kb hm hst hsy hsx hlen hT
 generalize Zr (G7 (rows.getD y []) x n s.sb) = row2 at *
 go_enter Tryz.func67, Tryz.ntmps67
 go_upto_region 1 with fail
 generalize ((X.alloc (.cells #[.pointer (some ⟨p, 0, none⟩)] 84)).alloc (.cells #[.int .i64 (n : Int)] 3)) = Z at *
 have b0 : Below Z.heap.size Z Z.drew := (Below.refl _ _).drew
 clear q1
 go_region_with (first | (go_at_call 114; refine (HRL.out _ b0).mono ?_; rintro e V ⟨rfl, hV, bV, fV⟩))
 all_goals go_wp2_with fail
 all_goals go_end0
 all_goals exact ⟨rfl, hV, ((HKB.out.trans (b0.mono HKB.out.size)).mono hNX).trans bV, ((Qy.of_below HKB.out).trans (Qy.of_below b0)).trans fV⟩
end Put
namespace Put
open Grd (C)
theorem qxt (rows : List (List C)) (n : Nat) (bk : Int) (top bot : Nat) (htb : top ≤ bot) (hb : bot < rows.length) (y : Nat) :
  (Zp rows n bk top bot).getD y [] = if y < top then rows.getD y [] else if y < bot then rows.getD (y + 1) [] else if y = bot then List.replicate n (32, 0, bk, 0) else rows.getD y [] := by
 have hl : (rows.eraseIdx top).length = rows.length - 1 := List.length_eraseIdx_of_lt (by omega)
 unfold Zp
 rw [Kj _ _ _ _ _ (by omega)]
 by_cases h1 : y < top
 ·rw [if_pos h1, if_pos (by omega), Yh, if_pos h1]
 ·rw [if_neg h1]
  by_cases h2 : y < bot
  ·rw [if_pos h2, if_pos h2, Yh, if_neg h1]
  ·rw [if_neg h2, if_neg h2]
   by_cases h3 : y = bot
   ·rw [if_pos h3, if_pos h3]
   ·rw [if_neg h3, if_neg h3, Yh, if_neg (by omega), show y - 1 + 1 = y by omega]
theorem qod (rows : List (List C)) (n : Nat) (bk : Int) (top bot : Nat) (htb : top ≤ bot) (hb : bot < rows.length) (y : Nat) :
  (Zp rows n bk bot top).getD y [] = if y < top then rows.getD y [] else if y = top then List.replicate n (32, 0, bk, 0) else if y ≤ bot then rows.getD (y - 1) [] else rows.getD y [] := by
 have hl : (rows.eraseIdx bot).length = rows.length - 1 := List.length_eraseIdx_of_lt (by omega)
 unfold Zp
 rw [Kj _ _ _ _ _ (by omega)]
 by_cases h1 : y < top
 ·rw [if_pos h1, if_pos h1, Yh, if_pos (by omega)]
 ·rw [if_neg h1, if_neg h1]
  by_cases h2 : y = top
  ·rw [if_pos h2, if_pos h2]
  ·rw [if_neg h2, if_neg h2, Yh]
   by_cases h3 : y ≤ bot
   ·rw [if_pos h3, if_pos (by omega)]
   ·rw [if_neg h3, if_neg (by omega), show y - 1 + 1 = y by omega]
end Put
namespace Put
open Grd (C SliceAt Qb Qf z0 Qx flat Qe Q8 wd32)
open Sty (Q3)
def Je (n : Nat) (rows : List (List C)) : Prop := ∀ i, i < rows.length → (rows.getD i []).length = n ∧ Q8 (rows.getD i [])
theorem Gb {s : Scr} {n hh : Nat} (h : Qg s n hh) : Je n (Qe n s.cs hh) := fun i hi => by
 rw [Grd.Qs] at hi
 have e2 : (Qe n s.cs hh).getD i [] = Grd.rowAt n s.cs i := by simp [Qe, List.getD, hi]
 rw [e2]
 exact ⟨Grd.qax n hh s.cs i h.cl hi, ((Grd.Zb n hh s.cs).1 h.gz).2.2 i hi⟩
theorem qfb {s : Scr} {n hh : Nat} (h : Qg s n hh) : Q3 (0, s.sb, 0) = true := by
 have h1 := h.looks
 simp only [Q9, Bool.and_eq_true] at h1
 have h2 := h1.1
 simp only [Q3, decide_eq_true_eq] at h2 ⊢
 omega
theorem qw6 {a b : List (List C)} (hl : a.length = b.length) (h : ∀ i, i < a.length → a.getD i [] = b.getD i []) : a = b := by
 apply List.ext_getElem hl
 intro i h1 h2
 have := h i h1
 simpa [List.getD, h1, h2] using this
theorem qgx (n : Nat) (row : List C) (hn1 : 1 ≤ n) (hn2 : n ≤ 120) (hl : row.length = n) (hr : Q8 row) : Qf n 1 row = 0 := by
 refine (Grd.Zb n 1 row).2 ⟨?_, by omega, fun y hy => ?_⟩
 ·simp [Grd.Zi]
  omega
 ·have e : y = 0 := by omega
  subst e
  have e2 : Grd.rowAt n row 0 = row := by
   unfold Grd.rowAt
   rw [Nat.zero_mul, List.drop_zero, List.take_of_length_le (by omega)]
  rw [e2]
  exact hr
theorem qgq (n : Nat) (rows : List (List C)) (hr : ∀ i, i < rows.length → (rows.getD i []).length = n) (i : Nat) (hi : i < rows.length) : Grd.rowAt n rows.flatten i = rows.getD i [] := by
 have h1 := Grd.Ym n rows hr i (by omega)
 have h2 : rows.flatten = (rows.take i).flatten ++ (rows.drop i).flatten := by rw [← List.flatten_append, List.take_append_drop]
 have h3 : rows.getD i [] = rows[i] := by simp [List.getD, hi]
 have h4 := hr i hi
 rw [h3] at h4
 unfold Grd.rowAt
 rw [h2, List.drop_left' h1, List.drop_eq_getElem_cons hi, List.flatten_cons, List.take_left' h4, h3]
theorem U9 (n : Nat) (bk : Int) (hs : Q3 (0, bk, 0) = true) : Q8 (List.replicate n ((32, 0, bk, 0) : C)) := by
 have hg : ∀ x, x < n → (List.replicate n ((32, 0, bk, 0) : C)).getD x z0 = (32, 0, bk, 0) := fun x hx => by simp [List.getD, hx]
 refine ⟨fun x hx => ?_, fun x hx => ?_⟩
 ·rw [List.length_replicate] at hx
  rw [hg x hx]
  exact ⟨fun _ => by dsimp only; rw [wd32]; decide, hs, fun h => absurd h (by simp)⟩
 ·rw [List.length_replicate] at hx
  unfold Grd.loose
  rw [hg x hx, if_neg (by simp)]
  dsimp only
  rw [wd32]
  rfl
theorem Je.up {n : Nat} {rows : List (List C)} (h : Je n rows) (bk : Int) (hs : Q3 (0, bk, 0) = true) (top bot : Nat) (htb : top ≤ bot) (hb : bot < rows.length) : Je n (Zp rows n bk top bot) := fun i hi => by
 rw [Xj _ _ _ _ _ (by omega) hb] at hi
 rw [qxt _ _ _ _ _ htb hb]
 split
 ·exact h i hi
 ·split
  ·exact h (i + 1) (by omega)
  ·split
   ·exact ⟨List.length_replicate, U9 n bk hs⟩
   ·exact h i hi
theorem Je.down {n : Nat} {rows : List (List C)} (h : Je n rows) (bk : Int) (hs : Q3 (0, bk, 0) = true) (top bot : Nat) (htb : top ≤ bot) (hb : bot < rows.length) : Je n (Zp rows n bk bot top) := fun i hi => by
 rw [Xj _ _ _ _ _ hb (by omega)] at hi
 rw [qod _ _ _ _ _ htb hb]
 split
 ·exact h i hi
 ·split
  ·exact ⟨List.length_replicate, U9 n bk hs⟩
  ·split
   ·exact h (i - 1) (by omega)
   ·exact h i hi
theorem Uv {s : Scr} {n hh : Nat} (h : Qg s n hh) (g : List (List C)) (rows' : List (List C)) (hl : rows'.length = hh) (hRR : Je n rows') (hg1 : g.length ≤ 50) (hg2 : ∀ row, row ∈ g → Qf row.length 1 row = 0) : Qg { s with gone := g, cs := rows'.flatten } n hh ∧ Qe n rows'.flatten hh = rows' := by
 have hlen := Grd.Ym n rows' (fun i hi => (hRR i hi).1) hh (by omega)
 rw [← hl, List.take_length, hl, Nat.mul_comm] at hlen
 have hgz : Qf n hh rows'.flatten = 0 := (Grd.Zb n hh _).2 ⟨((Grd.Zb n hh _).1 h.gz).1, hlen, fun y hy => by
  rw [qgq n rows' (fun i hi => (hRR i hi).1) y (by omega)]
  exact (hRR y (by omega)).2⟩
 refine ⟨⟨h.w, h.h, h.n1, h.n2, h.h1, h.h2, hlen, hgz, h.x0, h.x1, h.y0, h.y1, h.kx0, h.kx1, h.ky0, h.ky1, h.t0, h.t1, h.t2, h.t3, h.late, h.looks, h.tl, h.la, h.ti, hg1, hg2⟩, ?_⟩
 refine qw6 (by rw [Grd.Qs, hl]) fun i hi => ?_
 rw [Grd.Qs] at hi
 have e2 : (Qe n rows'.flatten hh).getD i [] = Grd.rowAt n rows'.flatten i := by simp [Qe, List.getD, hi]
 rw [e2, qgq n rows' (fun i hi => (hRR i hi).1) i (by omega)]
structure Zf (s : Scr) (n hh : Nat) (x : Scr × List (List C)) : Prop where
 e : x.1 = { s with gone := x.1.gone }
 l : x.2.length = hh
 r : Je n x.2
 g1 : x.1.gone.length ≤ 50
 g2 : ∀ row, row ∈ x.1.gone → Qf row.length 1 row = 0
theorem Zf.start {s : Scr} {n hh : Nat} (h : Qg s n hh) : Zf s n hh (s, Qe n s.cs hh) := ⟨rfl, Grd.Qs _ _ _, Gb h, h.gl, h.gr⟩
theorem Zf.sb {s : Scr} {n hh : Nat} {x : Scr × List (List C)} (h : Zf s n hh x) : x.1.sb = s.sb := by rw [h.e]
theorem Zf.up {s : Scr} {n hh : Nat} {x : Scr × List (List C)} (hR : Qg s n hh) (h : Zf s n hh x) (top bot : Nat) (keep : Bool) (htb : top ≤ bot) (hb : bot < hh) : Zf s n hh (rUp n top bot keep x) := by
 have hl := h.l
 have hs : Q3 (0, x.1.sb, 0) = true := by rw [h.sb]; exact qfb hR
 have e1 : (Zp x.2 n x.1.sb top bot).length = hh := by rw [Xj _ _ _ _ _ (by omega) (by omega), hl]
 have e2 := h.r.up x.1.sb hs top bot htb (by omega)
 unfold rUp
 split
 ·refine ⟨?_, e1, e2, Ux _ _ h.g1, fun r hm => ?_⟩
  ·show ({ x.1 with gone := Yf x.1.gone (x.2.getD 0 []) } : Scr) = { s with gone := Yf x.1.gone (x.2.getD 0 []) }
   generalize Yf x.1.gone (x.2.getD 0 []) = gg
   rw [h.e]
  rcases qba hm with q | q
  ·exact h.g2 r q
  ·have h0 := h.r 0 (by omega)
   rw [q, h0.1]
   exact qgx n _ hR.n1 hR.n2 h0.1 h0.2
 ·exact ⟨h.e, e1, e2, h.g1, h.g2⟩
theorem Zf.dn {s : Scr} {n hh : Nat} {x : Scr × List (List C)} (hR : Qg s n hh) (h : Zf s n hh x) (top bot : Nat) (htb : top ≤ bot) (hb : bot < hh) : Zf s n hh (rDn n top bot x) := by
 have hl := h.l
 have hs : Q3 (0, x.1.sb, 0) = true := by rw [h.sb]; exact qfb hR
 exact ⟨h.e, by show (Zp x.2 n x.1.sb bot top).length = hh; rw [Xj _ _ _ _ _ (by omega) (by omega), hl], h.r.down x.1.sb hs top bot htb (by omega), h.g1, h.g2⟩
theorem Zf.iter {s : Scr} {n hh : Nat} {f : Scr × List (List C) → Scr × List (List C)} (hf : ∀ x, Zf s n hh x → Zf s n hh (f x)) (x : Scr × List (List C)) (h : Zf s n hh x) : ∀ j, Zf s n hh (Zu f j x)
 | 0 => h
 | j + 1 => hf _ (Zf.iter hf x h j)
theorem Zf.right {s : Scr} {n hh : Nat} {x : Scr × List (List C)} (hR : Qg s n hh) (h : Zf s n hh x) : Qg { x.1 with cs := x.2.flatten } n hh ∧ Qe n x.2.flatten hh = x.2 := by
 have k := Uv hR x.1.gone x.2 h.l h.r h.g1 h.g2
 refine ⟨?_, k.2⟩
 have e : ({ x.1 with cs := x.2.flatten } : Scr) = { s with gone := x.1.gone, cs := x.2.flatten } := by
  have he := h.e
  generalize x.1 = a at he ⊢
  rw [he]
 rw [e]
 exact k.1
end Put
namespace Put
open Grd (C SliceAt Qb Qf z0 Qx flat Qe Zr Q8)
open Sty (Q3)
def onw (s : Scr) (k : Int) : Int := min (cnt k) (s.w - s.x)
theorem qa3 {s : Scr} {n hh : Nat} (hR : Qg s n hh) (k : Int) : 1 ≤ onw s k ∧ s.x + onw s k ≤ n := by
 have := Xy k
 have := hR.w
 have := hR.x1
 unfold onw
 omega
theorem qam {s : Scr} {n hh : Nat} (hR : Qg s n hh) : Q3 (0, s.sb, 0) = true := by
 have hk := hR.looks
 simp only [Q9, Bool.and_eq_true] at hk
 have h2 := hk.1
 simp only [Q3, decide_eq_true_eq] at h2 ⊢
 omega
theorem qgf {n : Nat} {rows : List (List C)} (h : Je n rows) (y : Nat) (row : List C) (hl : row.length = n) (hr : Q8 row) : Je n (rows.set y row) := fun i hi => by
 rw [List.length_set] at hi
 by_cases e : y = i
 ·subst e
  have e2 : (rows.set y row).getD y [] = row := by simp [List.getD, hi]
  rw [e2]
  exact ⟨hl, hr⟩
 ·have e2 : (rows.set y row).getD i [] = rows.getD i [] := by simp [List.getD, List.getElem?_set_ne e]
  rw [e2]
  exact h i hi
theorem Qg.qdc {s : Scr} {n hh : Nat} (h : Qg s n hh) : Qg { s with late := false } n hh :=
 ⟨h.w, h.h, h.n1, h.n2, h.h1, h.h2, h.cl, h.gz, h.x0, h.x1, h.y0, h.y1, h.kx0, h.kx1, h.ky0, h.ky1, h.t0, h.t1, h.t2, h.t3, by unfold Zz; rfl, h.looks, h.tl, h.la, h.ti, h.gl, h.gr⟩
set_option maxHeartbeats 2000000 in
theorem qf7 (W : World) (M N p : Nat) (s : Scr) (rows : List (List C)) (hS : ShAt 111 W M N p s rows) (k : Int) (h0 : 0 ≤ s.x) (h1 : s.x ≤ 120) (w1 : 1 ≤ s.w) (w2 : s.w ≤ 120) :
  Calls Tryz.prog 188 #[.pointer (some ⟨p, 0, none⟩), .int .i64 k] W fun e W' => e = .returned (.int .i64 (onw s k)) ∧ Below W.heap.size W W' := by
 have b0 : Below W.heap.size W W.drew := (Below.refl _ _).drew
 obtain ⟨c0, -, c3, -⟩ := (hS.next b0).words
 have HC : Hid (∀ V, Calls Tryz.prog 226 #[.int .i64 k] V fun e w' => e = .returned (.int .i64 (cnt k)) ∧ V = w') := fun V => qco k V
 have hwr : IntKind.i64.wrap (s.w - s.x) = s.w - s.x := Zj _ (by omega) (by omega)
 have mn := Grd.min2 (cnt k) (s.w - s.x)
 have HB : Hid (Below W.heap.size W W.drew) := b0
 unfold onw
 generalize cnt k = q at *
 clear hS b0
 go_enter Tryz.func188, Tryz.ntmps188
 go_upto_region 1 with fail
 go_region_with (first | (go_at_call 226; refine (HC.out _).mono ?_; rintro e V ⟨rfl, hv⟩; subst hv))
 all_goals go_wp2_with fail
 all_goals go_ret
 all_goals exact ⟨rfl, HB.out⟩
set_option maxHeartbeats 2000000 in
theorem qu2 (k : Int) (B1 M : Nat) (w : World) (hT : Txt.Tab w) (s : Scr) (rows : List (List C)) (x y n m : Nat) (hB1 : w.cell? ⟨B1, 0, none⟩ = some (.int .i64 k)) (hsx : s.x = x) (hsy : s.y = y) (hw : s.w = n) (hn2 : n ≤ 120) (hy : y < rows.length) (hrow : (rows.getD y []).length = n) (hm : onw s k = m) (hm1 : 1 ≤ m) (hxm : x + m ≤ n) (hmt : Grd.V4 (rows.getD y [])) (hst : Q3 (0, s.sb, 0) = true) :
  Does 187 #[.pointer (some ⟨B1, 0, none⟩)] M w s { s with late := false } rows (rows.set y (Zr (G7 (rows.getD y []) x m s.sb))) := by
 intro W p hb hS
 have hT2 := Grd.Tab.next hT hb
 have hTp := Txt.Tab.pos hT
 obtain ⟨-, -, -, -, c5, -, -, -, -, f⟩ := hS.words
 have f5 := f 5
 obtain ⟨hS1, hB2, hF1⟩ := hS.put 5 (.bool false) (s' := { s with late := false }) (fun _ _ _ _ => rfl) rfl rfl
 have hT3 : Txt.Tab (W.setCell ⟨p, 5, none⟩ (.bool false)) := Txt.Tab.below hT2 hB2 hTp
 have HB : Hid (Below w.heap.size W (W.setCell ⟨p, 5, none⟩ (.bool false))) := hB2
 have q1 : (W.setCell ⟨p, 5, none⟩ (.bool false)).cell? ⟨B1, 0, none⟩ = some (.int .i64 k) := Qa (hb.trans hB2) hB1
 have HO := qf7 (W.setCell ⟨p, 5, none⟩ (.bool false)) M w.heap.size p { s with late := false } rows hS1 k (by show 0 ≤ s.x; omega) (by show s.x ≤ 120; omega) (by show 1 ≤ s.w; omega) (by show s.w ≤ 120; omega)
 rw [show onw { s with late := false } k = (m : Int) from hm] at HO
 have HDE : Hid (∀ V, Below (W.setCell ⟨p, 5, none⟩ (.bool false)).heap.size (W.setCell ⟨p, 5, none⟩ (.bool false)) V → Calls Tryz.prog 67 #[.pointer (some ⟨p, 0, none⟩), .int .i64 (m : Int)] V (Ran V M w.heap.size p { s with late := false } (rows.set y (Zr (G7 (rows.getD y []) x m s.sb))))) := fun V hV => qfi V M w.heap.size p { s with late := false } rows (hS1.next hV) (Grd.Tab.next hT3 hV) y x m hsy hsx hy hm1 (by rw [hrow]; exact hxm) (by rw [hrow]; exact hn2) hmt hst
 have hNs : w.heap.size ≤ (W.setCell ⟨p, 5, none⟩ (.bool false)).heap.size := Nat.le_trans hb.size hB2.size
 clear hS hS1 hF1 hB1 hT hT2 hT3 hTp hb hB2 f
 generalize rows.set y (Zr (G7 (rows.getD y []) x m s.sb)) = rows2 at *
 go_enter Tryz.func187, Tryz.ntmps187
 go_upto_region 1 with fail
 generalize (W.setCell ⟨p, 5, none⟩ (.bool false)) = X at *
 clear c5 f5
 go_wp2_with fail
 refine HO.mono ?_
 rintro e V ⟨rfl, b1⟩
 have HD := HDE.out V b1
 have HBV : Hid (Below w.heap.size W V) := HB.out.trans (b1.mono hNs)
 clear HO HDE b1 q1
 go_wp2_with fail
 refine HD.mono ?_
 rintro e V2 ⟨rfl, h1, h2, -⟩
 have HE : Hid (ShAt 111 V2 M w.heap.size p { s with late := false } rows2 ∧ Below w.heap.size W V2) := ⟨h1, HBV.out.trans h2⟩
 clear h1 h2 HD
 go_wp2_with fail
 go_end0
 exact ⟨rfl, HE.out⟩
set_option maxHeartbeats 2000000 in
theorem qtt (k : Int) (B1 M : Nat) (w : World) (hT : Txt.Tab w) (s : Scr) (rows : List (List C)) (x y n m : Nat) (hB1 : w.cell? ⟨B1, 0, none⟩ = some (.int .i64 k)) (hsx : s.x = x) (hsy : s.y = y) (hw : s.w = n) (hn2 : n ≤ 120) (hy : y < rows.length) (hrow : (rows.getD y []).length = n) (hm : onw s k = m) (hm1 : 1 ≤ m) (hxm : x + m ≤ n) :
  Does 195 #[.pointer (some ⟨B1, 0, none⟩)] M w s { s with late := false } rows (rows.set y (Zr (Grd.Q7 (K7 (rows.getD y []) x m s.sb)))) := by
 intro W p hb hS
 have hT2 := Grd.Tab.next hT hb
 have hTp := Txt.Tab.pos hT
 obtain ⟨-, -, -, -, c5, -, -, -, -, f⟩ := hS.words
 have f5 := f 5
 obtain ⟨hS1, hB2, hF1⟩ := hS.put 5 (.bool false) (s' := { s with late := false }) (fun _ _ _ _ => rfl) rfl rfl
 have hT3 : Txt.Tab (W.setCell ⟨p, 5, none⟩ (.bool false)) := Txt.Tab.below hT2 hB2 hTp
 have HB : Hid (Below w.heap.size W (W.setCell ⟨p, 5, none⟩ (.bool false))) := hB2
 have q1 : (W.setCell ⟨p, 5, none⟩ (.bool false)).cell? ⟨B1, 0, none⟩ = some (.int .i64 k) := Qa (hb.trans hB2) hB1
 have HO := qf7 (W.setCell ⟨p, 5, none⟩ (.bool false)) M w.heap.size p { s with late := false } rows hS1 k (by show 0 ≤ s.x; omega) (by show s.x ≤ 120; omega) (by show 1 ≤ s.w; omega) (by show s.w ≤ 120; omega)
 rw [show onw { s with late := false } k = (m : Int) from hm] at HO
 have HDE : Hid (∀ V, Below (W.setCell ⟨p, 5, none⟩ (.bool false)).heap.size (W.setCell ⟨p, 5, none⟩ (.bool false)) V → Calls Tryz.prog 196 #[.pointer (some ⟨p, 0, none⟩), .int .i64 (m : Int)] V (Ran V M w.heap.size p { s with late := false } (rows.set y (Zr (Grd.Q7 (K7 (rows.getD y []) x m s.sb)))))) := fun V hV => qqm V M w.heap.size p { s with late := false } rows (hS1.next hV) (Grd.Tab.next hT3 hV) y x m hsy hsx hy hm1 (by rw [hrow]; exact hxm) (by rw [hrow]; exact hn2)
 have hNs : w.heap.size ≤ (W.setCell ⟨p, 5, none⟩ (.bool false)).heap.size := Nat.le_trans hb.size hB2.size
 clear hS hS1 hF1 hB1 hT hT2 hT3 hTp hb hB2 f
 generalize rows.set y (Zr (Grd.Q7 (K7 (rows.getD y []) x m s.sb))) = rows2 at *
 go_enter Tryz.func195, Tryz.ntmps195
 go_upto_region 1 with fail
 generalize (W.setCell ⟨p, 5, none⟩ (.bool false)) = X at *
 clear c5 f5
 go_wp2_with fail
 refine HO.mono ?_
 rintro e V ⟨rfl, b1⟩
 have HD := HDE.out V b1
 have HBV : Hid (Below w.heap.size W V) := HB.out.trans (b1.mono hNs)
 clear HO HDE b1 q1
 go_wp2_with fail
 refine HD.mono ?_
 rintro e V2 ⟨rfl, h1, h2, -⟩
 have HE : Hid (ShAt 111 V2 M w.heap.size p { s with late := false } rows2 ∧ Below w.heap.size W V2) := ⟨h1, HBV.out.trans h2⟩
 clear h1 h2 HD
 go_wp2_with fail
 go_end0
 exact ⟨rfl, HE.out⟩
theorem qhn : Plain 187 := by
 intro args W
 kernel_rfl
def cinR (s : Scr) (n hh : Nat) (k : Int) : List (List C) := (Qe n s.cs hh).set s.y.toNat (Zr (G7 ((Qe n s.cs hh).getD s.y.toNat []) s.x.toNat (onw s k).toNat s.sb))
def cinS (s : Scr) (n hh : Nat) (k : Int) : Scr := { s with late := false, cs := (cinR s n hh k).flatten }
theorem qmq {s : Scr} {n hh : Nat} (hR : Qg s n hh) (k : Int) : (cinR s n hh k).length = hh ∧ Je n (cinR s n hh k) := by
 have hw := hR.w
 have x0 := hR.x0
 have x1 := hR.x1
 have y0 := hR.y0
 have y1 := hR.y1
 have hm := qa3 hR k
 have h0 := Gb hR
 have hl := Grd.Qs n s.cs hh
 have hrow := h0 s.y.toNat (by rw [hl]; omega)
 unfold cinR
 refine ⟨by rw [List.length_set, hl], qgf h0 _ _ ?_ ?_⟩
 ·rw [Grd.V9, U7 _ _ _ _ (by rw [hrow.1]; omega), hrow.1]
 ·exact Grd.Gm _ (qdx hrow.2.1 _ _ _ (by omega) (by rw [hrow.1]; omega) (qam hR))
theorem qu3 {s : Scr} {n hh : Nat} (hR : Qg s n hh) (k : Int) : Qg (cinS s n hh k) n hh := by
 have h := qmq hR k
 have h1 := (Uv hR s.gone (cinR s n hh k) h.1 h.2 hR.gl hR.gr).1
 exact h1.qdc
theorem qnr {w0 w : World} {s : Scr} {cv tv gv : Value} {n hh : Nat} (h : Met w0 w s cv tv gv) (hR : Qg s n hh) (k : Int) : Calls Tryz.prog 147 #[.agg (scrA s cv tv gv), .int .i64 k] w (Made w0 w (cinS s n hh k) 0) := by
 have hw := hR.w
 have x0 := hR.x0
 have x1 := hR.x1
 have y0 := hR.y0
 have y1 := hR.y1
 have hm := qa3 hR k
 have h0 := Gb hR
 have hl := Grd.Qs n s.cs hh
 have hrow := h0 s.y.toNat (by rw [hl]; omega)
 have hr := qmq hR k
 exact qb6 s _ cv tv gv k 0 w0 w h.v h.b.size fun W B hW hB => K5 (s' := { s with late := false }) (h.next hW) hR _ qhn _ (cinR s n hh k) _ (fun w1 hw1 => qu2 k B _ w1 (Grd.Tab.next (h.next hW).t hw1) s _ s.x.toNat s.y.toNat n (onw s k).toNat (Qa hw1 hB) (by omega) (by omega) hw hR.n2 (by rw [hl]; omega) hrow.1 (by omega) (by omega) (by omega) hrow.2.1 (qam hR)) (Fy hR _ _ hr.1 (fun i hi => (hr.2 i hi).1) (Nat.le_succ_of_le hR.gl) (fun i hi => by have := hR.Uh i hi; exact Nat.le_trans this (by omega))) rfl
theorem qhy : Plain 195 := by
 intro args W
 kernel_rfl
def cdlR (s : Scr) (n hh : Nat) (k : Int) : List (List C) := (Qe n s.cs hh).set s.y.toNat (Zr (Grd.Q7 (K7 ((Qe n s.cs hh).getD s.y.toNat []) s.x.toNat (onw s k).toNat s.sb)))
def cdlS (s : Scr) (n hh : Nat) (k : Int) : Scr := { s with late := false, cs := (cdlR s n hh k).flatten }
theorem qnf {s : Scr} {n hh : Nat} (hR : Qg s n hh) (k : Int) : (cdlR s n hh k).length = hh ∧ Je n (cdlR s n hh k) := by
 have hw := hR.w
 have x0 := hR.x0
 have x1 := hR.x1
 have y0 := hR.y0
 have y1 := hR.y1
 have hm := qa3 hR k
 have h0 := Gb hR
 have hl := Grd.Qs n s.cs hh
 have hrow := h0 s.y.toNat (by rw [hl]; omega)
 unfold cdlR
 refine ⟨by rw [List.length_set, hl], qgf h0 _ _ ?_ ?_⟩
 ·rw [Grd.V9, Grd.Yo, qne _ _ _ _ (by rw [hrow.1]; omega), hrow.1]
 ·exact Grd.qm5 (qxa hrow.2.1.weak _ _ _ (qam hR))
theorem qtk {s : Scr} {n hh : Nat} (hR : Qg s n hh) (k : Int) : Qg (cdlS s n hh k) n hh := by
 have h := qnf hR k
 have h1 := (Uv hR s.gone (cdlR s n hh k) h.1 h.2 hR.gl hR.gr).1
 exact h1.qdc
theorem qlt {w0 w : World} {s : Scr} {cv tv gv : Value} {n hh : Nat} (h : Met w0 w s cv tv gv) (hR : Qg s n hh) (k : Int) : Calls Tryz.prog 154 #[.agg (scrA s cv tv gv), .int .i64 k] w (Made w0 w (cdlS s n hh k) 0) := by
 have hw := hR.w
 have x0 := hR.x0
 have x1 := hR.x1
 have y0 := hR.y0
 have y1 := hR.y1
 have hm := qa3 hR k
 have h0 := Gb hR
 have hl := Grd.Qs n s.cs hh
 have hrow := h0 s.y.toNat (by rw [hl]; omega)
 have hr := qnf hR k
 exact qb4 s _ cv tv gv k 0 w0 w h.v h.b.size fun W B hW hB => K5 (s' := { s with late := false }) (h.next hW) hR _ qhy _ (cdlR s n hh k) _ (fun w1 hw1 => qtt k B _ w1 (Grd.Tab.next (h.next hW).t hw1) s _ s.x.toNat s.y.toNat n (onw s k).toNat (Qa hw1 hB) (by omega) (by omega) hw hR.n2 (by rw [hl]; omega) hrow.1 (by omega) (by omega) (by omega)) (Fy hR _ _ hr.1 (fun i hi => (hr.2 i hi).1) (Nat.le_succ_of_le hR.gl) (fun i hi => by have := hR.Uh i hi; exact Nat.le_trans this (by omega))) rfl
end Put
namespace Put
open Grd (C Qf Qe)
theorem Qg.went {s : Scr} {n hh : Nat} (h : Qg s n hh) (x y : Int) (x0 : 0 ≤ x) (x1 : x < n) (y0 : 0 ≤ y) (y1 : y < hh) : Qg { s with x := x, y := y, late := false } n hh :=
 ⟨h.w, h.h, h.n1, h.n2, h.h1, h.h2, h.cl, h.gz, x0, x1, y0, y1, h.kx0, h.kx1, h.ky0, h.ky1, h.t0, h.t1, h.t2, h.t3, by unfold Zz; rfl, h.looks, h.tl, h.la, h.ti, h.gl, h.gr⟩
theorem sup_right {s : Scr} {n hh : Nat} (hR : Qg s n hh) (top bot : Nat) (ht : s.top = top) (hb : s.bot = bot) (keep : Bool) (j : Nat) : Qg { (Zu (rUp n top bot keep) j (s, Qe n s.cs hh)).1 with cs := (Zu (rUp n top bot keep) j (s, Qe n s.cs hh)).2.flatten } n hh := by
 have t1 := hR.t1
 have t2 := hR.t2
 exact (Zf.right hR (Zf.iter (f := rUp n top bot keep) (fun x hx => Zf.up hR hx top bot keep (by omega) (by omega)) _ (Zf.start hR) j)).1
theorem qlx {s : Scr} {n hh : Nat} (hR : Qg s n hh) (top bot : Nat) (ht : s.top = top) (hb : s.bot = bot) (j : Nat) : Qg { (Zu (rDn n top bot) j (s, Qe n s.cs hh)).1 with cs := (Zu (rDn n top bot) j (s, Qe n s.cs hh)).2.flatten } n hh := by
 have t1 := hR.t1
 have t2 := hR.t2
 exact (Zf.right hR (Zf.iter (f := rDn n top bot) (fun x hx => Zf.dn hR hx top bot (by omega) (by omega)) _ (Zf.start hR) j)).1
theorem qa0 {s : Scr} {n hh : Nat} (hR : Qg s n hh) (s' : Scr) (hc : s'.cs = s.cs) (h : Qg s' n hh) : Qg { s' with cs := (Qe n s.cs hh).flatten } n hh := by
 rw [hR.flatten, ← hc]
 exact h
theorem qo2 {s : Scr} {n hh : Nat} (hR : Qg s n hh) (k : Int) (bot : Nat) (hb : s.bot = bot) : Qg { (insZ s k n hh bot).1 with cs := (insZ s k n hh bot).2.flatten } n hh := by
 have n1 := hR.n1
 have y0 := hR.y0
 have y1 := hR.y1
 have t0 := hR.t0
 have t2 := hR.t2
 unfold insZ
 by_cases hq : s.top ≤ s.y ∧ s.y ≤ s.bot
 ·rw [if_pos hq]
  have hR1 : Qg { s with x := 0, late := false } n hh := hR.went 0 s.y (by omega) (by omega) y0 y1
  exact (Zf.right hR1 (Zf.iter (f := rDn n s.y.toNat bot) (fun x hx => Zf.dn hR1 hx s.y.toNat bot (by omega) (by omega)) _ (Zf.start hR1) (Vj k s.y.toNat bot))).1
 ·rw [if_neg hq]
  exact qa0 hR s rfl hR
theorem qq2 {s : Scr} {n hh : Nat} (hR : Qg s n hh) (k : Int) (bot : Nat) (hb : s.bot = bot) : Qg { (delZ s k n hh bot).1 with cs := (delZ s k n hh bot).2.flatten } n hh := by
 have n1 := hR.n1
 have y0 := hR.y0
 have y1 := hR.y1
 have t0 := hR.t0
 have t2 := hR.t2
 unfold delZ
 by_cases hq : s.top ≤ s.y ∧ s.y ≤ s.bot
 ·rw [if_pos hq]
  have hR1 : Qg { s with x := 0, late := false } n hh := hR.went 0 s.y (by omega) (by omega) y0 y1
  exact (Zf.right hR1 (Zf.iter (f := rUp n s.y.toNat bot false) (fun x hx => Zf.up hR1 hx s.y.toNat bot false (by omega) (by omega)) _ (Zf.start hR1) (Vj k s.y.toNat bot))).1
 ·rw [if_neg hq]
  exact qa0 hR s rfl hR
theorem q0b (n top bot : Nat) (s : Scr) (rows : List (List C)) : rUp n top bot true (s, rows) = (upS s rows top, Zp rows n s.sb top bot) := by
 unfold rUp upS
 simp
theorem qph {s : Scr} {n hh : Nat} (hR : Qg s n hh) (top bot : Nat) (ht : s.top = top) (hb : s.bot = bot) : Qg { qcc s (Qe n s.cs hh) top with cs := (Gy s (Qe n s.cs hh) n top bot).flatten } n hh := by
 have n1 := hR.n1
 have x0 := hR.x0
 have x1 := hR.x1
 have y0 := hR.y0
 have y1 := hR.y1
 have t1 := hR.t1
 have t2 := hR.t2
 have eh := hR.h
 unfold qcc Gy
 by_cases hq : s.y = s.bot
 ·rw [if_pos hq, if_pos hq]
  have hR1 : Qg { s with late := false } n hh := hR.qdc
  have h := (Zf.right hR1 (Zf.up hR1 (Zf.start hR1) top bot true (by omega) (by omega))).1
  rw [q0b] at h
  exact h
 ·rw [if_neg hq, if_neg hq]
  refine qa0 hR (G6 s) ?_ ?_
  ·unfold G6
   split <;> rfl
  ·unfold G6
   split
   ·exact hR.went s.x (s.y + 1) x0 x1 (by omega) (by omega)
   ·exact hR.qdc
theorem qor {s : Scr} {n hh : Nat} (hR : Qg s n hh) (top bot : Nat) (ht : s.top = top) (hb : s.bot = bot) : Qg { qaa s with cs := (qce s (Qe n s.cs hh) n top bot).flatten } n hh := by
 have x0 := hR.x0
 have x1 := hR.x1
 have y0 := hR.y0
 have y1 := hR.y1
 have t1 := hR.t1
 have t2 := hR.t2
 unfold qaa qce
 by_cases hq : s.y = s.top
 ·rw [if_pos hq, if_pos hq]
  have hR1 : Qg { s with late := false } n hh := hR.qdc
  exact (Zf.right hR1 (Zf.dn hR1 (Zf.start hR1) top bot (by omega) (by omega))).1
 ·rw [if_neg hq, if_neg hq]
  refine qa0 hR _ ?_ ?_
  ·split <;> rfl
  ·split
   ·exact hR.went s.x (s.y - 1) x0 x1 (by omega) (by omega)
   ·exact hR.qdc
end Put
namespace Put
open Grd (C)
def qad (s : Scr) : Scr := { s with x := 0, y := if hasB s.modes 2 then s.top else 0, late := false }
def Yz (m b : Int) (on : Bool) : Int := if on then bits .or .i64 (bits .andNot .i64 m b) b else bits .andNot .i64 m b
def Vy (b : Int) (s : Scr) : Scr := if bits .and .i64 b 2 = 0 then s else qad s
def Yl (s : Scr) : Scr := { s with late := s.late && hasB s.modes 4 }
def setS (s : Scr) (b : Int) (on : Bool) : Scr := Yl (Vy b { s with modes := Yz s.modes b on })
theorem qmv (b : Int) (s : Scr) : (Vy b s).gone = s.gone ∧ (Vy b s).tabs = s.tabs ∧ (Vy b s).cs = s.cs ∧ (Vy b s).w = s.w ∧ (Vy b s).h = s.h ∧ (Vy b s).modes = s.modes := by
 unfold Vy qad
 split <;> exact ⟨rfl, rfl, rfl, rfl, rfl, rfl⟩
theorem qu5 (s : Scr) (b : Int) (on : Bool) : (setS s b on).gone = s.gone ∧ (setS s b on).tabs = s.tabs ∧ (setS s b on).cs = s.cs ∧ (setS s b on).w = s.w ∧ (setS s b on).h = s.h := by
 obtain ⟨h1, h2, h3, h4, h5, -⟩ := qmv b { s with modes := Yz s.modes b on }
 exact ⟨h1, h2, h3, h4, h5⟩
def qei (s : Scr) : Scr := { s with kx := s.x, ky := s.y, kf := s.sf, kb := s.sb, kbits := s.sx, km := bits .and .i64 s.modes 6 }
def qd9 (s : Scr) : Scr := { s with x := s.kx, y := s.ky, sf := s.kf, sb := s.kb, sx := s.kbits, late := false, modes := bits .or .i64 (bits .andNot .i64 s.modes 6) s.km }
theorem qu0 (m k : Int) (hm0 : 0 ≤ m) (hm1 : m ≤ 63) (hk : Kw k = true) : bits .or .i64 (bits .andNot .i64 m 6) k = bits .and .i64 m 57 + k ∧ 0 ≤ bits .and .i64 m 57 + k ∧ bits .and .i64 m 57 + k ≤ 63 := by
 have key : ∀ j : Fin 64, ∀ k : Fin 7, Kw (k.val : Int) = true → bits .or .i64 (bits .andNot .i64 (j.val : Int) 6) (k.val : Int) = bits .and .i64 (j.val : Int) 57 + (k.val : Int) ∧ 0 ≤ bits .and .i64 (j.val : Int) 57 + (k.val : Int) ∧ bits .and .i64 (j.val : Int) 57 + (k.val : Int) ≤ 63 := by decide +kernel
 have hk2 : k = 0 ∨ k = 2 ∨ k = 4 ∨ k = 6 := by simpa [Kw] using hk
 have h := key ⟨m.toNat, by omega⟩ ⟨k.toNat, by omega⟩
 have e1 : ((m.toNat : Nat) : Int) = m := by omega
 have e2 : ((k.toNat : Nat) : Int) = k := by omega
 simp only [e1, e2] at h
 exact h hk
set_option maxHeartbeats 4000000 in
theorem qf0 {M N p : Nat} {s : Scr} {rows : List (List C)} (W : World) (hS : ShAt 111 W M N p s rows) :
  Calls Tryz.prog 186 #[.pointer (some ⟨p, 0, none⟩)] W fun e W' => e = .returned (.tuple #[]) ∧ ShAt 111 W' M N p (qad s) rows ∧ Below N W W' := by
 have HR : Hid (qad s = { s with x := 0, y := if hasB s.modes 2 then s.top else 0, late := false }) := rfl
 generalize qad s = s' at *
 have k3 : ShAt 111 (W.setCell ⟨p, 3, none⟩ (.int .i64 0)) M N p { s with x := 0 } rows := hS.set Qq 3 _ (fun _ _ _ _ => rfl) rfl rfl
 have k4 : ShAt 111 ((W.setCell ⟨p, 3, none⟩ (.int .i64 0)).setCell ⟨p, 4, none⟩ (.int .i64 0)) M N p { s with x := 0, y := 0 } rows := k3.set Qq 4 _ (fun _ _ _ _ => rfl) rfl rfl
 have k5 : ShAt 111 (((W.setCell ⟨p, 3, none⟩ (.int .i64 0)).setCell ⟨p, 4, none⟩ (.int .i64 0)).setCell ⟨p, 5, none⟩ (.bool false)) M N p { s with x := 0, y := 0, late := false } rows := k4.set Qq 5 _ (fun _ _ _ _ => rfl) rfl rfl
 have hlo := hS.lo
 have HB5 : Hid (Below N W (((W.setCell ⟨p, 3, none⟩ (.int .i64 0)).setCell ⟨p, 4, none⟩ (.int .i64 0)).setCell ⟨p, 5, none⟩ (.bool false))) := (((Below.refl _ _).setCell hlo _).setCell hlo _).setCell hlo _
 have HK5 : Hid (ShAt 111 (((W.setCell ⟨p, 3, none⟩ (.int .i64 0)).setCell ⟨p, 4, none⟩ (.int .i64 0)).setCell ⟨p, 5, none⟩ (.bool false)) M N p { s with x := 0, y := 0, late := false } rows) := k5
 have HH := Kh 2 _ k5
 obtain ⟨c0, c1, c3, c4, c5, c9, c10, c11, c19, f⟩ := hS.words
 have f3 := f 3
 have f4 := f 4
 have f5 := f 5
 clear k3 k4 k5 hS f c0 c1 c11 c19 c9 c10
 go_enter Tryz.func186, Tryz.ntmps186
 go_wp2_with fail
 refine HH.mono ?_
 rintro e V ⟨rfl, hv⟩
 subst hv
 clear HH f3 f4 f5 c3 c4 c5
 generalize (((W.setCell ⟨p, 3, none⟩ (.int .i64 0)).setCell ⟨p, 4, none⟩ (.int .i64 0)).setCell ⟨p, 5, none⟩ (.bool false)) = Y at *
 cases hmo : hasB s.modes 2 with
 | false =>
  have HE2 : Hid (s' = { s with x := 0, y := 0, late := false }) := by unfold Hid; rw [HR.out, hmo]; rfl
  go_wp2_with fail
  go_end0
  rw [HE2.out]
  exact ⟨rfl, HK5.out, HB5.out⟩
 | true =>
  have HE2 : Hid (s' = { s with x := 0, y := s.top, late := false }) := by unfold Hid; rw [HR.out, hmo]; rfl
  have k6 : ShAt 111 (Y.setCell ⟨p, 4, none⟩ (.int .i64 s.top)) M N p { s with x := 0, y := s.top, late := false } rows := ShAt.set Qq HK5.out 4 _ (fun _ _ _ _ => rfl) rfl rfl
  have HK6 : Hid (ShAt 111 (Y.setCell ⟨p, 4, none⟩ (.int .i64 s.top)) M N p { s with x := 0, y := s.top, late := false } rows) := k6
  obtain ⟨c0, c1, c3, c4, c5, c9, c10, c11, c19, f⟩ := ShAt.words HK5.out
  have f4 := f 4
  clear k6 f c0 c1 c3 c5 c10 c11 c19
  go_wp2_with fail
  go_end0
  rw [HE2.out]
  exact ⟨rfl, HK6.out, HB5.out.setCell hlo _⟩
def Gt (h b : Int) : Int := if b < 1 ∨ h < b then h - 1 else b - 1
def mayB (h a b : Int) : Bool := decide (a < b) || (decide (a = b) && decide (h = 1))
def regS (s : Scr) (a b : Int) : Scr :=
 if mayB s.h (max a 1 - 1) (Gt s.h b) then { s with top := max a 1 - 1, bot := Gt s.h b, x := 0, y := if hasB s.modes 2 then max a 1 - 1 else 0, late := false } else s
theorem qim {s : Scr} {n hh : Nat} (h : Qg s n hh) (a b : Int) : Qg (regS s a b) n hh := by
 have n1 := h.n1
 have h1 := h.h1
 have eh := h.h
 unfold regS
 by_cases hq : mayB s.h (max a 1 - 1) (Gt s.h b) = true
 ·rw [if_pos hq]
  have hl : 0 ≤ Gt s.h b ∧ Gt s.h b < hh := by
   unfold Gt
   split <;> omega
  simp only [mayB, Bool.or_eq_true, Bool.and_eq_true, decide_eq_true_eq] at hq
  refine ⟨h.w, h.h, h.n1, h.n2, h.h1, h.h2, h.cl, h.gz, by show (0 : Int) ≤ 0; omega, by show (0 : Int) < n; omega, ?_, ?_, h.kx0, h.kx1, h.ky0, h.ky1, by show 0 ≤ max a 1 - 1; omega, by show max a 1 - 1 ≤ Gt s.h b; omega, hl.2, by show max a 1 - 1 < Gt s.h b ∨ hh = 1; omega, by unfold Zz; rfl, h.looks, h.tl, h.la, h.ti, h.gl, h.gr⟩
  ·dsimp only
   split <;> omega
  ·dsimp only
   split <;> omega
 ·rw [if_neg hq]
  exact h
set_option maxHeartbeats 1000000 in
theorem qln {M N p : Nat} {s : Scr} {rows : List (List C)} (b : Int) (W : World) (hS : ShAt 111 W M N p s rows) (h1 : 1 ≤ s.h) (h2 : s.h ≤ 60) :
  Calls Tryz.prog 219 #[.pointer (some ⟨p, 0, none⟩), .int .i64 b] W fun e W' => e = .returned (.int .i64 (Gt s.h b)) ∧ W = W' := by
 obtain ⟨c0, c1, c3, c4, c5, c9, c10, c11, c19, f⟩ := hS.words
 have HE : Hid (Gt s.h b = if b < 1 ∨ s.h < b then s.h - 1 else b - 1) := rfl
 have hwr : IntKind.i64.wrap (s.h - 1) = s.h - 1 := Zj _ (by omega) (by omega)
 clear hS c0 c3 c4 c5 c9 c10 c11 c19 f
 generalize Gt s.h b = v at *
 by_cases hb : b < 1
 ·have HV : Hid (s.h - 1 = v) := by unfold Hid; rw [HE.out, if_pos (.inl hb)]
  go_enter Tryz.func219, Tryz.ntmps219
  go_wp2_with fail
  go_ret
  exact ⟨Q6 HV.out, rfl⟩
 ·by_cases hc : s.h < b
  ·have HV : Hid (s.h - 1 = v) := by unfold Hid; rw [HE.out, if_pos (.inr hc)]
   go_enter Tryz.func219, Tryz.ntmps219
   go_wp2_with fail
   go_ret
   exact ⟨Q6 HV.out, rfl⟩
  ·have HV : Hid (b - 1 = v) := by unfold Hid; rw [HE.out, if_neg (by omega)]
   have hwb : IntKind.i64.wrap (b - 1) = b - 1 := Zj _ (by omega) (by omega)
   go_enter Tryz.func219, Tryz.ntmps219
   go_wp2_with fail
   go_ret
   exact ⟨Q6 HV.out, rfl⟩
set_option maxHeartbeats 1000000 in
theorem qhj {M N p : Nat} {s : Scr} {rows : List (List C)} (a b : Int) (W : World) (hS : ShAt 111 W M N p s rows) :
  Calls Tryz.prog 220 #[.pointer (some ⟨p, 0, none⟩), .int .i64 a, .int .i64 b] W fun e W' => e = .returned (.bool (mayB s.h a b)) ∧ W = W' := by
 obtain ⟨c0, c1, c3, c4, c5, c9, c10, c11, c19, f⟩ := hS.words
 clear hS c0 c3 c4 c5 c9 c10 c11 c19 f
 unfold mayB
 by_cases h1 : a < b
 ·go_enter Tryz.func220, Tryz.ntmps220
  go_wp2_with fail
  go_ret
  exact ⟨Sty.Qi (by simp [h1]), rfl⟩
 ·by_cases h2 : a = b
  ·have n2 : (a == b) = true := by simpa using h2
   have H2 : Hid (a = b) := h2
   clear h2
   go_enter Tryz.func220, Tryz.ntmps220
   go_wp2_with fail
   go_ret
   exact ⟨Sty.Qi (by rw [Bool.eq_iff_iff]; simp [H2.out]), rfl⟩
  ·have n2 : (a == b) = false := by simpa using h2
   have H1 : Hid (¬ a < b) := h1
   have H2 : Hid (¬ a = b) := h2
   clear h2
   go_enter Tryz.func220, Tryz.ntmps220
   go_wp2_with fail
   go_ret
   exact ⟨Sty.Qi (by rw [Bool.eq_iff_iff]; simp [H1.out, H2.out]), rfl⟩
set_option maxHeartbeats 4000000 in
theorem qnk (a b : Int) (B1 B2 M : Nat) (w : World) (s : Scr) (rows : List (List C)) (hB1 : w.cell? ⟨B1, 0, none⟩ = some (.int .i64 a)) (hB2 : w.cell? ⟨B2, 0, none⟩ = some (.int .i64 b)) (h1 : 1 ≤ s.h) (h2 : s.h ≤ 60) (ha : a ≤ 9223372036854775807) :
  Does 218 #[.pointer (some ⟨B1, 0, none⟩), .pointer (some ⟨B2, 0, none⟩)] M w s (regS s a b) rows rows := by
 intro W p hb hS
 have q1 := Qa hb hB1
 have q2 := Qa hb hB2
 have HL : Hid (∀ W', ShAt 111 W' M w.heap.size p s rows → Calls Tryz.prog 219 #[.pointer (some ⟨p, 0, none⟩), .int .i64 b] W' fun e W'' => e = .returned (.int .i64 (Gt s.h b)) ∧ W' = W'') := fun W' h => qln b W' h h1 h2
 have HM : Hid (∀ W' x y, ShAt 111 W' M w.heap.size p s rows → Calls Tryz.prog 220 #[.pointer (some ⟨p, 0, none⟩), .int .i64 x, .int .i64 y] W' fun e W'' => e = .returned (.bool (mayB s.h x y)) ∧ W' = W'') := fun W' x y h => qhj x y W' h
 have hmx := Grd.max2 a 1
 have hmx1 : 1 ≤ max a 1 := by omega
 have hmx2 : max a 1 ≤ 9223372036854775807 := by omega
 have hws : IntKind.i64.wrap (max a 1 - 1) = max a 1 - 1 := Zj _ (by omega) (by omega)
 have HSd : Hid (ShAt 111 W.drew M w.heap.size p s rows) := hS.drew
 have HR : Hid (regS s a b = if mayB s.h (max a 1 - 1) (Gt s.h b) then { s with top := max a 1 - 1, bot := Gt s.h b, x := 0, y := if hasB s.modes 2 then max a 1 - 1 else 0, late := false } else s) := rfl
 generalize regS s a b = s' at *
 have HL2 := HL.out _ HSd.out
 have SK : Hid (∀ w', Below W.heap.size W w' → Below W.heap.size W w' ∧ w'.cell? ⟨B1, 0, none⟩ = some (.int .i64 a) ∧ w'.cell? ⟨B2, 0, none⟩ = some (.int .i64 b)) := fun w' h => ⟨h, Qa h q1, Qa h q2⟩
 have b0 : Below W.heap.size W W.drew := (Below.refl _ _).drew
 have HNX : Hid (∀ V, Below W.heap.size W V → ShAt 111 V M w.heap.size p s rows ∧ Below w.heap.size W V) := fun V h => ⟨hS.next h, h.mono hb.size⟩
 clear hS hB1 hB2 HSd
 go_enter Tryz.func218, Tryz.ntmps218
 go_upto_region 0 with fail
 go_region_held3 (fun w' => Below W.heap.size W w' ∧ w'.cell? ⟨B1, 0, none⟩ = some (.int .i64 a) ∧ w'.cell? ⟨B2, 0, none⟩ = some (.int .i64 b))
  (first | exact SK.out _ b0)
  (first | (go_at_call 219; refine HL2.mono ?_; rintro e V ⟨rfl, hv⟩; subst hv))
 all_goals (
  obtain ⟨HSX, HBX⟩ := HNX.out _ b0
  clear SK HL HL2 HNX q1 q2 hws hmx
  generalize W.drew = X at *
  generalize max a 1 - 1 = fr at *
  generalize Gt s.h b = la at *
  have HM2 := HM.out X fr la HSX
  clear HM
  cases hmy : mayB s.h fr la with
  | false =>
   have HE : Hid (s' = s) := by unfold Hid; rw [HR.out, hmy]; rfl
   rw [hmy] at HM2
   clear HR
   go_wp2_with fail
   refine HM2.mono ?_
   rintro e V ⟨rfl, hv⟩
   subst hv
   go_wp2_with fail
   (try simp only [Exit.inBlock, Exit.then])
   refine bodyPost_ret (v := .tuple #[]) (results_none rfl _ _ _) rfl ⟨rfl, ?_, HBX⟩
   rw [HE.out]
   exact HSX
  | true =>
   have HE : Hid (s' = { s with top := fr, bot := la, x := 0, y := if hasB s.modes 2 then fr else 0, late := false }) := by unfold Hid; rw [HR.out, hmy]; rfl
   rw [hmy] at HM2
   have k1 : ShAt 111 (X.setCell ⟨p, 9, none⟩ (.int .i64 fr)) M w.heap.size p { s with top := fr } rows := HSX.set Qq 9 _ (fun _ _ _ _ => rfl) rfl rfl
   have k2 : ShAt 111 ((X.setCell ⟨p, 9, none⟩ (.int .i64 fr)).setCell ⟨p, 10, none⟩ (.int .i64 la)) M w.heap.size p { s with top := fr, bot := la } rows := k1.set Qq 10 _ (fun _ _ _ _ => rfl) rfl rfl
   have HB2 : Hid (Below w.heap.size W ((X.setCell ⟨p, 9, none⟩ (.int .i64 fr)).setCell ⟨p, 10, none⟩ (.int .i64 la))) := (HBX.setCell HSX.lo _).setCell HSX.lo _
   have HH := qf0 _ k2
   obtain ⟨c0, c1, c3, c4, c5, c9, c10, c11, c19, f⟩ := HSX.words
   have f9 := f 9
   have f10 := f 10
   clear k1 k2 HR HSX HBX f c0 c1 c3 c4 c5 c11 c19
   go_wp2_with fail
   refine HM2.mono ?_
   rintro e V ⟨rfl, hv⟩
   subst hv
   go_wp2_with fail
   refine HH.mono ?_
   rintro e V ⟨rfl, hk, hbv⟩
   clear HH HM2 f9 f10 c9 c10
   go_wp2_with fail
   go_end0
   rw [HE.out]
   exact ⟨rfl, hk, HB2.out.trans hbv⟩)
end Put
namespace Put
open Grd (C SliceAt Qb Qf z0 Qx flat Qe)
theorem qkw : Plain 218 := by
 intro args W
 kernel_rfl
theorem qy0 (s : Scr) (a b : Int) (cs : List C) (h : cs = s.cs) : { regS s a b with cs := cs } = regS s a b := by
 subst h
 unfold regS
 split <;> rfl
theorem qsy (s : Scr) (a b : Int) : (regS s a b).gone = s.gone := by
 unfold regS
 split <;> rfl
theorem qq8 {w0 w : World} {s : Scr} {cv tv gv : Value} {n hh : Nat} (h : Met w0 w s cv tv gv) (hR : Qg s n hh) (a b : Int) (ha : a ≤ 9223372036854775807) : Calls Tryz.prog 167 #[.agg (scrA s cv tv gv), .int .i64 a, .int .i64 b] w (Made w0 w (regS s a b) 0) := by
 have e2 := hR.h
 have h1 := hR.h1
 have h2 := hR.h2
 exact qkq s _ cv tv gv a b 0 w0 w h.v h.b.size fun _ B1 B2 hW hB1 hB2 => by
  have := K5 (h.next hW) hR _ qkw #[.pointer (some ⟨B1, 0, none⟩), .pointer (some ⟨B2, 0, none⟩)] (Qe n s.cs hh) _ (fun w1 hw1 => qnk a b B1 B2 _ w1 s _ (Qa hw1 hB1) (Qa hw1 hB2) (by omega) (by omega) ha) (Ya hR _ (qsy s a b)) rfl
  rwa [qy0 s a b _ hR.flatten] at this
end Put
namespace Put
open Grd (C z0 Qf putRow Zr Q8 V4)
open Sty (Q3)
open Txt (wd)
def Jb (bk : Int) (row : List C) (a b : Nat) : List C := Zr (putRow row (fun x => decide (a ≤ x ∧ x < b)) fun _ => (32, 0, bk, 0))
theorem qan (bk : Int) (row : List C) (a b : Nat) : (Jb bk row a b).length = row.length := by
 unfold Jb
 rw [Grd.V9, Grd.Yd]
theorem Fw (bk : Int) (row : List C) (a b : Nat) (h : Q8 row) (hs : Q3 (0, bk, 0) = true) : Q8 (Jb bk row a b) := by
 unfold Jb
 exact Grd.Gm _ (Grd.qgi row _ _ h.1 Grd.wd32 hs)
theorem q0d (bk : Int) (row : List C) (a b x : Nat) (hx : x < row.length) (h : a ≤ x ∧ x < b) : (Jb bk row a b).getD x z0 = (32, 0, bk, 0) := by
 unfold Jb
 rw [Grd.qmw, Grd.Kv _ _ (by rw [Grd.Yd]; exact hx)]
 have e : (putRow row (fun x => decide (a ≤ x ∧ x < b)) fun _ => (32, 0, bk, 0)).getD x z0 = (32, 0, bk, 0) := by
  rw [Grd.Kg _ _ _ _ hx, if_pos (by simpa using h)]
 rw [e]
 split <;> rfl
theorem qfh (bk : Int) (row : List C) (b : Nat) (hb : row.length ≤ b) : Jb bk row 0 b = List.replicate row.length (32, 0, bk, 0) := by
 refine Grd.Ko _ _ (by rw [qan, List.length_replicate]) fun x hx => ?_
 rw [qan] at hx
 rw [q0d bk row 0 b x hx ⟨Nat.zero_le _, by omega⟩]
 simp [List.getD, hx]
theorem qwk (n : Nat) (row : List C) (hn : row.length = n) (hz : Qf n 1 row = 0) : Q8 row := by
 have h := ((Grd.Zb n 1 row).1 hz).2.2 0 (by omega)
 have e : Grd.rowAt n row 0 = row := by unfold Grd.rowAt; rw [Nat.zero_mul, List.drop_zero, ← hn, List.take_length]
 rw [e] at h
 exact h
end Put
namespace Put
open Grd (C SliceAt Qb Qf z0 Qx flat Qe Y7 Jw)
open Sty (Q3)
open Txt (wd)
set_option linter.unusedVariables false in
set_option maxHeartbeats 8000000 in
theorem qs9 (W : World) (p Bp Bf Be rb ro c a b n : Nat) (bk : Int) (row : List C) (hp : W.cell? ⟨Bp, 0, none⟩ = some (.pointer (some ⟨p, 0, none⟩))) (hf : W.cell? ⟨Bf, 0, none⟩ = some (.int .i64 (a : Int))) (he : W.cell? ⟨Be, 0, none⟩ = some (.int .i64 (b : Int))) (h7 : W.cell? ⟨p, 7, none⟩ = some (.int .i64 bk)) (hC : Qb W rb ro row) (hc : row.length ≤ c) (hab : a + n = b) (hbl : b ≤ row.length) (hl : row.length ≤ 120) (hcc : b < c) :
  Calls Tryz.prog 230 #[.slice (some ⟨rb, ro, none⟩) row.length c, .pointer (some ⟨Bf, 0, none⟩), .pointer (some ⟨Bp, 0, none⟩), .pointer (some ⟨Be, 0, none⟩)] W fun e W' => ∃ v', e = .returned v' ∧ W'.ownsRow W.heap.size 57 4 v' row.length (flat (ovR row (List.replicate n (32, 0, bk, 0)) a b)) ∧ Below W.heap.size W W' := by
 have SK : Hid (∀ V, Below W.heap.size W V → V.cell? ⟨Bp, 0, none⟩ = some (.pointer (some ⟨p, 0, none⟩)) ∧ V.cell? ⟨Bf, 0, none⟩ = some (.int .i64 (a : Int)) ∧ V.cell? ⟨Be, 0, none⟩ = some (.int .i64 (b : Int))) := fun V h => ⟨Qa h hp, Qa h hf, Qa h he⟩
 have HBL : Hid (∀ V, Below W.heap.size W V → Calls Tryz.prog 116 #[.pointer (some ⟨p, 0, none⟩), .int .i64 (n : Int)] V fun e W' => ∃ q c g, e = .returned (.slice q n c) ∧ V.heap.size ≤ g ∧ Jw W' g (.slice q n c) (List.replicate n (32, 0, bk, 0)) ∧ Below V.heap.size V W') := fun V h => qgr p n bk V (Qa h h7) (by omega)
 have hwr : IntKind.i64.wrap ((b : Int) - (a : Int)) = (n : Int) := by
  rw [Zj _ (by omega) (by omega)]
  omega
 have HCC : Hid (Qb W rb ro row) := hC
 obtain ⟨L, hL⟩ : ∃ L, L = row.length := ⟨_, rfl⟩
 obtain ⟨m, hm⟩ : ∃ m, m = L - b := ⟨_, rfl⟩
 have HCN : Hid (∀ (V : World) (q : Option Addr) (vc g : Nat), Below W.heap.size W V → Jw V g (.slice q n vc) (List.replicate n (32, 0, bk, 0)) → Calls Tryz.prog 111 #[.slice (some ⟨V.heap.size, 0, none⟩) 3 3] (V.alloc (.cells #[.slice (some ⟨rb, ro, none⟩) a c, .slice q n vc, .slice (some ⟨rb, ro + b * 4, none⟩) m (c - b)] 22)) fun e w' => ∃ v', e = .returned v' ∧ w'.ownsRow (V.alloc (.cells #[.slice (some ⟨rb, ro, none⟩) a c, .slice q n vc, .slice (some ⟨rb, ro + b * 4, none⟩) m (c - b)] 22)).heap.size 57 4 v' L (flat (ovR row (List.replicate n (32, 0, bk, 0)) a b)) ∧ Below (V.alloc (.cells #[.slice (some ⟨rb, ro, none⟩) a c, .slice q n vc, .slice (some ⟨rb, ro + b * 4, none⟩) m (c - b)] 22)).heap.size (V.alloc (.cells #[.slice (some ⟨rb, ro, none⟩) a c, .slice q n vc, .slice (some ⟨rb, ro + b * 4, none⟩) m (c - b)] 22)) w') := fun V q vc g hV hB => by
  have hM := hB.cells
  obtain ⟨bc, brest, hbv, -⟩ := hB
  injection hbv with ha _ _
  subst ha
  have key := qrq V rb ro g 0 c a b n vc L row (List.replicate n (32, 0, bk, 0)) (HCC.out.below hV) hM List.length_replicate hab hL.symm (by omega) (by omega) (ro + b * 4) (c - b) (.inl rfl)
  rw [← hm] at key
  exact key
 have b0 : Below W.heap.size W W.drew := (Below.refl _ _).drew
 have hx1 : (a : Int) ≤ (c : Int) := by omega
 have hx2 : (a : Int) ≤ (L : Int) := by omega
 have hx3 : (b : Int) ≤ (L : Int) := by omega
 have hx4 : (0 : Int) ≤ (b : Int) := by omega
 have hcI : (b : Int) < (c : Int) := by omega
 have hcN : ¬ c = b := by omega
 have hkk : L - b = m := hm.symm
 rw [← hL]
 clear hp hf he h7 hC hc hab hbl hl hcc hL hm HCC
 generalize ovR row (List.replicate n (32, 0, bk, 0)) a b = res at *
 go_enter Tryz.func230, Tryz.ntmps230
 go_upto_region 1 with fail
 go_region_held3 (fun w' => w'.cell? ⟨Bp, 0, none⟩ = some (.pointer (some ⟨p, 0, none⟩)) ∧ w'.cell? ⟨Bf, 0, none⟩ = some (.int .i64 (a : Int)) ∧ w'.cell? ⟨Be, 0, none⟩ = some (.int .i64 (b : Int)))
  (first | exact SK.out _ q3 | exact SK.out _ q2 | exact SK.out _ q1 | exact SK.out _ b0)
  (first
   | (go_at_call 116; refine (HBL.out _ b0).mono ?_; rintro e V1 ⟨q, vc, g, rfl, hg, hB, b1⟩; have q1 : Below W.heap.size W V1 := b0.trans (b1.mono b0.size); have q2 := q1.alloc q1.size (.cells #[.slice (some ⟨rb, ro, none⟩) a c, .slice q n vc, .slice (some ⟨rb, ro + b * 4, none⟩) m (c - b)] 22); have HC1 := HCN.out V1 q vc g q1 hB)
   | (go_at_call 111; (try rw [hkk]); refine HC1.mono ?_; rintro e V2 ⟨v', rfl, hO, b2⟩; have q3 : Below W.heap.size W V2 := q2.trans (b2.mono q2.size); have HFI : Hid _ := And.intro (Grd.Q0 hO q2.size) q3; obtain ⟨za, zc, hzv⟩ := Qw hO; subst hzv))
 all_goals go_wp2_with fail
 all_goals go_ret
 all_goals exact ⟨_, rfl, HFI.out.1, HFI.out.2⟩
set_option linter.unusedVariables false in
set_option maxHeartbeats 8000000 in
theorem qp5 (W : World) (p Bp Bf Be rb ro c a b n : Nat) (bk : Int) (row : List C) (hp : W.cell? ⟨Bp, 0, none⟩ = some (.pointer (some ⟨p, 0, none⟩))) (hf : W.cell? ⟨Bf, 0, none⟩ = some (.int .i64 (a : Int))) (he : W.cell? ⟨Be, 0, none⟩ = some (.int .i64 (b : Int))) (h7 : W.cell? ⟨p, 7, none⟩ = some (.int .i64 bk)) (hC : Qb W rb ro row) (hc : row.length ≤ c) (hab : a + n = b) (hbl : b ≤ row.length) (hl : row.length ≤ 120) (hcc : ¬ b < c) :
  Calls Tryz.prog 230 #[.slice (some ⟨rb, ro, none⟩) row.length c, .pointer (some ⟨Bf, 0, none⟩), .pointer (some ⟨Bp, 0, none⟩), .pointer (some ⟨Be, 0, none⟩)] W fun e W' => ∃ v', e = .returned v' ∧ W'.ownsRow W.heap.size 57 4 v' row.length (flat (ovR row (List.replicate n (32, 0, bk, 0)) a b)) ∧ Below W.heap.size W W' := by
 have SK : Hid (∀ V, Below W.heap.size W V → V.cell? ⟨Bp, 0, none⟩ = some (.pointer (some ⟨p, 0, none⟩)) ∧ V.cell? ⟨Bf, 0, none⟩ = some (.int .i64 (a : Int)) ∧ V.cell? ⟨Be, 0, none⟩ = some (.int .i64 (b : Int))) := fun V h => ⟨Qa h hp, Qa h hf, Qa h he⟩
 have HBL : Hid (∀ V, Below W.heap.size W V → Calls Tryz.prog 116 #[.pointer (some ⟨p, 0, none⟩), .int .i64 (n : Int)] V fun e W' => ∃ q c g, e = .returned (.slice q n c) ∧ V.heap.size ≤ g ∧ Jw W' g (.slice q n c) (List.replicate n (32, 0, bk, 0)) ∧ Below V.heap.size V W') := fun V h => qgr p n bk V (Qa h h7) (by omega)
 have hwr : IntKind.i64.wrap ((b : Int) - (a : Int)) = (n : Int) := by
  rw [Zj _ (by omega) (by omega)]
  omega
 have HCC : Hid (Qb W rb ro row) := hC
 obtain ⟨L, hL⟩ : ∃ L, L = row.length := ⟨_, rfl⟩
 have hbc : b = c := by omega
 have hbL : b = L := by omega
 subst hbc
 subst hbL
 have HCN : Hid (∀ (V : World) (q : Option Addr) (vc g : Nat), Below W.heap.size W V → Jw V g (.slice q n vc) (List.replicate n (32, 0, bk, 0)) → Calls Tryz.prog 111 #[.slice (some ⟨V.heap.size, 0, none⟩) 3 3] (V.alloc (.cells #[.slice (some ⟨rb, ro, none⟩) a b, .slice q n vc, .slice (some ⟨rb, ro, none⟩) 0 0] 22)) fun e w' => ∃ v', e = .returned v' ∧ w'.ownsRow (V.alloc (.cells #[.slice (some ⟨rb, ro, none⟩) a b, .slice q n vc, .slice (some ⟨rb, ro, none⟩) 0 0] 22)).heap.size 57 4 v' b (flat (ovR row (List.replicate n (32, 0, bk, 0)) a b)) ∧ Below (V.alloc (.cells #[.slice (some ⟨rb, ro, none⟩) a b, .slice q n vc, .slice (some ⟨rb, ro, none⟩) 0 0] 22)).heap.size (V.alloc (.cells #[.slice (some ⟨rb, ro, none⟩) a b, .slice q n vc, .slice (some ⟨rb, ro, none⟩) 0 0] 22)) w') := fun V q vc g hV hB => by
  have hM := hB.cells
  obtain ⟨bc, brest, hbv, -⟩ := hB
  injection hbv with ha _ _
  subst ha
  have key := qrq V rb ro g 0 b a b n vc b row (List.replicate n (32, 0, bk, 0)) (HCC.out.below hV) hM List.length_replicate hab hL.symm (by omega) (by omega) ro 0 (.inr rfl)
  rw [Nat.sub_self] at key
  exact key
 have b0 : Below W.heap.size W W.drew := (Below.refl _ _).drew
 have hx1 : (a : Int) ≤ (b : Int) := by omega
 have hx2 : (a : Int) ≤ (b : Int) := by omega
 have hx3 : (b : Int) ≤ (b : Int) := by omega
 have hx4 : (0 : Int) ≤ (b : Int) := by omega
 have hcI : ¬ (b : Int) < (b : Int) := by omega
 have hcN : b = b := rfl
 have hkk : b - b = 0 := Nat.sub_self _
 rw [← hL]
 clear hp hf he h7 hC hc hab hbl hl hcc hL HCC
 generalize ovR row (List.replicate n (32, 0, bk, 0)) a b = res at *
 go_enter Tryz.func230, Tryz.ntmps230
 go_upto_region 1 with fail
 go_region_held3 (fun w' => w'.cell? ⟨Bp, 0, none⟩ = some (.pointer (some ⟨p, 0, none⟩)) ∧ w'.cell? ⟨Bf, 0, none⟩ = some (.int .i64 (a : Int)) ∧ w'.cell? ⟨Be, 0, none⟩ = some (.int .i64 (b : Int)))
  (first | exact SK.out _ q3 | exact SK.out _ q2 | exact SK.out _ q1 | exact SK.out _ b0)
  (first
   | (go_at_call 116; refine (HBL.out _ b0).mono ?_; rintro e V1 ⟨q, vc, g, rfl, hg, hB, b1⟩; have q1 : Below W.heap.size W V1 := b0.trans (b1.mono b0.size); have q2 := q1.alloc q1.size (.cells #[.slice (some ⟨rb, ro, none⟩) a b, .slice q n vc, .slice (some ⟨rb, ro, none⟩) 0 0] 22); have HC1 := HCN.out V1 q vc g q1 hB)
   | (go_at_call 111; (try rw [hkk]); refine HC1.mono ?_; rintro e V2 ⟨v', rfl, hO, b2⟩; have q3 : Below W.heap.size W V2 := q2.trans (b2.mono q2.size); have HFI : Hid _ := And.intro (Grd.Q0 hO q2.size) q3; obtain ⟨za, zc, hzv⟩ := Qw hO; subst hzv))
 all_goals go_wp2_with fail
 all_goals go_ret
 all_goals exact ⟨_, rfl, HFI.out.1, HFI.out.2⟩
theorem qp2 (W : World) (p Bp Bf Be rb ro c a b n : Nat) (bk : Int) (row : List C) (hp : W.cell? ⟨Bp, 0, none⟩ = some (.pointer (some ⟨p, 0, none⟩))) (hf : W.cell? ⟨Bf, 0, none⟩ = some (.int .i64 (a : Int))) (he : W.cell? ⟨Be, 0, none⟩ = some (.int .i64 (b : Int))) (h7 : W.cell? ⟨p, 7, none⟩ = some (.int .i64 bk)) (hC : Qb W rb ro row) (hc : row.length ≤ c) (hab : a + n = b) (hbl : b ≤ row.length) (hl : row.length ≤ 120) :
  Calls Tryz.prog 230 #[.slice (some ⟨rb, ro, none⟩) row.length c, .pointer (some ⟨Bf, 0, none⟩), .pointer (some ⟨Bp, 0, none⟩), .pointer (some ⟨Be, 0, none⟩)] W fun e W' => ∃ v', e = .returned v' ∧ W'.ownsRow W.heap.size 57 4 v' row.length (flat (ovR row (List.replicate n (32, 0, bk, 0)) a b)) ∧ Below W.heap.size W W' := by
 by_cases hcc : b < c
 ·exact qs9 W p Bp Bf Be rb ro c a b n bk row hp hf he h7 hC hc hab hbl hl hcc
 ·exact qp5 W p Bp Bf Be rb ro c a b n bk row hp hf he h7 hC hc hab hbl hl hcc
end Put
namespace Put
open Grd (C SliceAt Qb Qf z0 Qx flat Qe Y7 Jw)
open Sty (Q3)
theorem qzn (w : World) (o0 o1 o2 : Obj) : (((w.alloc o0).alloc o1).alloc o2).heap[w.heap.size]? = some o0 ∧ (((w.alloc o0).alloc o1).alloc o2).heap[w.heap.size + 1]? = some o1 ∧
  (((w.alloc o0).alloc o1).alloc o2).heap[w.heap.size + 2]? = some o2 ∧
  Below w.heap.size w (((w.alloc o0).alloc o1).alloc o2) ∧ (((w.alloc o0).alloc o1).alloc o2).heap.size = w.heap.size + 3 := by
 have s1 : (w.alloc o0).heap.size = w.heap.size + 1 := by simp
 have s2 : ((w.alloc o0).alloc o1).heap.size = w.heap.size + 2 := by simp
 refine ⟨?_, ?_, ?_, (((Below.refl _ _).alloc (Nat.le_refl _) _).alloc (by omega) _).alloc (by omega) _, by simp⟩
 ·rw [Below.heap_alloc _ _ _ (by omega), Below.heap_alloc _ _ _ (by omega), heap_alloc_new]
 ·rw [Below.heap_alloc _ _ _ (by omega), ← s1, heap_alloc_new]
 ·rw [← s2, heap_alloc_new]
theorem Zl {W : World} {R : Nat} {v : Value} {t : TypeId} (h : W.heap[R]? = some (.cells #[v] t (0, 0))) : W.cell? ⟨R, 0, none⟩ = some v := by simp [World.cell?, h]
theorem qlo : Plain 230 := by
 intro args W
 kernel_rfl
theorem qze (bk : Int) (row : List C) (a b : Nat) (h : a ≤ b) (hb : b ≤ row.length) : Jb bk row a b = Grd.Zr (ovR row (List.replicate (b - a) (32, 0, bk, 0)) a b) := by
 unfold Jb
 have hl : a + (List.replicate (b - a) ((32, 0, bk, 0) : C)).length = b := by rw [List.length_replicate]; omega
 refine congrArg Grd.Zr (Grd.Ko _ _ (by rw [Grd.Yd, Fj _ _ _ _ hl hb]) fun j hj => ?_)
 rw [Grd.Yd] at hj
 rw [qkh _ _ _ _ hl hb, Grd.Kg _ _ _ _ hj]
 by_cases h1 : j < a
 ·rw [if_neg (by simp; omega), if_pos h1]
 ·rw [if_neg h1]
  by_cases h2 : j < b
  ·rw [if_pos (by simp; omega), if_pos h2]
   simp only [List.getD]
   rw [List.getElem?_replicate, if_pos (by omega)]
   rfl
  ·rw [if_neg (by simp; omega), if_neg h2]
theorem qv0 (bk : Int) (row : List C) (a b : Nat) (h : a ≤ b) (hb : b ≤ row.length) (hr : Grd.Q8 row) (hs : Q3 (0, bk, 0) = true) : Grd.Alike (ovR row (List.replicate (b - a) (32, 0, bk, 0)) a b) := by
 have hl : a + (List.replicate (b - a) ((32, 0, bk, 0) : C)).length = b := by rw [List.length_replicate]; omega
 have e : ovR row (List.replicate (b - a) (32, 0, bk, 0)) a b = Grd.putRow row (fun x => decide (a ≤ x ∧ x < b)) fun _ => (32, 0, bk, 0) := by
  refine Grd.Ko _ _ (by rw [Grd.Yd, Fj _ _ _ _ hl hb]) fun j hj => ?_
  rw [Fj _ _ _ _ hl hb] at hj
  rw [qkh _ _ _ _ hl hb, Grd.Kg _ _ _ _ hj]
  by_cases h1 : j < a
  ·rw [if_neg (show ¬ (decide (a ≤ j ∧ j < b) = true) by simp; omega), if_pos h1]
  ·rw [if_neg h1]
   by_cases h2 : j < b
   ·rw [if_pos (show decide (a ≤ j ∧ j < b) = true by simp; omega), if_pos h2]
    simp only [List.getD]
    rw [List.getElem?_replicate, if_pos (by omega)]
    rfl
   ·rw [if_neg (show ¬ (decide (a ≤ j ∧ j < b) = true) by simp; omega), if_neg h2]
 rw [e]
 exact (Grd.qgi row _ _ hr.1 Grd.wd32 hs).alike
set_option maxHeartbeats 4000000 in
theorem qdm (W : World) (M N p : Nat) (s : Scr) (rows : List (List C)) (hT : Txt.Tab W) (hSt : ShAt 111 W M N p s rows)
  (n y a b : Nat) (hy : y < rows.length) (row : List C) (hrow : rows.getD y [] = row) (hn1 : 1 ≤ n) (hn2 : n ≤ 120) (hrn : row.length = n) (hz : Qf n 1 row = 0) (hst : Q3 (0, s.sb, 0) = true) (hab : a ≤ b) (hb : b ≤ n) :
  Calls Tryz.prog 202 #[.pointer (some ⟨p, 0, none⟩), .int .i64 (y : Int), .int .i64 (a : Int), .int .i64 (b : Int)] W (Ran W M N p s (rows.set y (Jb s.sb row a b))) := by
 obtain ⟨cv, tv, gv, rv, gvs, vs, hS⟩ := hSt
 have kb : Below W.heap.size W (((W.alloc (.cells #[.pointer (some ⟨p, 0, none⟩)] 84)).alloc (.cells #[.int .i64 (a : Int)] 3)).alloc (.cells #[.int .i64 (b : Int)] 3)) := (((Below.refl _ _).alloc (Nat.le_refl _) _).alloc (by simp) _).alloc (by simp; omega) _
 obtain ⟨hx0, hx1, hx2, -⟩ := qzn W (.cells #[.pointer (some ⟨p, 0, none⟩)] 84) (.cells #[.int .i64 (a : Int)] 3) (.cells #[.int .i64 (b : Int)] 3)
 have hrr := qwk n row hrn hz
 have hlen := Fj row (List.replicate (b - a) (32, 0, s.sb, 0)) a b (by rw [List.length_replicate]; omega) (by omega)
 have HA : Hid (∀ X, Below W.heap.size W X → X.cell? ⟨W.heap.size, 0, none⟩ = some (.pointer (some ⟨p, 0, none⟩)) → X.cell? ⟨W.heap.size + 1, 0, none⟩ = some (.int .i64 (a : Int)) → X.cell? ⟨W.heap.size + 2, 0, none⟩ = some (.int .i64 (b : Int)) → Calls Tryz.prog 114 #[.pointer (some ⟨p, 0, none⟩), .int .i64 (y : Int), .func (.func 230) #[] #[.pointer (some ⟨W.heap.size + 1, 0, none⟩), .pointer (some ⟨W.heap.size, 0, none⟩), .pointer (some ⟨W.heap.size + 2, 0, none⟩)]] X (Ran X M N p s (rows.set y (Jb s.sb row a b)))) := fun X hX q1 q2 q3 => by
  rw [qze _ _ _ _ (by omega) (by omega)]
  refine qc9 X M N p s rows cv tv gv rv gvs vs (hS.next hX) (Grd.Tab.next hT hX) y hy _ qlo _ _ (fun W1 hW1 => ?_) (qv0 _ _ _ _ (by omega) (by omega) hrr hst) (by rw [hlen]; omega)
  have hS1 := (hS.next hX).next hW1
  have hri := hS1.rin.2 y hy
  rw [hrow] at hri
  obtain ⟨⟨-, -, -, -, -, -, -, c7, -⟩, -, -⟩ := Qr hS1.blk
  rcases hri with ⟨he, -⟩ | ⟨hne, bb, o, c, hv, hc1, hc2, hC, -⟩
  ·have h5 := congrArg List.length he
   rw [List.length_nil] at h5
   omega
  ·rw [hv]
   refine (qp2 W1 p W.heap.size (W.heap.size + 1) (W.heap.size + 2) bb o c a b (b - a) s.sb row (Qa hW1 q1) (Qa hW1 q2) (Qa hW1 q3) c7 hC hc1 (by omega) (by omega) (by omega)).mono ?_
   rintro e W2 ⟨v', rfl, hO, b2⟩
   have hO2 : W2.ownsRow W1.heap.size 57 4 v' (ovR row (List.replicate (b - a) (32, 0, s.sb, 0)) a b).length (flat (ovR row (List.replicate (b - a) (32, 0, s.sb, 0)) a b)) := by rw [hlen]; exact hO
   rcases U8.of hO2 with ⟨he, -⟩ | ⟨g, cap, rest, ⟨t, ht⟩, hv', hg1, hg2, hg3, hg4⟩
   ·have h5 := congrArg List.length he
    rw [hlen, List.length_nil] at h5
    omega
   ·subst ht
    rw [hv']
    exact ⟨g, cap, rest, rfl, hg1, hg2, hg3, hg4, b2⟩
 have HP0 : Hid _ := hx0
 have q1 := Zl hx0
 have q2 := Zl hx1
 have q3 := Zl hx2
 have HKB : Hid _ := kb
 have hNW : N ≤ W.heap.size := by have := hS.lo; have := Qc hS.blk; omega
 clear hS hT hrow hz hst kb hx0 hx1 hx2 hrr hlen
 go_enter Tryz.func202, Tryz.ntmps202
 go_upto_region 1 with fail
 generalize (((W.alloc (.cells #[.pointer (some ⟨p, 0, none⟩)] 84)).alloc (.cells #[.int .i64 (a : Int)] 3)).alloc (.cells #[.int .i64 (b : Int)] 3)) = X at *
 go_wp2_with fail
 refine (HA.out _ HKB.out q1 q2 q3).mono ?_
 rintro e V ⟨rfl, hSV, hBV, hFV⟩
 have HSV : Hid _ := hSV
 have HBV : Hid _ := hBV
 have HFV : Hid _ := hFV
 clear hSV hBV hFV q1 q2 q3
 go_wp2_with fail
 go_end0
 exact ⟨rfl, HSV.out, (HKB.out.mono hNW).trans HBV.out, (Qy.of_below HKB.out).trans HFV.out⟩
end Put
namespace Put
open Grd (C SliceAt Qb Qf z0 Qx flat Qe Q8)
open Sty (Q3)
def Zm (n : Nat) (rows : List (List C)) : Prop := ∀ i, i < rows.length → (rows.getD i []).length = n ∧ Q8 (rows.getD i [])
theorem Vz {s : Scr} {n hh : Nat} (h : Qg s n hh) : Zm n (Qe n s.cs hh) := fun i hi => by
 rw [Grd.Qs] at hi
 have e2 : (Qe n s.cs hh).getD i [] = Grd.rowAt n s.cs i := by simp [Qe, List.getD, hi]
 rw [e2]
 exact ⟨Grd.qax n hh s.cs i h.cl hi, ((Grd.Zb n hh s.cs).1 h.gz).2.2 i hi⟩
theorem Zm.set {n : Nat} {rows : List (List C)} (h : Zm n rows) (k : Nat) (row : List C) (hl : row.length = n) (hr : Q8 row) : Zm n (rows.set k row) := fun i hi => by
 rw [List.length_set] at hi
 by_cases e : i = k
 ·subst e
  rw [J5 _ _ _ _ hi]
  exact ⟨hl, hr⟩
 ·rw [getD_set_ne _ _ _ _ _ e]
  exact h i hi
theorem qju (n : Nat) (row : List C) (hn1 : 1 ≤ n) (hn2 : n ≤ 120) (hl : row.length = n) (hr : Q8 row) : Qf n 1 row = 0 := by
 refine (Grd.Zb n 1 row).2 ⟨?_, by omega, fun y hy => ?_⟩
 ·simp [Grd.Zi]
  omega
 ·have e : y = 0 := by omega
  subst e
  have e2 : Grd.rowAt n row 0 = row := by
   unfold Grd.rowAt
   rw [Nat.zero_mul, List.drop_zero, List.take_of_length_le (by omega)]
  rw [e2]
  exact hr
theorem Kc {s : Scr} {n hh : Nat} (h : Qg s n hh) : Q3 (0, s.sb, 0) = true := by
 have h1 := h.looks
 simp only [Q9, Bool.and_eq_true] at h1
 have h2 := h1.1
 simp only [Q3, decide_eq_true_eq] at h2 ⊢
 omega
def Zw (k : Int) (at' size : Nat) : Nat × Nat := if k ≤ 0 then (at', size) else if k = 1 then (0, at' + 1) else if k = 2 then (0, size) else (0, 0)
theorem qng (k : Int) (x n : Nat) (hx : x ≤ 120) (w : World) : Calls Tryz.prog 231 #[.int .i64 k, .int .i64 (x : Int), .int .i64 (n : Int)] w fun e w' => e = .returned (.tuple #[.int .i64 ((Zw k x n).1 : Nat), .int .i64 ((Zw k x n).2 : Nat)]) ∧ w = w' := by
 by_cases k0 : k ≤ 0
 ·have e : Zw k x n = (x, n) := by unfold Zw; rw [if_pos k0]
  rw [e]
  clear e
  go_enter Tryz.func231, Tryz.ntmps231
  go_wp2_with fail
  go_ret2
  exact ⟨rfl, rfl⟩
 ·by_cases k1 : k = 1
  ·have e : Zw k x n = (0, x + 1) := by unfold Zw; rw [if_neg k0, if_pos k1]
   rw [e]
   clear e k0
   subst k1
   go_enter Tryz.func231, Tryz.ntmps231
   go_wp2_with fail
   go_ret2
   exact ⟨rfl, rfl⟩
  ·by_cases k2 : k = 2
   ·have e : Zw k x n = (0, n) := by unfold Zw; rw [if_neg k0, if_neg k1, if_pos k2]
    rw [e]
    clear e k0 k1
    subst k2
    go_enter Tryz.func231, Tryz.ntmps231
    go_wp2_with fail
    go_ret2
    exact ⟨rfl, rfl⟩
   ·have e : Zw k x n = (0, 0) := by unfold Zw; rw [if_neg k0, if_neg k1, if_neg k2]
    have q1 : (k == 1) = false := by rw [beq_eq_false_iff_ne]; exact k1
    have q2 : (k == 2) = false := by rw [beq_eq_false_iff_ne]; exact k2
    rw [e]
    clear e k1 k2
    go_enter Tryz.func231, Tryz.ntmps231
    go_wp2_with fail
    go_ret2
    exact ⟨rfl, rfl⟩
theorem qxk (k : Int) (x n : Nat) (hx : x < n) : (Zw k x n).1 ≤ (Zw k x n).2 := by
 unfold Zw
 repeat' split
 all_goals (dsimp only; omega)
theorem qrp (k : Int) (x n : Nat) (hx : x < n) : (Zw k x n).1 ≤ n ∧ (Zw k x n).2 ≤ n := by
 unfold Zw
 split
 ·exact ⟨by show x ≤ n; omega, Nat.le_refl _⟩
 ·split
  ·exact ⟨by show 0 ≤ n; omega, by show x + 1 ≤ n; omega⟩
  ·split
   ·exact ⟨by show 0 ≤ n; omega, Nat.le_refl _⟩
   ·exact ⟨by show 0 ≤ n; omega, by show 0 ≤ n; omega⟩
def J9 (s : Scr) (k : Int) (x n : Nat) (row : List C) : List C := Jb s.sb row (Zw k x n).1 (Zw k x n).2
set_option maxHeartbeats 4000000 in
theorem qbk (W : World) (M N p : Nat) (s : Scr) (rows : List (List C)) (hT : Txt.Tab W) (hS : ShAt 111 W M N p s rows) (n y x : Nat) (k : Int) (hw : s.w = n) (hy : s.y = y) (hx : s.x = x) (hyl : y < rows.length) (hxn : x < n) (hn1 : 1 ≤ n) (hn2 : n ≤ 120) (hR : Zm n rows) (hst : Q3 (0, s.sb, 0) = true) :
  Calls Tryz.prog 207 #[.pointer (some ⟨p, 0, none⟩), .int .i64 k] W (Ran W M N p s (rows.set y (J9 s k x n (rows.getD y [])))) := by
 obtain ⟨c0, c1, c3, c4, c5, c9, c10, c11, c19, f⟩ := hS.words
 have hsp := qrp k x n hxn
 have HSP : Hid (∀ W, Calls Tryz.prog 231 #[.int .i64 k, .int .i64 (x : Int), .int .i64 (n : Int)] W fun e w' => e = .returned (.tuple #[.int .i64 ((Zw k x n).1 : Nat), .int .i64 ((Zw k x n).2 : Nat)]) ∧ W = w') := fun W => qng k x n (by omega) W
 have HCL : Hid (∀ V, Below W.heap.size W V → Calls Tryz.prog 202 #[.pointer (some ⟨p, 0, none⟩), .int .i64 (y : Int), .int .i64 ((Zw k x n).1 : Nat), .int .i64 ((Zw k x n).2 : Nat)] V (Ran V M N p s (rows.set y (J9 s k x n (rows.getD y []))))) := fun V hV => qdm V M N p s rows (Grd.Tab.next hT hV) (hS.next hV) n y _ _ hyl _ rfl hn1 hn2 (hR y hyl).1 (qju n _ hn1 hn2 (hR y hyl).1 (hR y hyl).2) hst (qxk k x n hxn) hsp.2
 have hNW : N ≤ W.heap.size := by
  obtain ⟨_, _, _, _, _, _, hA⟩ := hS
  have := hA.lo
  have := Qc hA.blk
  omega
 rw [hw] at c0
 rw [hx] at c3
 rw [hy] at c4
 clear c1 c5 c9 c10 c11 c19 f hT hS hR hsp hw hx hy
 generalize (Zw k x n).1 = a at *
 generalize (Zw k x n).2 = b at *
 generalize rows.set y (J9 s k x n (rows.getD y [])) = rows' at *
 go_enter Tryz.func207, Tryz.ntmps207
 go_upto_region 0 with fail
 go_region_held3 (fun w' => w'.cell? ⟨p, 3, none⟩ = some (.int .i64 (x : Int)) ∧ w'.cell? ⟨p, 0, none⟩ = some (.int .i64 (n : Int))) (go_keep) (first | (go_at_call 231; refine (HSP.out _).mono ?_; rintro e V ⟨rfl, hv⟩; subst hv))
 go_wp2_with fail
 refine (HCL.out _ ((Below.refl _ _).drew)).mono ?_
 rintro e V ⟨rfl, hSV, hBV, hFV⟩
 have HSV : Hid _ := hSV
 have HBV : Hid (Below N W V) := ((Below.refl _ _).drew).trans hBV
 have HFV : Hid (Qy W V) := (Qy.of_below ((Below.refl _ _).drew)).trans hFV
 clear hSV hBV hFV
 go_wp2_with fail
 go_end0
 exact ⟨rfl, HSV.out, HBV.out, HFV.out⟩
def Yg (rows : List (List C)) (n : Nat) (bk : Int) (a k y : Nat) : List (List C) := (List.range rows.length).map fun i => if a ≤ i ∧ i < k ∧ i ≠ y then List.replicate n (32, 0, bk, 0) else rows.getD i []
theorem Zn (rows : List (List C)) (n : Nat) (bk : Int) (a k y : Nat) : (Yg rows n bk a k y).length = rows.length := by simp [Yg]
theorem Vh (rows : List (List C)) (n : Nat) (bk : Int) (a k y i : Nat) (hi : i < rows.length) : (Yg rows n bk a k y).getD i [] = if a ≤ i ∧ i < k ∧ i ≠ y then List.replicate n (32, 0, bk, 0) else rows.getD i [] := by
 simp [Yg, List.getD, hi]
theorem qb1 {a b : List (List C)} (hl : a.length = b.length) (h : ∀ i, i < a.length → a.getD i [] = b.getD i []) : a = b := by
 apply List.ext_getElem hl
 intro i h1 h2
 have := h i h1
 simpa [List.getD, h1, h2] using this
theorem qjd (rows : List (List C)) (n : Nat) (bk : Int) (a y : Nat) : Yg rows n bk a a y = rows := by
 refine qb1 (Zn _ _ _ _ _ _) fun i hi => ?_
 rw [Zn] at hi
 rw [Vh _ _ _ _ _ _ _ hi, if_neg (by omega)]
theorem qn8 (rows : List (List C)) (n : Nat) (bk : Int) (a k : Nat) : Yg rows n bk a (k + 1) k = Yg rows n bk a k k := by
 refine qb1 (by rw [Zn, Zn]) fun i hi => ?_
 rw [Zn] at hi
 rw [Vh _ _ _ _ _ _ _ hi, Vh _ _ _ _ _ _ _ hi]
 by_cases h : a ≤ i ∧ i < k ∧ i ≠ k
 ·rw [if_pos h, if_pos (by omega)]
 ·rw [if_neg h, if_neg (by omega)]
theorem qmg (rows : List (List C)) (n : Nat) (bk : Int) (a k y : Nat) (hk : k < rows.length) (ha : a ≤ k) (hy : k ≠ y) : (Yg rows n bk a k y).set k (List.replicate n (32, 0, bk, 0)) = Yg rows n bk a (k + 1) y := by
 refine qb1 (by rw [List.length_set, Zn, Zn]) fun i hi => ?_
 rw [List.length_set, Zn] at hi
 by_cases e : i = k
 ·subst e
  rw [J5 _ _ _ _ (by rw [Zn]; exact hi), Vh _ _ _ _ _ _ _ hi, if_pos (by omega)]
 ·rw [getD_set_ne _ _ _ _ _ e, Vh _ _ _ _ _ _ _ hi, Vh _ _ _ _ _ _ _ hi]
  by_cases h : a ≤ i ∧ i < k ∧ i ≠ y
  ·rw [if_pos h, if_pos (by omega)]
  ·rw [if_neg h, if_neg (by omega)]
theorem qnj (n : Nat) (bk : Int) (hs : Q3 (0, bk, 0) = true) : Q8 (List.replicate n ((32, 0, bk, 0) : C)) := by
 have h := Fw bk (List.replicate n ((32, 0, 0, 0) : C)) 0 n (Grd.qew n) hs
 rw [qfh bk _ n (by rw [List.length_replicate]; exact Nat.le_refl _), List.length_replicate] at h
 exact h
theorem Vx (rows : List (List C)) (n : Nat) (bk : Int) (a k y : Nat) (h : Zm n rows) (hs : Q3 (0, bk, 0) = true) : Zm n (Yg rows n bk a k y) := fun i hi => by
 rw [Zn] at hi
 rw [Vh _ _ _ _ _ _ _ hi]
 split
 ·exact ⟨List.length_replicate, qnj n bk hs⟩
 ·exact h i hi
set_option maxHeartbeats 4000000 in
theorem qhz (W : World) (M N p : Nat) (s : Scr) (rows : List (List C)) (hT : Txt.Tab W) (hTN : 0 < N) (hS : ShAt 111 W M N p s rows) (n hh y : Nat) (k : Int) (hw : s.w = n) (hh' : s.h = hh) (hy : s.y = y) (hrl : rows.length = hh) (hyl : y < hh) (hhl : hh ≤ 60) (hn1 : 1 ≤ n) (hn2 : n ≤ 120) (hR : Zm n rows) (hst : Q3 (0, s.sb, 0) = true) :
  Calls Tryz.prog 208 #[.pointer (some ⟨p, 0, none⟩), .int .i64 k] W (Ran W M N p s (Yg rows n s.sb (Zw k y hh).1 (Zw k y hh).2 y)) := by
 obtain ⟨c0, c1, c3, c4, c5, c9, c10, c11, c19, f⟩ := hS.words
 have hsp := qrp k y hh hyl
 have HSP : Hid (∀ W, Calls Tryz.prog 231 #[.int .i64 k, .int .i64 (y : Int), .int .i64 (hh : Int)] W fun e w' => e = .returned (.tuple #[.int .i64 ((Zw k y hh).1 : Nat), .int .i64 ((Zw k y hh).2 : Nat)]) ∧ W = w') := fun W => qng k y hh (by omega) W
 have hmono : (Zw k y hh).1 ≤ (Zw k y hh).2 := by
  unfold Zw
  split
  ·show y ≤ hh
   omega
  ·split
   ·show 0 ≤ y + 1
    omega
   ·split
    ·show 0 ≤ hh
     omega
    ·exact Nat.le_refl _
 rw [hh'] at c1
 rw [hy] at c4
 have HSW : Hid (s.w = n ∧ s.y = y) := ⟨hw, hy⟩
 have HRR : Hid (Zm n rows) := hR
 have HT : Hid (Txt.Tab W) := hT
 have HS : Hid (ShAt 111 W M N p s rows) := hS
 clear c0 c3 c5 c9 c10 c11 c19 f hT hS hR hw hh' hy
 generalize (Zw k y hh).1 = a at *
 generalize (Zw k y hh).2 = b at *
 go_enter Tryz.func208, Tryz.ntmps208
 go_upto_region 0 with fail
 go_region_held3 (fun w' => w'.cell? ⟨p, 4, none⟩ = some (.int .i64 (y : Int)) ∧ w'.cell? ⟨p, 1, none⟩ = some (.int .i64 (hh : Int))) (go_keep) (first | (go_at_call 231; refine (HSP.out _).mono ?_; rintro e V ⟨rfl, hv⟩; subst hv))
 go_wp2_with fail
 clear c1 c4
 go_loopg [6] hh (fun q i wr => ∃ j : Nat, i = .int .i64 (j : Int) ∧ a ≤ j ∧ j ≤ b ∧ b - j ≤ q ∧ ShAt 111 wr M N p s (Yg rows n s.sb a j y) ∧ Below N W wr ∧ Qy W wr ∧ Txt.Tab wr)
 case atStart => exact ⟨a, rfl, Nat.le_refl _, hmono, by omega, by rw [qjd]; exact HS.out.drew, (Below.refl _ _).drew, Qy.of_below ((Below.refl _ _).drew), Grd.Tab.next HT.out ((Below.refl _ _).drew)⟩
 case round =>
  obtain ⟨j, rfl, hj1, hj2, hq, hSj, hBj, hFj, hTj⟩ := hrel
  by_cases hlt : j < b
  ·have lt1 : (j : Int) < (b : Int) := by omega
   obtain ⟨c0, c1, c3, c4, c5, c9, c10, c11, c19, f⟩ := hSj.words
   rw [HSW.out.1] at c0
   rw [HSW.out.2] at c4
   have HBJ : Hid (Below N W wr) := hBj
   have HFJ : Hid (Qy W wr) := hFj
   have HTJ : Hid (Txt.Tab wr) := hTj
   have HSJ : Hid (ShAt 111 wr M N p s (Yg rows n s.sb a j y)) := hSj
   clear c1 c3 c5 c9 c10 c11 c19 f hSj hBj hFj hTj
   by_cases hjy : j = y
   ·have hb : ((j : Int) != (y : Int)) = false := by rw [bne_eq_false_iff_eq]; omega
    have HJY : Hid (j = y) := hjy
    clear hjy
    go_wp2_with fail
    go_roundg (b - (j + 1))
    case measure => omega
    case rel =>
     refine ⟨j + 1, by go_num, by omega, by omega, by omega, ?_, HBJ.out, HFJ.out, HTJ.out⟩
     have h := HSJ.out
     rw [← HJY.out] at h ⊢
     rw [qn8]
     exact h
   ·have hb : ((j : Int) != (y : Int)) = true := by rw [bne_iff_ne]; omega
    have HCL := qdm wr M N p s _ HTJ.out HSJ.out n j 0 n (by rw [Zn]; omega) _ rfl hn1 hn2 (Vx rows n s.sb a j y HRR.out hst j (by rw [Zn]; omega)).1 (qju n _ hn1 hn2 (Vx rows n s.sb a j y HRR.out hst j (by rw [Zn]; omega)).1 (Vx rows n s.sb a j y HRR.out hst j (by rw [Zn]; omega)).2) hst (by omega) (Nat.le_refl _)
    have hlen := (Vx rows n s.sb a j y HRR.out hst j (by rw [Zn]; omega)).1
    rw [qfh s.sb _ n (by omega), hlen, qmg rows n s.sb a j y (by omega) hj1 hjy] at HCL
    clear hjy hlen
    go_wp2_with fail
    refine HCL.mono ?_
    rintro e V ⟨rfl, hSV, hBV, hFV⟩
    have HSV : Hid _ := hSV
    have HBV : Hid (Below N W V) := HBJ.out.trans hBV
    have HFV : Hid (Qy W V) := HFJ.out.trans hFV
    have HTV : Hid (Txt.Tab V) := HTJ.out.below hBV hTN
    clear hSV hBV hFV HCL
    go_wp2_with fail
    go_roundg (b - (j + 1))
    case measure => omega
    case rel => exact ⟨j + 1, by go_num, by omega, by omega, by omega, HSV.out, HBV.out, HFV.out, HTV.out⟩
  ·have lt1 : ¬ (j : Int) < (b : Int) := by omega
   have hjb : j = b := by omega
   subst hjb
   clear hTj
   go_wp2_with fail
   go_end0
   exact ⟨rfl, hSj, hBj, hFj⟩
end Put
namespace Put
open Grd (C SliceAt Qb Qf z0 Qx flat Qe)
theorem q1c {w V : World} {s : Scr} {cv tv gv : Value} {A : Array Value} {t t' : TypeId} (hb : Below w.heap.size w V) (h0 : V.heap[w.heap.size]? = some (.cells (scrA s cv tv gv) t (0, 0))) (h1 : V.heap[w.heap.size + 1]? = some (.cells A t' (0, 0))) {s' : Scr} {cv' tv' gv' : Value} :
  Below w.heap.size w (V.setRow (w.heap.size + 1) (scrA s' cv' tv' gv')) ∧ Zg (V.setRow (w.heap.size + 1) (scrA s' cv' tv' gv')) (.pointer (some ⟨w.heap.size, 0, none⟩)) ∧ Z5 (V.setRow (w.heap.size + 1) (scrA s' cv' tv' gv')) (.pointer (some ⟨w.heap.size, 0, none⟩)) = scrA s cv tv gv ∧ Zc (V.setRow (w.heap.size + 1) (scrA s' cv' tv' gv')) (.pointer (some ⟨w.heap.size + 1, 0, none⟩)) := by
 have h2 : (V.setRow (w.heap.size + 1) (scrA s' cv' tv' gv')).heap[w.heap.size]? = _ := (setRow_other _ _ _ _ (by omega)).trans h0
 have h3 := setRow_heap V (w.heap.size + 1) A (scrA s' cv' tv' gv') t' _ h1
 exact ⟨below_setRow hb (by omega) _, (Qu h2).1, (Qu h2).2, Za h3 rfl⟩
section
attribute [local go_sem ↓] Jc Jj
attribute [local go_sem] Gj Xw X0
set_option maxHeartbeats 4000000 in
theorem ql1 (s s' : Scr) (cv tv gv : Value) (df : FuncId) (caps : Array Value) (w0 w : World) (hT : Txt.Tab w) (hV : Zh w0 s cv tv gv) (hb0 : Below w0.heap.size w0 w) (hF : Fits s)
  (hCH : ∀ W, Below w.heap.size w W → Calls Tryz.prog 36 #[.agg (scrA s cv tv gv), .int .i64 (Qk s), .func (.func df) #[] caps] W (Made w0 W s' (Qk s))) :
  Calls Tryz.prog 209 #[.agg (scrA s cv tv gv), .func (.func df) #[] caps] w (Made w0 w s' (Qk s)) := by
 obtain ⟨ca, cc, rfl⟩ := hV.c.shape
 obtain ⟨ta, tc, rfl⟩ := hV.t.slice
 obtain ⟨ga, gc, rfl⟩ := hV.g.slice
 have hx0 : ((w.alloc (.cells (scS s ca cc ta tc ga gc) 32)).alloc (.cells zA 32)).heap[w.heap.size]? = some (.cells (scS s ca cc ta tc ga gc) 32 (0, 0)) := (Below.heap_alloc _ _ _ (by simp)).trans (heap_alloc_new _ _)
 have hx1 : ((w.alloc (.cells (scS s ca cc ta tc ga gc) 32)).alloc (.cells zA 32)).heap[w.heap.size + 1]? = some (.cells zA 32 (0, 0)) := heap_alloc2_new w _ _
 have hkb : Below w.heap.size w ((w.alloc (.cells (scS s ca cc ta tc ga gc) 32)).alloc (.cells zA 32)) := ((Below.refl _ _).alloc (Nat.le_refl _) _).alloc (by simp) _
 have hsz : ((w.alloc (.cells (scS s ca cc ta tc ga gc) 32)).alloc (.cells zA 32)).heap.size = w.heap.size + 2 := by simp
 have HX0 : Hid _ := hx0
 have HX1 : Hid _ := hx1
 have HKB : Hid _ := hkb
 have HSZ : Hid _ := hsz
 have HCK : Hid (∀ W, Below w.heap.size w W → Calls Tryz.prog 7 #[.agg (scS s ca cc ta tc ga gc)] W fun e w' => e = .returned (.int .i64 (Qk s)) ∧ Below W.heap.size W w') := fun W hW => Zq s _ _ _ W (Grd.Tab.next hT hW) (hV.next (hb0.trans (hW.mono hb0.size))) hF
 have HCH : Hid (∀ W, Below w.heap.size w W → Calls Tryz.prog 36 #[.agg (scS s ca cc ta tc ga gc), .int .i64 (Qk s), .func (.func df) #[] caps] W (Made w0 W s' (Qk s))) := hCH
 have hM := hb0.size
 clear hx0 hx1 hkb hV hF hT hCH hb0 hsz
 generalize Qk s = er at *
 go_enter Tryz.func209, Tryz.ntmps209
 go_upto_region 1 with fail
 generalize ((w.alloc (.cells (scS s ca cc ta tc ga gc) 32)).alloc (.cells zA 32)) = X at *
 have SK : Hid (∀ w', Below X.heap.size X w' → Below w.heap.size w w' ∧ Zg w' (.pointer (some ⟨w.heap.size, 0, none⟩)) ∧ Z5 w' (.pointer (some ⟨w.heap.size, 0, none⟩)) = (scS s ca cc ta tc ga gc) ∧ Zc w' (.pointer (some ⟨w.heap.size + 1, 0, none⟩))) := fun w' hb => by
  have h0 := Grd.carry HX0.out hb
  exact ⟨HKB.out.trans (hb.mono HKB.out.size), (Qu h0).1, (Qu h0).2, Za (Grd.carry HX1.out hb) rfl⟩
 have b0 : Below X.heap.size X X.drew := (Below.refl _ _).drew
 go_region_held3 (fun w' => Below w.heap.size w w' ∧ Zg w' (.pointer (some ⟨w.heap.size, 0, none⟩)) ∧ Z5 w' (.pointer (some ⟨w.heap.size, 0, none⟩)) = (scS s ca cc ta tc ga gc) ∧ Zc w' (.pointer (some ⟨w.heap.size + 1, 0, none⟩)))
  (first | exact KF.out | exact SK.out _ b2 | exact SK.out _ b1 | exact SK.out _ b0)
  (first | (go_at_call 7; refine (HCK.out _ (SK.out _ b0).1).mono ?_; rintro e V1 ⟨rfl, c1⟩; have b1 := b0.trans (c1.mono b0.size); clear c1) | (go_at_call 36; refine (HCH.out _ (SK.out _ b1).1).mono ?_; rintro e V2 ⟨cv', tv', gv', rfl, hO, c2⟩; have b2 := b1.trans (c2.mono b1.size); obtain ⟨a1, n1, c1, a2, n2, c2', a3, n3, c3, rfl, rfl, rfl⟩ := hO.shapes; have HO : Hid (Qo V2 0 _ s' _ _ _) := hO; clear c2 hO; have HR : Hid (V2.heap[w.heap.size + 1]? = _) := Grd.carry HX1.out b2; have KF : Hid (Below w.heap.size w (V2.setRow (w.heap.size + 1) (scT s' a1 n1 c1 a2 n2 c2' a3 n3 c3)) ∧ Zg (V2.setRow (w.heap.size + 1) (scT s' a1 n1 c1 a2 n2 c2' a3 n3 c3)) (.pointer (some ⟨w.heap.size, 0, none⟩)) ∧ Z5 (V2.setRow (w.heap.size + 1) (scT s' a1 n1 c1 a2 n2 c2' a3 n3 c3)) (.pointer (some ⟨w.heap.size, 0, none⟩)) = (scS s ca cc ta tc ga gc) ∧ Zc (V2.setRow (w.heap.size + 1) (scT s' a1 n1 c1 a2 n2 c2' a3 n3 c3)) (.pointer (some ⟨w.heap.size + 1, 0, none⟩))) := q1c (SK.out _ b2).1 (Grd.carry HX0.out b2) HR.out))
 go_wp2_with fail
 (try simp only [Exit.inBlock, Exit.then])
 refine bodyPost_ret (v := .tuple #[.agg (scT s' a1 n1 c1 a2 n2 c2' a3 n3 c3), .int .i64 er]) ?_ rfl ⟨_, _, _, rfl, ?_, KF.out.1⟩
 ·exact Grd.Qd rfl _ _ (w.heap.size + 1) _ _ _ _ rfl (setRow_heap _ _ _ _ _ _ HR.out) Tryz.underlying32 rfl (by kernel_rfl) _ rfl
 ·exact (Qo.off HO.out HR.out Ql (by omega) fun k hk => setRow_other _ _ _ _ hk).mono (SK.out _ b1).1.size
end
end Put
end Go.Proofs.YtcnblcmpgmgbbaaGreatDoor
