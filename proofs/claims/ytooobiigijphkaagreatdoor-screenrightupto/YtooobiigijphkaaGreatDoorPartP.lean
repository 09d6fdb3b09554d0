/- Parts of the proof, shortened by a program. -/
import Derived.Test.YtooobiigijphkaaGreatDoorPartG
import Derived.Test.YtooobiigijphkaaGreatDoorPartL
import Derived.Test.YtooobiigijphkaaGreatDoorPartE
import Derived.Test.YtooobiigijphkaaGreatDoorPartO
import Derived.Deep.RegionWith
import Derived.Deep.Cut
import Derived.Deep.CutRange
import Derived.Test.YtooobiigijphkaaGreatDoorPartK
import Derived.Test.YtooobiigijphkaaGreatDoorPartM
import Derived.Test.YtooobiigijphkaaGreatDoorPartD
set_option maxHeartbeats 8000000
open List renaming setIfInBounds_toArray → qa, set_cons_zero → qb, set_cons_succ → qc, getD → qy
open Nat renaming le_refl → qd
open Go renaming heap_alloc_new → qf, wpAnyH_ready → qm
open Go.RowKit.Below renaming refl → qr
open Go.AllReadyH renaming nil → qt
open Go.Proofs.Tryz renaming prog → qP
open Go.Act renaming put → qx
namespace Go.Proofs.YtooobiigijphkaaGreatDoor
set_option linter.unusedVariables false
set_option linter.unusedSimpArgs false
set_option maxRecDepth 100000
namespace Stl
theorem q0q : ∀ y : Fin 128,∀ k ∈ looks,(0 ≤ bits .or .i64 (y.1 : Int) k.2.2 ∧ bits .or .i64 (y.1 : Int) k.2.2 ≤ 127) ∧ (0 ≤ bits .andNot .i64 (y.1 : Int) k.2.2 ∧ bits .andNot .i64 (y.1 : Int) k.2.2 ≤ 127) := by decide +kernel
theorem qzu (n y : Int) (k : Int × Int × Int) (hk : k ∈ looks) (h0 : 0 ≤ y) (h1 : y ≤ 127) : 0 ≤ step n y k ∧ step n y k ≤ 127 := by
 have key : ∀ z : Int,0 ≤ z → z ≤ 127 → (0 ≤ bits .or .i64 z k.2.2 ∧ bits .or .i64 z k.2.2 ≤ 127) ∧ (0 ≤ bits .andNot .i64 z k.2.2 ∧ bits .andNot .i64 z k.2.2 ≤ 127) := by
  intro z hz0 hz1;have h := q0q ⟨z.toNat,by omega⟩ k hk
  simp only [show ((z.toNat : Nat) : Int) = z by omega] at h
  exact h
 unfold step;split
 ·split
  ·exact (key _ (key y h0 h1).1.1 (key y h0 h1).1.2).2
  ·exact (key y h0 h1).2
 ·split
  ·exact (key y h0 h1).1
  ·exact ⟨h0,h1⟩
theorem qsb (n : Int) : ∀ (l : List (Int × Int × Int)) (y : Int), (∀ k ∈ l, k ∈ looks) → 0 ≤ y → y ≤ 127 → 0 ≤ l.foldl (step n) y ∧ l.foldl (step n) y ≤ 127
 | [],y,_,h0,h1 => ⟨h0,h1⟩
 | k :: l,y,hl,h0,h1 => by
  have h := qzu n y k (hl k (by simp)) h0 h1
  exact qsb n l _ (fun k hk => hl k (by simp [hk])) h.1 h.2
theorem q0t (n : Int) : 0 ≤ (sc n).1 ∧ (sc n).1 ≤ 16 := by
 unfold sc
 repeat' split
 all_goals (constructor <;> simp <;> omega)
theorem qmw (s : Int × Int × Int) : Q5 s = true ↔ (0 ≤ s.1 ∧ s.1 ≤ 256 ∧ 0 ≤ s.2.1 ∧ s.2.1 ≤ 256 ∧ 0 ≤ s.2.2 ∧ s.2.2 ≤ 127) := by simp [Q5]
theorem quu (s : Int × Int × Int) (n : Int) (h : Q5 s = true) : Q5 (one s n) = true := by
 rw [qmw] at h ⊢;unfold one;split
 ·simp
 ·have h1 := q0t n
  have h2 := q0t (n - 10);have h3 := qsb n looks s.2.2 (fun _ h => h) h.2.2.2.2.1 h.2.2.2.2.2
  refine ⟨?_,?_,?_,?_,h3.1,h3.2⟩ <;> (dsimp only;split <;> omega)
theorem qua (s : Int × Int × Int) (a n : Int) (h : Q5 s = true) : Q5 (lng s a n) = true := by
 rw [qmw] at h ⊢;unfold lng;split
 ·exact h
 ·split
  ·exact ⟨by dsimp only;omega,by dsimp only;omega,h.2.2⟩
  ·exact ⟨h.1,h.2.1,by dsimp only;omega,by dsimp only;omega,h.2.2.2.2⟩
theorem F9 : ∀ (m : Nat) (l : List Int) (s : Int × Int × Int), l.length ≤ m → Q5 s = true → Q5 (Jk s l) = true
 | _,[],s,_,h => h
 | 0,_ :: _,_,hl,_ => by simp at hl
 | m + 1,a :: l,s,hl,h => by
  by_cases hg : isLg (a :: l) = true
  ·rw [qej s _ hg]
   exact F9 m _ _ (by simp at hl ⊢;omega) (qua _ _ _ h)
  ·rw [qf9 s a l (by simpa using hg)]
   exact F9 m _ _ (by simp at hl ⊢;omega) (quu _ _ h)
theorem qjs (l : List Int) (s : Int × Int × Int) (h : Q5 s = true) : Q5 (Yo s l) = true := by
 unfold Yo;split
 ·rfl
 ·exact F9 _ l s (qd _) h
end Stl
open Go.ChangeShapes Go.WideShapes Go.ChangeAt Go.RowKit
namespace Put
open Grd (C SliceAt Qb Qf z0 Q0 flat Qe Y5 Js)
open Sty (Q5)
open Txt (wd)
def Fz (look : Int × Int × Int) (row : List C) (x : Nat) (r : Int) : List C := Grd.Zu (Grd.Va look row x r)
theorem qmv (look : Int × Int × Int) (row : List C) (x : Nat) (r : Int) : (Fz look row x r).length = row.length := by
 unfold Fz;rw [Grd.Ka,Grd.qk3]
def Jr (look : Int × Int × Int) (r : Int) : List C := if wd r = 2 then [(r,look),(0,look)] else [(r,look)]
theorem qlk (look : Int × Int × Int) (row : List C) (x k : Nat) (r : Int) (hk : wd r = (k : Int)) (hk1 : k = 1 ∨ k = 2) (hx : x + k ≤ row.length) : Grd.Va look row x r = ovR row (Jr look r) x (x + k) ∧ (Jr look r).length = k := by
 rcases hk1 with rfl | rfl
 ·have hc : Jr look r = [(r, look)] := by unfold Jr; rw [if_neg (by rw [hk]; decide)]
  have hw : Grd.Va look row x r = row.set x (r,look) := by unfold Grd.Va;rw [if_neg (by rw [hk];decide),if_neg (by rw [hk];decide)]
  rw [hc,hw];refine ⟨Grd.Ko _ _ (by rw [List.length_set,Ff row [(r,look)] x (x + 1) rfl hx]) fun j hj => ?_,rfl⟩
  rw [List.length_set] at hj;rw [qjk row [(r,look)] x (x + 1) rfl hx,Grd.G6 _ _ _ _ (by omega)]
  by_cases h1 : j < x
  ·rw [if_neg (by omega),if_pos h1]
  ·rw [if_neg h1]
   by_cases h2 : j = x
   ·subst h2
    rw [if_pos rfl,if_pos (by omega),Nat.sub_self]
    rfl
   ·rw [if_neg h2,if_neg (by omega)]
 ·have hc : Jr look r = [(r, look), (0, look)] := by unfold Jr; rw [if_pos (by rw [hk]; decide)]
  have hw : Grd.Va look row x r = (row.set x (r,look)).set (x + 1) (0,look) := by unfold Grd.Va;rw [if_neg (by rw [hk];decide),if_pos (by rw [hk];decide)]
  rw [hc,hw];refine ⟨Grd.Ko _ _ (by rw [List.length_set,List.length_set,Ff row [(r,look),(0,look)] x (x + 2) rfl hx]) fun j hj => ?_,rfl⟩
  rw [List.length_set,List.length_set] at hj;rw [qjk row [(r,look),(0,look)] x (x + 2) rfl hx,Grd.G6 _ _ _ _ (by rw [List.length_set];omega),Grd.G6 _ _ _ _ (by omega)]
  by_cases h1 : j < x
  ·rw [if_neg (by omega),if_neg (by omega),if_pos h1]
  ·rw [if_neg h1]
   by_cases h2 : j = x
   ·subst h2
    rw [if_neg (by omega),if_pos rfl,if_pos (by omega),Nat.sub_self]
    rfl
   ·by_cases h3 : j = x + 1
    ·subst h3
     rw [if_pos rfl,if_pos (by omega),show x + 1 - x = 1 by omega]
     rfl
    ·rw [if_neg h3,if_neg h2,if_neg (by omega)]
theorem qqy (r : Int) (h : wd r ≠ 0) : ∃ k : Nat,wd r = (k : Int) ∧ (k = 1 ∨ k = 2) := by
 have h1 := Grd.qis r;have h2 := (Txt.Vo r).2;refine ⟨(wd r).toNat,by omega,by omega⟩
set_option linter.unusedVariables false in
theorem qvk (W : World) (p Bp Bc rb ro c x k g : Nat) (row mid : List C) (hp : W.cell? ⟨Bp, 0, none⟩ = some (.pointer (some ⟨p, 0, none⟩))) (hx : W.cell? ⟨p, 3, none⟩ = some (.int .i64 (x : Int))) (hBc : W.cell? ⟨Bc, 0, none⟩ = some (.slice (some ⟨g, 0, none⟩) k 2)) (hM : Qb W g 0 mid) (hk : mid.length = k) (hC : Qb W rb ro row) (hc : row.length ≤ c) (hxk : x + k ≤ row.length) (hk1 : 1 ≤ k) (hl : row.length ≤ 120) (hcc : (x + k) < c) :
  Calls qP 116 #[.slice (some ⟨rb,ro,none⟩) row.length c,.pointer (some ⟨Bp,0,none⟩),.pointer (some ⟨Bc,0,none⟩)] W fun e W' => ∃ v',e = .returned v' ∧ W'.ownsRow W.heap.size 56 4 v' row.length (flat (ovR row mid x (x + k))) ∧ Below W.heap.size W W' := by
 have SK : Hid (∀ V,Below W.heap.size W V → V.cell? ⟨Bp,0,none⟩ = some (.pointer (some ⟨p,0,none⟩)) ∧ V.cell? ⟨p,3,none⟩ = some (.int .i64 (x : Int)) ∧ V.cell? ⟨Bc,0,none⟩ = some (.slice (some ⟨g,0,none⟩) k 2)) := fun V h => ⟨Qa h hp,Qa h hx,Qa h hBc⟩
 have hwr : IntKind.i64.wrap ((x : Int) + (k : Int)) = (x : Int) + (k : Int) := Zl _ (by omega) (by omega)
 have HMC : Hid (Qb W g 0 mid) := hM;have HCC : Hid (Qb W rb ro row) := hC;obtain ⟨L,hL⟩ : ∃ L,L = row.length := ⟨_,rfl⟩;obtain ⟨m,hm⟩ : ∃ m,m = L - (x + k) := ⟨_,rfl⟩;have HCN : Hid (∀ (V : World),Below W.heap.size W V → Calls qP 110 #[.slice (some ⟨V.heap.size,0,none⟩) 3 3] (V.alloc (.cells #[.slice (some ⟨rb,ro,none⟩) x c,.slice (some ⟨g,0,none⟩) k 2,.slice (some ⟨rb,ro + (x + k) * 4,none⟩) m (c - (x + k))] 22)) fun e w' => ∃ v',e = .returned v' ∧ w'.ownsRow (V.alloc (.cells #[.slice (some ⟨rb,ro,none⟩) x c,.slice (some ⟨g,0,none⟩) k 2,.slice (some ⟨rb,ro + (x + k) * 4,none⟩) m (c - (x + k))] 22)).heap.size 56 4 v' L (flat (ovR row mid x (x + k))) ∧ Below (V.alloc (.cells #[.slice (some ⟨rb,ro,none⟩) x c,.slice (some ⟨g,0,none⟩) k 2,.slice (some ⟨rb,ro + (x + k) * 4,none⟩) m (c - (x + k))] 22)).heap.size (V.alloc (.cells #[.slice (some ⟨rb,ro,none⟩) x c,.slice (some ⟨g,0,none⟩) k 2,.slice (some ⟨rb,ro + (x + k) * 4,none⟩) m (c - (x + k))] 22)) w') := fun V hV => by
  have key := qry V rb ro g 0 c x (x + k) k 2 L row mid (HCC.out.below hV) (HMC.out.below hV) hk rfl hL.symm (by omega) (by omega) (ro + (x + k) * 4) (c - (x + k)) (.inl rfl)
  rw [← hm] at key;exact key
 have b0 : Below W.heap.size W W.drew := (qr _ _).drew;have hx1 : (x : Int) ≤ (c : Int) := by omega
 have hx2 : (x : Int) ≤ (L : Int) := by omega
 have hx3 : (x : Int) + (k : Int) ≤ (L : Int) := by omega
 have hx4 : (0 : Int) ≤ (x : Int) + (k : Int) := by omega
 have hx5 : ((x : Int) + (k : Int)).toNat = x + k := by omega
 have hcI : (x : Int) + (k : Int) < (c : Int) := by omega
 have hcN : ¬ c = (x + k) := by omega
 have hkk : L - (x + k) = m := hm.symm;rw [← hL];clear hp hx hBc hM hk hC hc hxk hk1 hl hcc hL hm HCC HMC;generalize ovR row mid x (x + k) = res at *;go_enter Tryz.func116,Tryz.ntmps116;go_upto_region 1 with fail
 have q2 := b0.alloc b0.size (.cells #[.slice (some ⟨rb,ro,none⟩) x c,.slice (some ⟨g,0,none⟩) k 2,.slice (some ⟨rb,ro + (x + k) * 4,none⟩) m (c - (x + k))] 22);have HC1 := HCN.out W.drew b0
 go_region_held3 (fun w' => w'.cell? ⟨Bp, 0, none⟩ = some (.pointer (some ⟨p, 0, none⟩)) ∧ w'.cell? ⟨p, 3, none⟩ = some (.int .i64 (x : Int)) ∧ w'.cell? ⟨Bc, 0, none⟩ = some (.slice (some ⟨g, 0, none⟩) k 2))
  (first | exact SK.out _ q3 | exact SK.out _ q2 | exact SK.out _ b0)
  (first
   | (go_at_call 110;(try rw [hkk]);refine HC1.mono ?_;rintro e V2 ⟨v',rfl,hO,b2⟩;have q3 : Below W.heap.size W V2 := q2.trans (b2.mono q2.size);have HFI : Hid _ := And.intro (Grd.Q4 hO q2.size) q3;obtain ⟨za,zc,hzv⟩ := Qz hO;subst hzv))
 all_goals go_wp2_with fail
 all_goals go_ret
 all_goals exact ⟨_,rfl,HFI.out.1,HFI.out.2⟩
set_option linter.unusedVariables false in
theorem qo4 (W : World) (p Bp Bc rb ro c x k g : Nat) (row mid : List C) (hp : W.cell? ⟨Bp, 0, none⟩ = some (.pointer (some ⟨p, 0, none⟩))) (hx : W.cell? ⟨p, 3, none⟩ = some (.int .i64 (x : Int))) (hBc : W.cell? ⟨Bc, 0, none⟩ = some (.slice (some ⟨g, 0, none⟩) k 2)) (hM : Qb W g 0 mid) (hk : mid.length = k) (hC : Qb W rb ro row) (hc : row.length ≤ c) (hxk : x + k ≤ row.length) (hk1 : 1 ≤ k) (hl : row.length ≤ 120) (hcc : ¬ (x + k) < c) :
  Calls qP 116 #[.slice (some ⟨rb,ro,none⟩) row.length c,.pointer (some ⟨Bp,0,none⟩),.pointer (some ⟨Bc,0,none⟩)] W fun e W' => ∃ v',e = .returned v' ∧ W'.ownsRow W.heap.size 56 4 v' row.length (flat (ovR row mid x (x + k))) ∧ Below W.heap.size W W' := by
 have SK : Hid (∀ V,Below W.heap.size W V → V.cell? ⟨Bp,0,none⟩ = some (.pointer (some ⟨p,0,none⟩)) ∧ V.cell? ⟨p,3,none⟩ = some (.int .i64 (x : Int)) ∧ V.cell? ⟨Bc,0,none⟩ = some (.slice (some ⟨g,0,none⟩) k 2)) := fun V h => ⟨Qa h hp,Qa h hx,Qa h hBc⟩
 have hwr : IntKind.i64.wrap ((x : Int) + (k : Int)) = (x : Int) + (k : Int) := Zl _ (by omega) (by omega)
 have HMC : Hid (Qb W g 0 mid) := hM;have HCC : Hid (Qb W rb ro row) := hC;obtain ⟨L,hL⟩ : ∃ L,L = row.length := ⟨_,rfl⟩;have hbc : (x + k) = c := by omega
 have hbL : (x + k) = L := by omega
 subst hbc;subst hbL;have HCN : Hid (∀ (V : World),Below W.heap.size W V → Calls qP 110 #[.slice (some ⟨V.heap.size,0,none⟩) 3 3] (V.alloc (.cells #[.slice (some ⟨rb,ro,none⟩) x (x + k),.slice (some ⟨g,0,none⟩) k 2,.slice (some ⟨rb,ro,none⟩) 0 0] 22)) fun e w' => ∃ v',e = .returned v' ∧ w'.ownsRow (V.alloc (.cells #[.slice (some ⟨rb,ro,none⟩) x (x + k),.slice (some ⟨g,0,none⟩) k 2,.slice (some ⟨rb,ro,none⟩) 0 0] 22)).heap.size 56 4 v' (x + k) (flat (ovR row mid x (x + k))) ∧ Below (V.alloc (.cells #[.slice (some ⟨rb,ro,none⟩) x (x + k),.slice (some ⟨g,0,none⟩) k 2,.slice (some ⟨rb,ro,none⟩) 0 0] 22)).heap.size (V.alloc (.cells #[.slice (some ⟨rb,ro,none⟩) x (x + k),.slice (some ⟨g,0,none⟩) k 2,.slice (some ⟨rb,ro,none⟩) 0 0] 22)) w') := fun V hV => by
  have key := qry V rb ro g 0 (x + k) x (x + k) k 2 (x + k) row mid (HCC.out.below hV) (HMC.out.below hV) hk rfl hL.symm (by omega) (by omega) ro 0 (.inr rfl)
  rw [Nat.sub_self] at key;exact key
 have b0 : Below W.heap.size W W.drew := (qr _ _).drew;have hx1 : (x : Int) ≤ (x : Int) + (k : Int) := by omega
 have hx2 : (x : Int) ≤ (x : Int) + (k : Int) := by omega
 have hx3 : (x : Int) + (k : Int) ≤ (x : Int) + (k : Int) := by omega
 have hx4 : (0 : Int) ≤ (x : Int) + (k : Int) := by omega
 have hx5 : ((x : Int) + (k : Int)).toNat = x + k := by omega
 have hcI : ¬ (x : Int) + (k : Int) < (x : Int) + (k : Int) := by omega
 have hcN : (x + k) = (x + k) := rfl;have hkk : (x + k) - (x + k) = 0 := Nat.sub_self _;rw [← hL];clear hp hx hBc hM hk hC hc hxk hk1 hl hcc hL HCC HMC;generalize ovR row mid x (x + k) = res at *;go_enter Tryz.func116,Tryz.ntmps116;go_upto_region 1 with fail
 have q2 := b0.alloc b0.size (.cells #[.slice (some ⟨rb,ro,none⟩) x (x + k),.slice (some ⟨g,0,none⟩) k 2,.slice (some ⟨rb,ro,none⟩) 0 0] 22);have HC1 := HCN.out W.drew b0
 go_region_held3 (fun w' => w'.cell? ⟨Bp, 0, none⟩ = some (.pointer (some ⟨p, 0, none⟩)) ∧ w'.cell? ⟨p, 3, none⟩ = some (.int .i64 (x : Int)) ∧ w'.cell? ⟨Bc, 0, none⟩ = some (.slice (some ⟨g, 0, none⟩) k 2))
  (first | exact SK.out _ q3 | exact SK.out _ q2 | exact SK.out _ b0)
  (first
   | (go_at_call 110;(try rw [hkk]);refine HC1.mono ?_;rintro e V2 ⟨v',rfl,hO,b2⟩;have q3 : Below W.heap.size W V2 := q2.trans (b2.mono q2.size);have HFI : Hid _ := And.intro (Grd.Q4 hO q2.size) q3;obtain ⟨za,zc,hzv⟩ := Qz hO;subst hzv))
 all_goals go_wp2_with fail
 all_goals go_ret
 all_goals exact ⟨_,rfl,HFI.out.1,HFI.out.2⟩
theorem qp1 (W : World) (p Bp Bc rb ro c x k g : Nat) (row mid : List C) (hp : W.cell? ⟨Bp, 0, none⟩ = some (.pointer (some ⟨p, 0, none⟩))) (hx : W.cell? ⟨p, 3, none⟩ = some (.int .i64 (x : Int))) (hBc : W.cell? ⟨Bc, 0, none⟩ = some (.slice (some ⟨g, 0, none⟩) k 2)) (hM : Qb W g 0 mid) (hk : mid.length = k) (hC : Qb W rb ro row) (hc : row.length ≤ c) (hxk : x + k ≤ row.length) (hk1 : 1 ≤ k) (hl : row.length ≤ 120) :
  Calls qP 116 #[.slice (some ⟨rb,ro,none⟩) row.length c,.pointer (some ⟨Bp,0,none⟩),.pointer (some ⟨Bc,0,none⟩)] W fun e W' => ∃ v',e = .returned v' ∧ W'.ownsRow W.heap.size 56 4 v' row.length (flat (ovR row mid x (x + k))) ∧ Below W.heap.size W W' := by
 by_cases hcc : (x + k) < c
 ·exact qvk W p Bp Bc rb ro c x k g row mid hp hx hBc hM hk hC hc hxk hk1 hl hcc
 ·exact qo4 W p Bp Bc rb ro c x k g row mid hp hx hBc hM hk hC hc hxk hk1 hl hcc
theorem J3 {W : World} {R : Nat} {v : Value} {t : TypeId} (h : W.heap[R]? = some (.cells #[v] t (0,0))) : W.cell? ⟨R,0,none⟩ = some v := by simp [World.cell?,h]
theorem qvn : qcw 83 := by unfold qcw;decide
theorem qlu : Plain 116 := by
 intro args W
 kernel_rfl
theorem Ua {Y V : World} {a1 a2 a3 a4 : Addr} {v1 v2 v3 v4 : Value} (b : Below Y.heap.size Y V) (e : Y.cell? a1 = some v1 ∧ Y.cell? a2 = some v2 ∧ Y.cell? a3 = some v3 ∧ Y.cell? a4 = some v4) : V.cell? a1 = some v1 ∧ V.cell? a2 = some v2 ∧ V.cell? a3 = some v3 ∧ V.cell? a4 = some v4 := ⟨Qa b e.1,Qa b e.2.1,Qa b e.2.2.1,Qa b e.2.2.2⟩
theorem Y6 (o : Obj) {X Y : World} (_ : Below X.heap.size X Y) : Below Y.heap.size Y (Y.alloc o) := (qr _ _).alloc (qd _) _
theorem qdt (o : Obj) {Y : World} {B : Nat} {u : Obj} (h : Y.heap[B]? = some u) : (Y.alloc o).heap[B]? = some u := (Below.heap_alloc Y o _ (Qc h)).trans h
theorem qbq {X Y : World} (_ : Below X.heap.size X Y) {o : Obj} (h : (Y.alloc o).heap[Y.heap.size]? = some o) : (Y.alloc o).heap[Y.heap.size]? = some o := h
def q08 (X V : World) (Bc g k : Nat) (mid : List C) : Prop := X.heap.size ≤ Bc ∧ V.heap[Bc]? = some (.cells #[.slice (some ⟨g,0,none⟩) k 2] 22 (0,0)) ∧ Qb V g 0 mid ∧ Below X.heap.size X V
theorem off4 {Z : World} {Bc P1 P2 i1 i2 i3 i4 : Nat} {v u : Value} {v1 v2 v3 v4 : Value} (_ : Z.heap[Bc]? = some (.cells #[u] 22 (0,0))) (e : Z.cell? ⟨P1,i1,none⟩ = some v1 ∧ Z.cell? ⟨P2,i2,none⟩ = some v2 ∧ Z.cell? ⟨P2,i3,none⟩ = some v3 ∧ Z.cell? ⟨P2,i4,none⟩ = some v4) (n1 : Bc ≠ P1) (n2 : Bc ≠ P2) : (Z.setCell ⟨Bc,0,none⟩ v).cell? ⟨P1,i1,none⟩ = some v1 ∧ (Z.setCell ⟨Bc,0,none⟩ v).cell? ⟨P2,i2,none⟩ = some v2 ∧ (Z.setCell ⟨Bc,0,none⟩ v).cell? ⟨P2,i3,none⟩ = some v3 ∧ (Z.setCell ⟨Bc,0,none⟩ v).cell? ⟨P2,i4,none⟩ = some v4 := ⟨(Yd n1.symm).trans e.1,(Yd n2.symm).trans e.2.1,(Yd n2.symm).trans e.2.2.1,(Yd n2.symm).trans e.2.2.2⟩
theorem U6 {X Z : World} {Bc g k : Nat} {u : Value} {mid : List C} {A : Array Value} (HM : ∀ (V : World) (g : Nat),V.heap[g]? = some (.cells A 56 (0,0)) → Qb V g 0 mid) (hb : Z.heap[Bc]? = some (.cells #[u] 22 (0,0))) (hg : Z.heap[g]? = some (.cells A 56 (0,0))) (kx : Below X.heap.size X Z) (lb : X.heap.size ≤ Bc) : q08 X (Z.setCell ⟨Bc,0,none⟩ (.slice (some ⟨g,0,none⟩) k 2)) Bc g k mid := by
 have hne : g ≠ Bc := by
  intro e;rw [e,hb] at hg;injection hg with hg
  injection hg with _ hg _
  exact absurd hg (by decide)
 exact ⟨lb,X9 hb rfl,HM _ _ ((Zf hne).trans hg),kx.setCell lb _⟩
set_option linter.unusedSimpArgs false in
theorem qjb (W : World) (M N p : Nat) (s : Scr) (rows : List (List C)) (hT : Txt.Tab W) (hSt : ShAt 110 W M N p s rows) (r : Int)
  (n x y : Nat) (hy : y < rows.length) (row : List C) (hrow : rows.getD y [] = row) (_hw : s.w = n) (hx : s.x = x) (hyy : s.y = y) (hxn : x < n) (hrn : row.length = n) (hz : Qf n 1 row = 0) (hst : Q5 (s.sf,s.sb,s.sx) = true) (hr : wd r ≠ 0) (hfit : wd r ≤ (n : Int) - x) :
  Calls qP 67 #[.pointer (some ⟨p,0,none⟩),.int .i32 r] W (Ran W M N p s (rows.set y (Fz (s.sf,s.sb,s.sx) row x r))) := by
 obtain ⟨cv,tv,gv,rv,gvs,vs,hS⟩ := hSt;obtain ⟨k,hk,hk1⟩ := qqy r hr;have hrr : Grd.Q8 row := by
  have h := ((Grd.Zd n 1 row).1 hz).2.2 0 (by omega)
  have e : Grd.rowAt n row 0 = row := by unfold Grd.rowAt;rw [Nat.zero_mul,List.drop_zero,← hrn,List.take_length]
  rw [e] at h;exact h
 have hn2 : n ≤ 120 := by
  obtain ⟨h1,-,-⟩ := (Grd.Zd n 1 row).1 hz;have h2 : 1 ≤ (n : Int) ∧ (n : Int) ≤ 120 := by simpa [Grd.Zk] using h1
  omega
 have hxk : x + k ≤ row.length := by omega
 obtain ⟨hov,hml⟩ := qlk (s.sf,s.sb,s.sx) row x k r hk hk1 hxk;have hal : Grd.Alike (ovR row (Jr (s.sf,s.sb,s.sx) r) x (x + k)) := by
  rw [← hov];exact (Grd.qiq _ row x r hrr.1 hst (by omega)).alike
 have hlen := Ff row (Jr (s.sf,s.sb,s.sx) r) x (x + k) (by rw [hml]) hxk
 have kb : Below W.heap.size W (W.alloc (.cells #[.pointer (some ⟨p,0,none⟩)] 83)) := (qr _ _).alloc (qd _) _;have hx0 := qf W (.cells #[.pointer (some ⟨p,0,none⟩)] 83);have HA : Hid (∀ X Bc g,Below W.heap.size W X → X.cell? ⟨W.heap.size,0,none⟩ = some (.pointer (some ⟨p,0,none⟩)) → X.cell? ⟨Bc,0,none⟩ = some (.slice (some ⟨g,0,none⟩) k 2) → Qb X g 0 (Jr (s.sf,s.sb,s.sx) r) → Calls qP 113 #[.pointer (some ⟨p,0,none⟩),.int .i64 (y : Int),.func (.func 116) #[] #[.pointer (some ⟨W.heap.size,0,none⟩),.pointer (some ⟨Bc,0,none⟩)]] X (Ran X M N p s (rows.set y (Fz (s.sf,s.sb,s.sx) row x r)))) := fun X Bc g hX q1 q2 hM => by
  unfold Fz;rw [hov];refine qd4 X M N p s rows cv tv gv rv gvs vs (hS.next hX) (Grd.Tab.next hT hX) y hy _ qlu _ _ (fun W1 hW1 => ?_) hal (by rw [hlen];omega)
  have hS1 := (hS.next hX).next hW1;have hri := hS1.rin.2 y hy;rw [hrow] at hri;obtain ⟨⟨-,-,-,c3,-⟩,-,-⟩ := Qr hS1.blk;rw [hx] at c3
  rcases hri with ⟨he,-⟩ | ⟨hne,bb,o,c,hv,hc1,hc2,hC,-⟩
  ·have h5 := congrArg List.length he
   rw [List.length_nil] at h5;omega
  ·rw [hv]
   refine (qp1 W1 p W.heap.size Bc bb o c x k g row (Jr (s.sf,s.sb,s.sx) r) (Qa hW1 q1) c3 (Qa hW1 q2) (hM.below hW1) hml hC hc1 hxk (by omega) (by omega)).mono ?_
   rintro e W2 ⟨v',rfl,hO,b2⟩;have hO2 : W2.ownsRow W1.heap.size 56 4 v' (ovR row (Jr (s.sf,s.sb,s.sx) r) x (x + k)).length (flat (ovR row (Jr (s.sf,s.sb,s.sx) r) x (x + k))) := by rw [hlen];exact hO
   rcases Fg.of hO2 with ⟨he,-⟩ | ⟨g',cap,rest,⟨t,ht⟩,hv',hg1,hg2,hg3,hg4⟩
   ·have h5 := congrArg List.length he
    rw [hlen,List.length_nil] at h5;omega
   ·subst ht
    rw [hv'];exact ⟨g',cap,rest,rfl,hg1,hg2,hg3,hg4,b2⟩
 have HWD : Hid (∀ V,Txt.Tab V → Calls qP 18 #[.int .i32 r] V fun e w' => e = .returned (.int .i64 (k : Int)) ∧ Below V.heap.size V w') := fun V hV => by
  rw [← hk];exact Txt.Jz r V hV
 have HMC : Hid (∀ (V : World) (g : Nat),V.heap[g]? = some (.cells #[.int .i32 r,.int .i64 s.sf,.int .i64 s.sb,.int .i64 s.sx,.int .i32 0,.int .i64 s.sf,.int .i64 s.sb,.int .i64 s.sx] 56 (0,0)) → Qb V g 0 (Jr (s.sf,s.sb,s.sx) r)) := fun V g h j hj => by
  have hj2 : j = 0 ∨ (j = 1 ∧ wd r = 2) := by
   rw [hml] at hj;omega
  have e : ∀ i v,(#[.int .i32 r,.int .i64 s.sf,.int .i64 s.sb,.int .i64 s.sx,.int .i32 0,.int .i64 s.sf,.int .i64 s.sb,.int .i64 s.sx] : Array Value)[i]? = some v → V.cell? ⟨g,i,none⟩ = some v := fun i v hv => by
   unfold World.cell?;rw [h];exact hv
  rcases hj2 with rfl | ⟨rfl,h2⟩
  ·have e0 : (Jr (s.sf,s.sb,s.sx) r).getD 0 z0 = (r,s.sf,s.sb,s.sx) := by
    unfold Jr;split <;> rfl
   rw [e0];exact ⟨e _ _ rfl,e _ _ rfl,e _ _ rfl,e _ _ rfl⟩
  ·have e0 : (Jr (s.sf,s.sb,s.sx) r).getD 1 z0 = (0,s.sf,s.sb,s.sx) := by
    unfold Jr;rw [if_pos h2]
    rfl
   rw [e0];exact ⟨e _ _ rfl,e _ _ rfl,e _ _ rfl,e _ _ rfl⟩
 have TX : Hid (∀ V,Below (W.alloc (.cells #[.pointer (some ⟨p,0,none⟩)] 83)).heap.size (W.alloc (.cells #[.pointer (some ⟨p,0,none⟩)] 83)) V → Txt.Tab V) := fun V hV => Grd.Tab.next (Grd.Tab.next hT kb) hV
 have HX0 : Hid _ := hx0;have HKB : Hid _ := kb;have hNW : N ≤ W.heap.size := by have := hS.lo;have := Qc hS.blk;omega
 obtain ⟨⟨-,-,-,-,c4,-,c6,c7,c8,-⟩,-,-⟩ := Qr (hS.next kb).blk;rw [hyy] at c4;have q1 := J3 hx0;have hk2 : (k : Int) ≤ 2 := by omega
 have hk0 : (0 : Int) ≤ (k : Int) := by omega
 clear hS hT hrow hx hyy hz hst hr hfit kb hx0 hrr hlen hal hov hml hk hk1 hxk;go_enter Tryz.func67,Tryz.ntmps67;go_upto_region 1 with fail
 generalize W.alloc (.cells #[.pointer (some ⟨p,0,none⟩)] 83) = X at *;go_cut [4] from 4 to 21 (fun c wx => ∃ Bc g,c = .pointer (some ⟨Bc,0,none⟩) ∧ q08 X wx Bc g k (Jr (s.sf,s.sb,s.sx) r))
 case first =>
  refine wp_region_noPanic ?_;have e0 : (fun w' => w'.cell? ⟨W.heap.size,0,none⟩ = some (.pointer (some ⟨p,0,none⟩)) ∧ w'.cell? ⟨p,6,none⟩ = some (.int .i64 s.sf) ∧ w'.cell? ⟨p,7,none⟩ = some (.int .i64 s.sb) ∧ w'.cell? ⟨p,8,none⟩ = some (.int .i64 s.sx)) X.drew := ⟨q1,c6,c7,c8⟩
  have k0 : Below X.heap.size X X.drew := (qr _ _).drew;have l1 := World.block_lt_of_cell? X _ q1;have l2 := World.block_lt_of_cell? X _ c6;clear q1 c4 c6 c7 c8;refine wp_region_held_drew (S := (fun w' => w'.cell? ⟨W.heap.size,0,none⟩ = some (.pointer (some ⟨p,0,none⟩)) ∧ w'.cell? ⟨p,6,none⟩ = some (.int .i64 s.sf) ∧ w'.cell? ⟨p,7,none⟩ = some (.int .i64 s.sb) ∧ w'.cell? ⟨p,8,none⟩ = some (.int .i64 s.sx))) (by kernel_rfl) e0 (fun hHeld => ?_)
  generalize X.drew = Z0 at *;refine wpAnyH_take (i := 0) (oi := _) (v := ?_) rfl (by kernel_rfl) (by kernel_rfl) (by kernel_rfl) (fun _ _ _ h => h) (Or.inl ⟨by rfl,?_⟩) hHeld ?_
  rotate_left
  ·intro w hSw
   (try dsimp only at hSw)
   go_simp
   (try with_reducible rfl)
  (try simp only [qx,qa,qb,qc])
  refine wpAnyH_take (i := 1) (oi := _) (v := ?_) rfl (by kernel_rfl) (by kernel_rfl) (by kernel_rfl) (fun _ _ _ h => h) (Or.inl ⟨by rfl,?_⟩) hHeld ?_
  rotate_left
  ·intro w hSw
   (try dsimp only at hSw)
   go_simp
   (try with_reducible rfl)
  (try simp only [qx,qa,qb,qc])
  refine wpAnyH_take (i := 2) (oi := _) (v := ?_) rfl (by kernel_rfl) (by kernel_rfl) (by kernel_rfl) (fun _ _ _ h => h) (Or.inl ⟨by rfl,?_⟩) hHeld ?_
  rotate_left
  ·intro w hSw
   (try dsimp only at hSw)
   go_simp
   (try with_reducible rfl)
  (try simp only [qx,qa,qb,qc])
  refine wpAnyH_take (i := 3) (oi := _) (v := ?_) rfl (by kernel_rfl) (by kernel_rfl) (by kernel_rfl) (fun _ _ _ h => h) (Or.inl ⟨by rfl,?_⟩) hHeld ?_
  rotate_left
  ·intro w hSw
   (try dsimp only at hSw)
   go_simp
   (try with_reducible rfl)
  (try simp only [qx,qa,qb,qc])
  refine wpAnyH_take (i := 4) (oi := _) (v := ?_) rfl (by kernel_rfl) (by kernel_rfl) (by kernel_rfl) (fun _ _ _ h => h) (Or.inl ⟨by rfl,?_⟩) hHeld ?_
  rotate_left
  ·intro w hSw
   (try dsimp only at hSw)
   go_simp
   (try with_reducible rfl)
  (try simp only [qx,qa,qb,qc])
  refine wpAnyH_take (i := 5) (oi := _) (v := ?_) rfl (by kernel_rfl) (by kernel_rfl) (by kernel_rfl) (fun _ _ _ h => h) (Or.inl ⟨by rfl,?_⟩) hHeld ?_
  rotate_left
  ·intro w hSw
   (try dsimp only at hSw)
   go_simp
   (try with_reducible rfl)
  (try simp only [qx,qa,qb,qc])
  refine wpAnyH_take (i := 6) (oi := _) (v := ?_) rfl (by kernel_rfl) (by kernel_rfl) (by kernel_rfl) (fun _ _ _ h => h) (Or.inl ⟨by rfl,?_⟩) hHeld ?_
  rotate_left
  ·intro w hSw
   (try dsimp only at hSw)
   go_simp
   (try with_reducible rfl)
  (try simp only [qx,qa,qb,qc])
  refine wpAnyH_take (i := 7) (oi := _) (v := ?_) rfl (by kernel_rfl) (by kernel_rfl) (by kernel_rfl) (fun _ _ _ h => h) (Or.inl ⟨by rfl,?_⟩) hHeld ?_
  rotate_left
  ·intro w hSw
   (try dsimp only at hSw)
   go_simp
   (try with_reducible rfl)
  (try simp only [qx,qa,qb,qc])
  refine wpAnyH_take (i := 8) (oi := _) (v := ?_) rfl (by kernel_rfl) (by kernel_rfl) (by kernel_rfl) (fun _ _ _ h => h) (Or.inl ⟨by rfl,?_⟩) hHeld ?_
  rotate_left
  ·intro w hSw
   (try dsimp only at hSw)
   go_simp
   (try with_reducible rfl)
  (try simp only [qx,qa,qb,qc])
  refine wpAnyH_take (i := 9) (oi := _) (v := ?_) rfl (by kernel_rfl) (by kernel_rfl) (by kernel_rfl) (fun _ _ _ h => h) (Or.inl ⟨by rfl,?_⟩) hHeld ?_
  rotate_left
  ·intro w hSw
   (try dsimp only at hSw)
   go_simp
   (try with_reducible rfl)
  (try simp only [qx,qa,qb,qc])
  refine wpAnyH_take (i := 10) (oi := _) (v := ?_) rfl (by kernel_rfl) (by kernel_rfl) (by kernel_rfl) (fun _ _ _ h => h) (Or.inl ⟨by rfl,?_⟩) hHeld ?_
  rotate_left
  ·intro w hSw
   (try dsimp only at hSw)
   go_simp
   (try with_reducible rfl)
  (try simp only [qx,qa,qb,qc])
  refine wpAnyH_take (i := 11) (oi := _) (v := ?_) rfl (by kernel_rfl) (by kernel_rfl) (by kernel_rfl) (fun _ _ _ h => h) (Or.inl ⟨by rfl,?_⟩) hHeld ?_
  rotate_left
  ·intro w hSw
   (try dsimp only at hSw)
   go_simp
   (try with_reducible rfl)
  (try simp only [qx,qa,qb,qc])
  refine wpAnyH_take (i := 12) (oi := _) (v := ?_) rfl (by kernel_rfl) (by kernel_rfl) (by kernel_rfl) (fun _ _ _ h => h) (Or.inl ⟨by rfl,?_⟩) hHeld ?_
  rotate_left
  ·intro w hSw
   (try dsimp only at hSw)
   go_simp
   (try with_reducible rfl)
  (try simp only [qx,qa,qb,qc])
  refine wpAnyH_take (i := 14) (oi := _) (v := ?_) rfl (by kernel_rfl) (by kernel_rfl) (by kernel_rfl) (fun _ _ _ h => h) (Or.inl ⟨by rfl,?_⟩) hHeld ?_
  rotate_left
  ·intro w hSw
   (try dsimp only at hSw)
   go_simp
   (try with_reducible rfl)
  (try simp only [qx,qa,qb,qc])
  refine qm (rs := [13,15,17]) (by kernel_rfl) (by simp) ?_
  refine AllReadyH.cons (o := _) rfl (fun K hK => ?_) <| AllReadyH.cons (o := _) rfl (fun K hK => ?_) <| AllReadyH.cons (o := _) rfl (fun K hK => ?_) <| qt
  ·go_simp
   have ak := Y6 (.cells #[.int .i32 r,.int .i64 s.sf,.int .i64 s.sb,.int .i64 s.sx,.int .i32 0,.int .i64 s.sf,.int .i64 s.sb,.int .i64 s.sx] 56) k0;have hg := qf _ (.cells #[.int .i32 r,.int .i64 s.sf,.int .i64 s.sb,.int .i64 s.sx,.int .i32 0,.int .i64 s.sf,.int .i64 s.sb,.int .i64 s.sx] 56) |> qbq k0;have k1 := k0.alloc k0.size (.cells #[.int .i32 r,.int .i64 s.sf,.int .i64 s.sb,.int .i64 s.sx,.int .i32 0,.int .i64 s.sf,.int .i64 s.sb,.int .i64 s.sx] 56);have e1 := Ua ak e0;clear ak;refine hK.out _ _ e1 (fun hHeld => ?_)
   clear hK K
   (try simp only [qx,qa,qb,qc])
   generalize Z0.alloc (.cells #[.int .i32 r,.int .i64 s.sf,.int .i64 s.sb,.int .i64 s.sx,.int .i32 0,.int .i64 s.sf,.int .i64 s.sb,.int .i64 s.sx] 56) = Z1 at *;refine qm (rs := [15,17]) (by kernel_rfl) (by simp) ?_
   refine AllReadyH.cons (o := _) rfl (fun K hK => ?_) <| AllReadyH.cons (o := _) rfl (fun K hK => ?_) <| qt
   ·go_simp
    refine (HWD.out _ (TX.out _ k1)).mono ?_;rintro e Z2 ⟨rfl,bv⟩;have k2 := k1.trans (bv.mono k1.size);have e2 := Ua bv e1;replace hg := Grd.carry hg bv;clear bv;go_wp2_with fail;refine hK.out _ _ e2 (fun hHeld => ?_)
    clear hK K
    (try simp only [qx,qa,qb,qc])
    refine wpAnyH_take (i := 16) (oi := _) (v := ?_) rfl (by kernel_rfl) (by kernel_rfl) (by kernel_rfl) (fun _ _ _ h => h) (Or.inl ⟨by rfl,?_⟩) hHeld ?_
    rotate_left
    ·intro w hSw
     (try dsimp only at hSw)
     go_simp
     (try with_reducible rfl)
    (try simp only [qx,qa,qb,qc])
    refine qm (rs := [17]) (by kernel_rfl) (by simp) ?_
    refine AllReadyH.cons (o := _) rfl (fun K hK => ?_) <| qt
    ·go_simp
     have ak := Y6 (.cells #[.slice none 0 0] 22) k2;replace hg := qdt (.cells #[.slice none 0 0] 22) hg;have hb := qf _ (.cells #[.slice none 0 0] 22) |> qbq k2;have lb := k2.size;have k3 := k2.alloc k2.size (.cells #[.slice none 0 0] 22);have e3 := Ua ak e2;clear ak;refine hK.out _ _ e3 (fun hHeld => ?_)
     clear hK K
     (try simp only [qx,qa,qb,qc])
     generalize Z2.alloc (.cells #[.slice none 0 0] 22) = Z3 at *;have fb := Put.J3 hb;have ff := Grd.Je hb 0;refine qm (rs := [18]) (by kernel_rfl) (by simp) ?_
     refine AllReadyH.cons (o := _) rfl (fun K hK => ?_) qt
     go_simp;refine hK.out _ _ (off4 hb e3 (Nat.ne_of_gt (Nat.lt_of_lt_of_le l1 lb)) (Nat.ne_of_gt (Nat.lt_of_lt_of_le l2 lb))) (fun hHeld => ?_)
     clear hK K
     (try simp only [qx,qa,qb,qc])
     refine wpAnyH_done (by kernel_rfl) ?_ _
     refine NoPanic.normal ?_;go_wp2_with fail;go_meet;exact ⟨_,_,rfl,U6 HMC.out hb hg k3 lb⟩
   ·go_simp
    have ak := Y6 (.cells #[.slice none 0 0] 22) k1;replace hg := qdt (.cells #[.slice none 0 0] 22) hg;have hb := qf _ (.cells #[.slice none 0 0] 22) |> qbq k1;have lb := k1.size;have k2 := k1.alloc k1.size (.cells #[.slice none 0 0] 22);have e2 := Ua ak e1;clear ak;refine hK.out _ _ e2 (fun hHeld => ?_)
    clear hK K
    (try simp only [qx,qa,qb,qc])
    generalize Z1.alloc (.cells #[.slice none 0 0] 22) = Z2 at *;refine qm (rs := [15]) (by kernel_rfl) (by simp) ?_
    refine AllReadyH.cons (o := _) rfl (fun K hK => ?_) <| qt
    ·go_simp
     refine (HWD.out _ (TX.out _ k2)).mono ?_;rintro e Z3 ⟨rfl,bv⟩;have k3 := k2.trans (bv.mono k2.size);have e3 := Ua bv e2;replace hg := Grd.carry hg bv;replace hb := Grd.carry hb bv;clear bv;go_wp2_with fail;refine hK.out _ _ e3 (fun hHeld => ?_)
     clear hK K
     (try simp only [qx,qa,qb,qc])
     refine wpAnyH_take (i := 16) (oi := _) (v := ?_) rfl (by kernel_rfl) (by kernel_rfl) (by kernel_rfl) (fun _ _ _ h => h) (Or.inl ⟨by rfl,?_⟩) hHeld ?_
     rotate_left
     ·intro w hSw
      (try dsimp only at hSw)
      go_simp
      (try with_reducible rfl)
     (try simp only [qx,qa,qb,qc])
     have fb := Put.J3 hb;have ff := Grd.Je hb 0;refine qm (rs := [18]) (by kernel_rfl) (by simp) ?_
     refine AllReadyH.cons (o := _) rfl (fun K hK => ?_) qt
     go_simp;refine hK.out _ _ (off4 hb e3 (Nat.ne_of_gt (Nat.lt_of_lt_of_le l1 lb)) (Nat.ne_of_gt (Nat.lt_of_lt_of_le l2 lb))) (fun hHeld => ?_)
     clear hK K
     (try simp only [qx,qa,qb,qc])
     refine wpAnyH_done (by kernel_rfl) ?_ _
     refine NoPanic.normal ?_;go_wp2_with fail;go_meet;exact ⟨_,_,rfl,U6 HMC.out hb hg k3 lb⟩
  ·go_simp
   refine (HWD.out _ (TX.out _ k0)).mono ?_;rintro e Z1 ⟨rfl,bv⟩;have k1 := k0.trans (bv.mono k0.size);have e1 := Ua bv e0;clear bv;go_wp2_with fail;refine hK.out _ _ e1 (fun hHeld => ?_)
   clear hK K
   (try simp only [qx,qa,qb,qc])
   refine qm (rs := [13,17]) (by kernel_rfl) (by simp) ?_
   refine AllReadyH.cons (o := _) rfl (fun K hK => ?_) <| AllReadyH.cons (o := _) rfl (fun K hK => ?_) <| qt
   ·go_simp
    have ak := Y6 (.cells #[.int .i32 r,.int .i64 s.sf,.int .i64 s.sb,.int .i64 s.sx,.int .i32 0,.int .i64 s.sf,.int .i64 s.sb,.int .i64 s.sx] 56) k1;have hg := qf _ (.cells #[.int .i32 r,.int .i64 s.sf,.int .i64 s.sb,.int .i64 s.sx,.int .i32 0,.int .i64 s.sf,.int .i64 s.sb,.int .i64 s.sx] 56) |> qbq k1;have k2 := k1.alloc k1.size (.cells #[.int .i32 r,.int .i64 s.sf,.int .i64 s.sb,.int .i64 s.sx,.int .i32 0,.int .i64 s.sf,.int .i64 s.sb,.int .i64 s.sx] 56);have e2 := Ua ak e1;clear ak;refine hK.out _ _ e2 (fun hHeld => ?_)
    clear hK K
    (try simp only [qx,qa,qb,qc])
    generalize Z1.alloc (.cells #[.int .i32 r,.int .i64 s.sf,.int .i64 s.sb,.int .i64 s.sx,.int .i32 0,.int .i64 s.sf,.int .i64 s.sb,.int .i64 s.sx] 56) = Z2 at *;refine wpAnyH_take (i := 16) (oi := _) (v := ?_) rfl (by kernel_rfl) (by kernel_rfl) (by kernel_rfl) (fun _ _ _ h => h) (Or.inl ⟨by rfl,?_⟩) hHeld ?_
    rotate_left
    ·intro w hSw
     (try dsimp only at hSw)
     go_simp
     (try with_reducible rfl)
    (try simp only [qx,qa,qb,qc])
    refine qm (rs := [17]) (by kernel_rfl) (by simp) ?_
    refine AllReadyH.cons (o := _) rfl (fun K hK => ?_) <| qt
    ·go_simp
     have ak := Y6 (.cells #[.slice none 0 0] 22) k2;replace hg := qdt (.cells #[.slice none 0 0] 22) hg;have hb := qf _ (.cells #[.slice none 0 0] 22) |> qbq k2;have lb := k2.size;have k3 := k2.alloc k2.size (.cells #[.slice none 0 0] 22);have e3 := Ua ak e2;clear ak;refine hK.out _ _ e3 (fun hHeld => ?_)
     clear hK K
     (try simp only [qx,qa,qb,qc])
     generalize Z2.alloc (.cells #[.slice none 0 0] 22) = Z3 at *;have fb := Put.J3 hb;have ff := Grd.Je hb 0;refine qm (rs := [18]) (by kernel_rfl) (by simp) ?_
     refine AllReadyH.cons (o := _) rfl (fun K hK => ?_) qt
     go_simp;refine hK.out _ _ (off4 hb e3 (Nat.ne_of_gt (Nat.lt_of_lt_of_le l1 lb)) (Nat.ne_of_gt (Nat.lt_of_lt_of_le l2 lb))) (fun hHeld => ?_)
     clear hK K
     (try simp only [qx,qa,qb,qc])
     refine wpAnyH_done (by kernel_rfl) ?_ _
     refine NoPanic.normal ?_;go_wp2_with fail;go_meet;exact ⟨_,_,rfl,U6 HMC.out hb hg k3 lb⟩
   ·go_simp
    have ak := Y6 (.cells #[.slice none 0 0] 22) k1;have hb := qf _ (.cells #[.slice none 0 0] 22) |> qbq k1;have lb := k1.size;have k2 := k1.alloc k1.size (.cells #[.slice none 0 0] 22);have e2 := Ua ak e1;clear ak;refine hK.out _ _ e2 (fun hHeld => ?_)
    clear hK K
    (try simp only [qx,qa,qb,qc])
    generalize Z1.alloc (.cells #[.slice none 0 0] 22) = Z2 at *;refine qm (rs := [13]) (by kernel_rfl) (by simp) ?_
    refine AllReadyH.cons (o := _) rfl (fun K hK => ?_) <| qt
    ·go_simp
     have ak := Y6 (.cells #[.int .i32 r,.int .i64 s.sf,.int .i64 s.sb,.int .i64 s.sx,.int .i32 0,.int .i64 s.sf,.int .i64 s.sb,.int .i64 s.sx] 56) k2;replace hb := qdt (.cells #[.int .i32 r,.int .i64 s.sf,.int .i64 s.sb,.int .i64 s.sx,.int .i32 0,.int .i64 s.sf,.int .i64 s.sb,.int .i64 s.sx] 56) hb;have hg := qf _ (.cells #[.int .i32 r,.int .i64 s.sf,.int .i64 s.sb,.int .i64 s.sx,.int .i32 0,.int .i64 s.sf,.int .i64 s.sb,.int .i64 s.sx] 56) |> qbq k2;have k3 := k2.alloc k2.size (.cells #[.int .i32 r,.int .i64 s.sf,.int .i64 s.sb,.int .i64 s.sx,.int .i32 0,.int .i64 s.sf,.int .i64 s.sb,.int .i64 s.sx] 56);have e3 := Ua ak e2;clear ak;refine hK.out _ _ e3 (fun hHeld => ?_)
     clear hK K
     (try simp only [qx,qa,qb,qc])
     generalize Z2.alloc (.cells #[.int .i32 r,.int .i64 s.sf,.int .i64 s.sb,.int .i64 s.sx,.int .i32 0,.int .i64 s.sf,.int .i64 s.sb,.int .i64 s.sx] 56) = Z3 at *;refine wpAnyH_take (i := 16) (oi := _) (v := ?_) rfl (by kernel_rfl) (by kernel_rfl) (by kernel_rfl) (fun _ _ _ h => h) (Or.inl ⟨by rfl,?_⟩) hHeld ?_
     rotate_left
     ·intro w hSw
      (try dsimp only at hSw)
      go_simp
      (try with_reducible rfl)
     (try simp only [qx,qa,qb,qc])
     have fb := Put.J3 hb;have ff := Grd.Je hb 0;refine qm (rs := [18]) (by kernel_rfl) (by simp) ?_
     refine AllReadyH.cons (o := _) rfl (fun K hK => ?_) qt
     go_simp;refine hK.out _ _ (off4 hb e3 (Nat.ne_of_gt (Nat.lt_of_lt_of_le l1 lb)) (Nat.ne_of_gt (Nat.lt_of_lt_of_le l2 lb))) (fun hHeld => ?_)
     clear hK K
     (try simp only [qx,qa,qb,qc])
     refine wpAnyH_done (by kernel_rfl) ?_ _
     refine NoPanic.normal ?_;go_wp2_with fail;go_meet;exact ⟨_,_,rfl,U6 HMC.out hb hg k3 lb⟩
  ·go_simp
   have ak := Y6 (.cells #[.slice none 0 0] 22) k0;have hb := qf _ (.cells #[.slice none 0 0] 22) |> qbq k0;have lb := k0.size;have k1 := k0.alloc k0.size (.cells #[.slice none 0 0] 22);have e1 := Ua ak e0;clear ak;refine hK.out _ _ e1 (fun hHeld => ?_)
   clear hK K
   (try simp only [qx,qa,qb,qc])
   generalize Z0.alloc (.cells #[.slice none 0 0] 22) = Z1 at *;refine qm (rs := [13,15]) (by kernel_rfl) (by simp) ?_
   refine AllReadyH.cons (o := _) rfl (fun K hK => ?_) <| AllReadyH.cons (o := _) rfl (fun K hK => ?_) <| qt
   ·go_simp
    have ak := Y6 (.cells #[.int .i32 r,.int .i64 s.sf,.int .i64 s.sb,.int .i64 s.sx,.int .i32 0,.int .i64 s.sf,.int .i64 s.sb,.int .i64 s.sx] 56) k1;replace hb := qdt (.cells #[.int .i32 r,.int .i64 s.sf,.int .i64 s.sb,.int .i64 s.sx,.int .i32 0,.int .i64 s.sf,.int .i64 s.sb,.int .i64 s.sx] 56) hb;have hg := qf _ (.cells #[.int .i32 r,.int .i64 s.sf,.int .i64 s.sb,.int .i64 s.sx,.int .i32 0,.int .i64 s.sf,.int .i64 s.sb,.int .i64 s.sx] 56) |> qbq k1;have k2 := k1.alloc k1.size (.cells #[.int .i32 r,.int .i64 s.sf,.int .i64 s.sb,.int .i64 s.sx,.int .i32 0,.int .i64 s.sf,.int .i64 s.sb,.int .i64 s.sx] 56);have e2 := Ua ak e1;clear ak;refine hK.out _ _ e2 (fun hHeld => ?_)
    clear hK K
    (try simp only [qx,qa,qb,qc])
    generalize Z1.alloc (.cells #[.int .i32 r,.int .i64 s.sf,.int .i64 s.sb,.int .i64 s.sx,.int .i32 0,.int .i64 s.sf,.int .i64 s.sb,.int .i64 s.sx] 56) = Z2 at *;refine qm (rs := [15]) (by kernel_rfl) (by simp) ?_
    refine AllReadyH.cons (o := _) rfl (fun K hK => ?_) <| qt
    ·go_simp
     refine (HWD.out _ (TX.out _ k2)).mono ?_;rintro e Z3 ⟨rfl,bv⟩;have k3 := k2.trans (bv.mono k2.size);have e3 := Ua bv e2;replace hg := Grd.carry hg bv;replace hb := Grd.carry hb bv;clear bv;go_wp2_with fail;refine hK.out _ _ e3 (fun hHeld => ?_)
     clear hK K
     (try simp only [qx,qa,qb,qc])
     refine wpAnyH_take (i := 16) (oi := _) (v := ?_) rfl (by kernel_rfl) (by kernel_rfl) (by kernel_rfl) (fun _ _ _ h => h) (Or.inl ⟨by rfl,?_⟩) hHeld ?_
     rotate_left
     ·intro w hSw
      (try dsimp only at hSw)
      go_simp
      (try with_reducible rfl)
     (try simp only [qx,qa,qb,qc])
     have fb := Put.J3 hb;have ff := Grd.Je hb 0;refine qm (rs := [18]) (by kernel_rfl) (by simp) ?_
     refine AllReadyH.cons (o := _) rfl (fun K hK => ?_) qt
     go_simp;refine hK.out _ _ (off4 hb e3 (Nat.ne_of_gt (Nat.lt_of_lt_of_le l1 lb)) (Nat.ne_of_gt (Nat.lt_of_lt_of_le l2 lb))) (fun hHeld => ?_)
     clear hK K
     (try simp only [qx,qa,qb,qc])
     refine wpAnyH_done (by kernel_rfl) ?_ _
     refine NoPanic.normal ?_;go_wp2_with fail;go_meet;exact ⟨_,_,rfl,U6 HMC.out hb hg k3 lb⟩
   ·go_simp
    refine (HWD.out _ (TX.out _ k1)).mono ?_;rintro e Z2 ⟨rfl,bv⟩;have k2 := k1.trans (bv.mono k1.size);have e2 := Ua bv e1;replace hb := Grd.carry hb bv;clear bv;go_wp2_with fail;refine hK.out _ _ e2 (fun hHeld => ?_)
    clear hK K
    (try simp only [qx,qa,qb,qc])
    refine qm (rs := [13]) (by kernel_rfl) (by simp) ?_
    refine AllReadyH.cons (o := _) rfl (fun K hK => ?_) <| qt
    ·go_simp
     have ak := Y6 (.cells #[.int .i32 r,.int .i64 s.sf,.int .i64 s.sb,.int .i64 s.sx,.int .i32 0,.int .i64 s.sf,.int .i64 s.sb,.int .i64 s.sx] 56) k2;replace hb := qdt (.cells #[.int .i32 r,.int .i64 s.sf,.int .i64 s.sb,.int .i64 s.sx,.int .i32 0,.int .i64 s.sf,.int .i64 s.sb,.int .i64 s.sx] 56) hb;have hg := qf _ (.cells #[.int .i32 r,.int .i64 s.sf,.int .i64 s.sb,.int .i64 s.sx,.int .i32 0,.int .i64 s.sf,.int .i64 s.sb,.int .i64 s.sx] 56) |> qbq k2;have k3 := k2.alloc k2.size (.cells #[.int .i32 r,.int .i64 s.sf,.int .i64 s.sb,.int .i64 s.sx,.int .i32 0,.int .i64 s.sf,.int .i64 s.sb,.int .i64 s.sx] 56);have e3 := Ua ak e2;clear ak;refine hK.out _ _ e3 (fun hHeld => ?_)
     clear hK K
     (try simp only [qx,qa,qb,qc])
     generalize Z2.alloc (.cells #[.int .i32 r,.int .i64 s.sf,.int .i64 s.sb,.int .i64 s.sx,.int .i32 0,.int .i64 s.sf,.int .i64 s.sb,.int .i64 s.sx] 56) = Z3 at *;refine wpAnyH_take (i := 16) (oi := _) (v := ?_) rfl (by kernel_rfl) (by kernel_rfl) (by kernel_rfl) (fun _ _ _ h => h) (Or.inl ⟨by rfl,?_⟩) hHeld ?_
     rotate_left
     ·intro w hSw
      (try dsimp only at hSw)
      go_simp
      (try with_reducible rfl)
     (try simp only [qx,qa,qb,qc])
     have fb := Put.J3 hb;have ff := Grd.Je hb 0;refine qm (rs := [18]) (by kernel_rfl) (by simp) ?_
     refine AllReadyH.cons (o := _) rfl (fun K hK => ?_) qt
     go_simp;refine hK.out _ _ (off4 hb e3 (Nat.ne_of_gt (Nat.lt_of_lt_of_le l1 lb)) (Nat.ne_of_gt (Nat.lt_of_lt_of_le l2 lb))) (fun hHeld => ?_)
     clear hK K
     (try simp only [qx,qa,qb,qc])
     refine wpAnyH_done (by kernel_rfl) ?_ _
     refine NoPanic.normal ?_;go_wp2_with fail;go_meet;exact ⟨_,_,rfl,U6 HMC.out hb hg k3 lb⟩
 case rest =>
  obtain ⟨Bc,g,rfl,lb,hb,hM,kx⟩ := hcut;have HM : Hid (Qb wc g 0 (Jr (s.sf,s.sb,s.sx) r)) := hM;have d0 := Qa kx q1;have d4 := Qa kx c4;have fb := J3 hb;have HKC : Hid (Below W.heap.size W wc) := HKB.out.trans (kx.mono HKB.out.size);have HR := HA.out wc.drew Bc g (HKC.out.drew) d0 fb HM.out;clear q1 c4 c6 c7 c8 hb hM kx HM fb HA;go_upto_region 2 with fail
  go_region_with (first | (go_at_call 113;refine HR.mono ?_;rintro e V ⟨rfl,hV,bV,fV⟩))
  all_goals go_wp2_with fail
  all_goals go_end0
  all_goals exact ⟨rfl,hV,(HKC.out.drew.mono hNW).trans bV,(Q3.of_below HKC.out.drew).trans fV⟩
end Put
namespace Put
open Grd (C SliceAt Qb Qf z0 Q0 flat Qe)
open Sty (Q5)
open Txt (wd)
def Jj (s : Scr) (k : Int) : Bool := decide (k ≤ s.w - s.x)
def Ki (s : Scr) (k : Int) : Bool := s.late || (hasB s.modes 4 && !Jj s k)
theorem qtp : qcw 3 := by unfold qcw;decide
theorem qfq : Plain 63 := by
 intro args W
 kernel_rfl
theorem qci (W : World) (M N p Bw Bp : Nat) (s : Scr) (rows : List (List C)) (k : Int) (hS : ShAt 110 W M N p s rows) (hw : W.cell? ⟨Bw, 0, none⟩ = some (.int .i64 k)) (hp : W.cell? ⟨Bp, 0, none⟩ = some (.pointer (some ⟨p, 0, none⟩))) (h0 : 0 ≤ s.x) (h1 : s.x ≤ 120) (w1 : 1 ≤ s.w) (w2 : s.w ≤ 120) :
  Calls qP 63 #[.pointer (some ⟨Bw,0,none⟩),.pointer (some ⟨Bp,0,none⟩)] W fun e W' => e = .returned (.bool (Jj s k)) ∧ W' = W.drew := by
 obtain ⟨c0,c1,c3,c4,c5,c9,c10,c11,c19,f⟩ := hS.words;clear c1 c4 c5 c9 c10 c11 c19 f hS;have hwr : IntKind.i64.wrap (s.w - s.x) = s.w - s.x := Zl _ (by omega) (by omega)
 unfold Jj;go_enter Tryz.func63,Tryz.ntmps63;go_upto_region 1 with fail
 go_region;go_wp2_with fail;go_ret;exact ⟨rfl,rfl⟩
structure Own (X : World) (p Bp Bw : Nat) (k : Int) : Prop where
 bp : X.heap[Bp]? = some (.cells #[.pointer (some ⟨p,0,none⟩)] 83 (0,0))
 bw : X.heap[Bw]? = some (.cells #[.int .i64 k] 3 (0,0))
theorem Own.next {X Y : World} {p Bp Bw : Nat} {k : Int} (h : Own X p Bp Bw k) (hf : Q3 X Y) : Own Y p Bp Bw k := ⟨hf _ _ h.bp (qem qvn),hf _ _ h.bw (qem qtp)⟩
structure Way (W X : World) (M N p Bp Bw : Nat) (k : Int) (s : Scr) (rows : List (List C)) : Prop where
 o : Own X p Bp Bw k
 s : ShAt 110 X M N p s rows
 b : Below N W X
 f : Q3 W X
theorem Way.ran {W X Y : World} {M N p Bp Bw : Nat} {k : Int} {s s' : Scr} {rows rows' : List (List C)} {e : Ending} (h : Way W X M N p Bp Bw k s rows) (hr : Ran X M N p s' rows' e Y) : Way W Y M N p Bp Bw k s' rows' := ⟨h.o.next hr.2.2.2,hr.2.1,h.b.trans hr.2.2.1,h.f.trans hr.2.2.2⟩
theorem Way.drew {W X : World} {M N p Bp Bw : Nat} {k : Int} {s : Scr} {rows : List (List C)} (h : Way W X M N p Bp Bw k s rows) : Way W X.drew M N p Bp Bw k s rows := ⟨h.o.next (Q3.of_below ((qr _ _).drew)),h.s.drew,h.b.drew,h.f.trans (Q3.of_below ((qr _ _).drew))⟩
theorem Way.cells {W X : World} {M N p Bp Bw : Nat} {k : Int} {s : Scr} {rows : List (List C)} (h : Way W X M N p Bp Bw k s rows) : X.cell? ⟨Bp,0,none⟩ = some (.pointer (some ⟨p,0,none⟩)) ∧ X.cell? ⟨Bw,0,none⟩ = some (.int .i64 k) := ⟨J3 h.o.bp,J3 h.o.bw⟩
theorem qa0 {W W1 : World} {M N p : Nat} {k : Int} {s : Scr} {rows : List (List C)} (hS : ShAt 110 W M N p s rows) (kb : Below W.heap.size W (W.alloc (.cells #[.pointer (some ⟨p, 0, none⟩)] 83))) (hx : (W.alloc (.cells #[.pointer (some ⟨p, 0, none⟩)] 83)).heap[W.heap.size]? = some (.cells #[.pointer (some ⟨p, 0, none⟩)] 83 (0, 0))) (b1 : Below (W.alloc (.cells #[.pointer (some ⟨p, 0, none⟩)] 83)).heap.size (W.alloc (.cells #[.pointer (some ⟨p, 0, none⟩)] 83)) W1) :
  Way W (W1.alloc (.cells #[.int .i64 k] 3)) M N p W.heap.size W1.heap.size k s rows := by
 have hb : Below W.heap.size W (W1.alloc (.cells #[.int .i64 k] 3)) := (kb.trans (b1.mono kb.size)).alloc (kb.trans (b1.mono kb.size)).size _;have hNW : N ≤ W.heap.size := by
  obtain ⟨cv,tv,gv,rv,gvs,vs,h⟩ := hS;have := h.lo;have := Qc h.blk;omega
 refine ⟨⟨?_,qf W1 _⟩,hS.next hb,hb.mono hNW,Q3.of_below hb⟩;have h1 := Grd.carry hx b1;exact (Below.heap_alloc W1 _ _ (Qc h1)).trans h1
theorem qqw (W : World) (M N p : Nat) (s : Scr) (rows : List (List C)) (r : Int) (hT : Txt.Tab W) (hS : ShAt 110 W M N p s rows) (hsk : wd r = 0 ∨ s.w < wd r) :
  Calls qP 37 #[.pointer (some ⟨p,0,none⟩),.int .i32 r] W (Ran W M N p s rows) := by
 have kb : Below W.heap.size W (W.alloc (.cells #[.pointer (some ⟨p,0,none⟩)] 83)) := (qr _ _).alloc (qd _) _;have hx0 := qf W (.cells #[.pointer (some ⟨p,0,none⟩)] 83);have HW := Txt.Jz r (W.alloc (.cells #[.pointer (some ⟨p,0,none⟩)] 83)) (Grd.Tab.next hT kb);have HX0 : Hid _ := hx0;have HKB : Hid _ := kb;have HS : Hid (ShAt 110 W M N p s rows) := hS;clear hx0 kb hS hT;generalize wd r = k at *
 by_cases k0 : k = 0
 ·have q0 : (k == 0) = true := by rw [beq_iff_eq]; exact k0
  clear k0 hsk;go_enter Tryz.func37,Tryz.ntmps37;go_wp2_with fail;refine HW.mono ?_;rintro e W1 ⟨rfl,b1⟩;have hw := qa0 HS.out HKB.out HX0.out b1 (k := k);clear HW b1 HX0 HKB;go_upto_region 2 with fail
  generalize hB : W1.heap.size = Bw at *;clear hB;generalize (W1.alloc (.cells #[.int .i64 k] 3)) = X at *;have HWY : Hid (Way W X M N p W.heap.size Bw k s rows) := hw;obtain ⟨cp,cw⟩ := hw.cells;clear hw HS;go_region;go_wp2_with fail;refine bodyPost_ret (v := .tuple #[]) (results_none rfl _ _ _) rfl ?_;exact ⟨rfl,HWY.out.drew.s,HWY.out.drew.b,HWY.out.drew.f⟩
 ·have q0 : (k == 0) = false := by rw [beq_eq_false_iff_ne]; exact k0
  have q1 : s.w < k := by omega
  clear k0 hsk;go_enter Tryz.func37,Tryz.ntmps37;go_wp2_with fail;refine HW.mono ?_;rintro e W1 ⟨rfl,b1⟩;have hw := qa0 HS.out HKB.out HX0.out b1 (k := k);clear HW b1 HX0 HKB;go_upto_region 2 with fail
  generalize hB : W1.heap.size = Bw at *;clear hB;generalize (W1.alloc (.cells #[.int .i64 k] 3)) = X at *;have HWY : Hid (Way W X M N p W.heap.size Bw k s rows) := hw;obtain ⟨cp,cw⟩ := hw.cells;obtain ⟨c0,-⟩ := hw.s.words;clear hw HS;go_region;go_wp2_with fail;refine bodyPost_ret (v := .tuple #[]) (results_none rfl _ _ _) rfl ?_;exact ⟨rfl,HWY.out.drew.s,HWY.out.drew.b,HWY.out.drew.f⟩
structure Fed (W : World) (M N p : Nat) (k : Int) (s s1 : Scr) (rows rows1 : List (List C)) : Prop where
 go : Ki s k = true → ∀ X,Below N W X → ShAt 110 X M N p { s with x := 0 } rows → Calls qP 65 #[.pointer (some ⟨p,0,none⟩)] X (Ran X M N p s1 rows1)
 no : Ki s k = false → s1 = s ∧ rows1 = rows
 w : s1.w = s.w
 x0 : 0 ≤ s1.x
 x1 : s1.x ≤ 120
theorem qfp (W : World) (M N p : Nat) (s s1 : Scr) (rows rows1 rows2 rows3 : List (List C)) (r : Int) (hT : Txt.Tab W) (hS : ShAt 110 W M N p s rows) (hk0 : wd r ≠ 0) (hkw : wd r ≤ s.w) (h0 : 0 ≤ s.x) (h1 : s.x ≤ 120) (w1 : 1 ≤ s.w) (w2 : s.w ≤ 120)
  (hF : Fed W M N p (wd r) s s1 rows rows1) (hft : Jj s1 (wd r) = true)
  (hR : hasB s1.modes 1 = true → ∀ X,Below N W X → ShAt 110 X M N p s1 rows1 → Calls qP 66 #[.pointer (some ⟨p,0,none⟩),.int .i64 (wd r)] X (Ran X M N p s1 rows2)) (hR2 : hasB s1.modes 1 = false → rows2 = rows1)
  (hW : ∀ X,Below N W X → ShAt 110 X M N p s1 rows2 → Calls qP 67 #[.pointer (some ⟨p,0,none⟩),.int .i32 r] X (Ran X M N p s1 rows3)) :
  Calls qP 37 #[.pointer (some ⟨p,0,none⟩),.int .i32 r] W (Ran W M N p { V9 s1 (wd r) with last := r } rows3) := by
 have kb : Below W.heap.size W (W.alloc (.cells #[.pointer (some ⟨p,0,none⟩)] 83)) := (qr _ _).alloc (qd _) _;have hx0 := qf W (.cells #[.pointer (some ⟨p,0,none⟩)] 83);have HW := Txt.Jz r (W.alloc (.cells #[.pointer (some ⟨p,0,none⟩)] 83)) (Grd.Tab.next hT kb);have HX0 : Hid _ := hx0;have HKB : Hid _ := kb;have HS : Hid (ShAt 110 W M N p s rows) := hS;have hkr := Txt.Vo r;have HF : Hid (Fed W M N p (wd r) s s1 rows rows1) := hF;have HFT : Hid (Jj s1 (wd r) = true) := hft;have HR : Hid (hasB s1.modes 1 = true → ∀ X,Below N W X → ShAt 110 X M N p s1 rows1 → Calls qP 66 #[.pointer (some ⟨p,0,none⟩),.int .i64 (wd r)] X (Ran X M N p s1 rows2)) := hR;have HR2 : Hid (hasB s1.modes 1 = false → rows2 = rows1) := hR2;have HWT : Hid (∀ X,Below N W X → ShAt 110 X M N p s1 rows2 → Calls qP 67 #[.pointer (some ⟨p,0,none⟩),.int .i32 r] X (Ran X M N p s1 rows3)) := hW;clear hx0 kb hS hT hF hft hR hR2 hW;generalize wd r = k at *;have q0 : (k == 0) = false := by rw [beq_eq_false_iff_ne];exact hk0
 have q1 : ¬ s.w < k := by omega
 have hpf := qfq;unfold Plain at hpf;go_enter Tryz.func37,Tryz.ntmps37;go_wp2_with fail;refine HW.mono ?_;rintro e W1 ⟨rfl,b1⟩;have hw := qa0 HS.out HKB.out HX0.out b1 (k := k);clear HW b1 HX0 HKB;go_upto_region 2 with fail
 generalize hB : W1.heap.size = Bw at *;clear hB;generalize (W1.alloc (.cells #[.int .i64 k] 3)) = X at *;have HWY : Hid (Way W X M N p W.heap.size Bw k s rows) := hw;obtain ⟨cp,cw⟩ := hw.cells;obtain ⟨c0,-⟩ := hw.s.words;clear hw HS;go_region;have HW2 : Hid (Way W X.drew M N p W.heap.size Bw k s rows) := HWY.out.drew;clear cp cw c0 HWY;generalize X.drew = Y at *;go_upto_region 4 with fail
 go_cut [34] from 6 to 34 (fun c wx => c = .bool (Ki s k) ∧ Way W wx M N p W.heap.size Bw k s rows)
 case first =>
  have hw := HW2.out;obtain ⟨cp,cw⟩ := hw.cells;obtain ⟨c0,-,c3,-,c5,-⟩ := hw.s.words;have HH := Kk 4 Y hw.s;have HFI := qci Y M N p Bw W.heap.size s rows k hw.s cw cp h0 h1 w1 w2;clear hw
  cases hl : s.late with
  | true =>
   have HB : Hid (Ki s k = true) := by unfold Hid Ki;rw [hl];rfl
   rw [hl] at c5;go_wp2_with fail;go_meet;exact ⟨by rw [HB.out],HW2.out⟩
  | false =>
   rw [hl] at c5
   cases hb : hasB s.modes 4 with
   | false =>
    have HB : Hid (Ki s k = false) := by unfold Hid Ki;rw [hl,hb];rfl
    rw [hb] at HH;go_wp2_with fail;refine HH.mono ?_;rintro e V ⟨rfl,hv⟩;subst hv;go_wp2_with fail;go_meet;exact ⟨by rw [HB.out],HW2.out⟩
   | true =>
    have HB : Hid (Ki s k = !Jj s k) := by unfold Hid Ki;rw [hl,hb];rfl
    rw [hb] at HH;generalize Jj s k = fb at *;go_wp2_with fail;refine HH.mono ?_;rintro e V ⟨rfl,hv⟩;subst hv;go_wp2_with fail;refine HFI.mono ?_;rintro e V ⟨rfl,hv⟩;subst hv;go_wp2_with fail;go_meet;exact ⟨by rw [HB.out],HW2.out.drew⟩
 case rest =>
  obtain ⟨rfl,hw3⟩ := hcut;have HW3 : Hid (Way W wc M N p W.heap.size Bw k s rows) := hw3;clear hw3 HW2;go_upto_if 34 with fail
  go_cut [] from 6 to 40 (fun wx => Way W wx M N p W.heap.size Bw k s1 rows1)
  case first =>
   cases hb : Ki s k with
   | true =>
    obtain ⟨cp,cw⟩ := HW3.out.cells;obtain ⟨-,-,c3,-,-,-,-,-,-,f⟩ := HW3.out.s.words;have f3 := f 3;obtain ⟨hS4,hB4,hF4⟩ := HW3.out.s.put 3 (.int .i64 0) (s' := { s with x := 0 }) (fun _ _ _ _ => rfl) rfl rfl
    have HW4 : Hid (Way W (wc.setCell ⟨p,3,none⟩ (.int .i64 0)) M N p W.heap.size Bw k { s with x := 0 } rows) := HW3.out.ran (e := .returned (.tuple #[])) ⟨rfl,hS4,hB4,hF4⟩
    have HFE := HF.out.go hb _ HW4.out.b HW4.out.s;have d1 := HW4.out.cells.1;clear hS4 hB4 hF4 f cw;go_wp2_with fail;refine HFE.mono ?_;rintro e V hran;have hrn := hran;obtain ⟨rfl,-⟩ := hrn;have HW5 : Hid (Way W V M N p W.heap.size Bw k s1 rows1) := HW4.out.ran hran;clear hran cp c3 f3 d1;go_wp2_with fail;go_meet;exact HW5.out
   | false =>
    obtain ⟨e1,e2⟩ := HF.out.no hb;go_wp2_with fail;go_meet;rw [e1,e2];exact HW3.out
  case rest =>
   have HW5 : Hid (Way W wc M N p W.heap.size Bw k s1 rows1) := hcut;clear hcut HW3;have hw5 := HW5.out;obtain ⟨cp,cw⟩ := hw5.cells;have x0 := HF.out.x0;have x1 := HF.out.x1;have ew := HF.out.w;have HEW : Hid (s1.w = s.w) := ew;have HFI := qci wc M N p Bw W.heap.size s1 rows1 k hw5.s cw cp x0 x1 (by omega) (by omega)
   rw [HFT.out] at HFI;clear hw5 cp cw ew;go_wp2_with fail;refine HFI.mono ?_;rintro e V ⟨rfl,hv⟩;subst hv;have HW6 : Hid (Way W wc.drew M N p W.heap.size Bw k s1 rows1) := HW5.out.drew;clear HFI HW5;generalize wc.drew = Z at *;have hw6 := HW6.out;obtain ⟨cp,cw⟩ := hw6.cells;have HH := Kk 1 Z hw6.s;clear hw6;go_wp2_with fail;refine HH.mono ?_;rintro e V ⟨rfl,hv⟩;subst hv;clear HH;go_upto_if 45 with fail
   go_cut [] from 6 to 48 (fun wx => Way W wx M N p W.heap.size Bw k s1 rows2)
   case first =>
    cases hb : hasB s1.modes 1 with
    | true =>
     have HRM := HR.out hb _ HW6.out.b HW6.out.s;go_wp2_with fail;refine HRM.mono ?_;rintro e V hran;have hrn := hran;obtain ⟨rfl,-⟩ := hrn;have HW7 : Hid (Way W V M N p W.heap.size Bw k s1 rows2) := HW6.out.ran hran;clear hran;go_wp2_with fail;go_meet;exact HW7.out
    | false =>
     go_wp2_with fail;go_meet;rw [HR2.out hb];exact HW6.out
   case rest =>
    have HW7 : Hid (Way W wc M N p W.heap.size Bw k s1 rows2) := hcut;clear hcut HW6 cp cw;obtain ⟨cp,cw⟩ := HW7.out.cells;have HWR := HWT.out _ HW7.out.b HW7.out.s;go_wp2_with fail;refine HWR.mono ?_;rintro e V hran;have hrn := hran;obtain ⟨rfl,-⟩ := hrn;have HW8 : Hid (Way W V M N p W.heap.size Bw k s1 rows3) := HW7.out.ran hran;clear hran HW7 HWR cp cw;obtain ⟨cp,cw⟩ := HW8.out.cells;have HAD := ql5 V M N p s1 rows3 k HW8.out.s x0 x1 (by omega) (by omega) (by have := HEW.out;omega) (by have := HEW.out;omega)
    go_wp2_with fail;refine HAD.mono ?_;rintro e V2 hran;have hrn := hran;obtain ⟨rfl,-⟩ := hrn;have HW9 : Hid (Way W V2 M N p W.heap.size Bw k (V9 s1 k) rows3) := HW8.out.ran hran;clear hran HW8 HAD cp cw;obtain ⟨cp,cw⟩ := HW9.out.cells;obtain ⟨-,-,-,-,-,-,-,-,c19,f⟩ := HW9.out.s.words;have f19 := f 19;obtain ⟨hS4,hB4,hF4⟩ := HW9.out.s.put 19 (.int .i32 r) (s' := { V9 s1 k with last := r }) (fun _ _ _ _ => rfl) rfl rfl
    have HWZ : Hid (Way W (V2.setCell ⟨p,19,none⟩ (.int .i32 r)) M N p W.heap.size Bw k { V9 s1 k with last := r } rows3) := HW9.out.ran (e := .returned (.tuple #[])) ⟨rfl,hS4,hB4,hF4⟩
    clear hS4 hB4 hF4 f;go_wp2_with fail;go_end0;exact ⟨rfl,HWZ.out.s,HWZ.out.b,HWZ.out.f⟩
theorem qot (W : World) (M N p : Nat) (s s1 : Scr) (rows rows1 : List (List C)) (r : Int) (hT : Txt.Tab W) (hS : ShAt 110 W M N p s rows) (hk0 : wd r ≠ 0) (hkw : wd r ≤ s.w) (h0 : 0 ≤ s.x) (h1 : s.x ≤ 120) (w1 : 1 ≤ s.w) (w2 : s.w ≤ 120)
  (hF : Fed W M N p (wd r) s s1 rows rows1) (hft : Jj s1 (wd r) = false) :
  Calls qP 37 #[.pointer (some ⟨p,0,none⟩),.int .i32 r] W (Ran W M N p s1 rows1) := by
 have kb : Below W.heap.size W (W.alloc (.cells #[.pointer (some ⟨p,0,none⟩)] 83)) := (qr _ _).alloc (qd _) _;have hx0 := qf W (.cells #[.pointer (some ⟨p,0,none⟩)] 83);have HW := Txt.Jz r (W.alloc (.cells #[.pointer (some ⟨p,0,none⟩)] 83)) (Grd.Tab.next hT kb);have HX0 : Hid _ := hx0;have HKB : Hid _ := kb;have HS : Hid (ShAt 110 W M N p s rows) := hS;have hkr := Txt.Vo r;have HF : Hid (Fed W M N p (wd r) s s1 rows rows1) := hF;have HFT : Hid (Jj s1 (wd r) = false) := hft;clear hx0 kb hS hT hF hft;generalize wd r = k at *;have q0 : (k == 0) = false := by rw [beq_eq_false_iff_ne];exact hk0
 have q1 : ¬ s.w < k := by omega
 have hpf := qfq;unfold Plain at hpf;go_enter Tryz.func37,Tryz.ntmps37;go_wp2_with fail;refine HW.mono ?_;rintro e W1 ⟨rfl,b1⟩;have hw := qa0 HS.out HKB.out HX0.out b1 (k := k);clear HW b1 HX0 HKB;go_upto_region 2 with fail
 generalize hB : W1.heap.size = Bw at *;clear hB;generalize (W1.alloc (.cells #[.int .i64 k] 3)) = X at *;have HWY : Hid (Way W X M N p W.heap.size Bw k s rows) := hw;obtain ⟨cp,cw⟩ := hw.cells;obtain ⟨c0,-⟩ := hw.s.words;clear hw HS;go_region;have HW2 : Hid (Way W X.drew M N p W.heap.size Bw k s rows) := HWY.out.drew;clear cp cw c0 HWY;generalize X.drew = Y at *;go_upto_region 4 with fail
 go_cut [34] from 6 to 34 (fun c wx => c = .bool (Ki s k) ∧ Way W wx M N p W.heap.size Bw k s rows)
 case first =>
  have hw := HW2.out;obtain ⟨cp,cw⟩ := hw.cells;obtain ⟨c0,-,c3,-,c5,-⟩ := hw.s.words;have HH := Kk 4 Y hw.s;have HFI := qci Y M N p Bw W.heap.size s rows k hw.s cw cp h0 h1 w1 w2;clear hw
  cases hl : s.late with
  | true =>
   have HB : Hid (Ki s k = true) := by unfold Hid Ki;rw [hl];rfl
   rw [hl] at c5;go_wp2_with fail;go_meet;exact ⟨by rw [HB.out],HW2.out⟩
  | false =>
   rw [hl] at c5
   cases hb : hasB s.modes 4 with
   | false =>
    have HB : Hid (Ki s k = false) := by unfold Hid Ki;rw [hl,hb];rfl
    rw [hb] at HH;go_wp2_with fail;refine HH.mono ?_;rintro e V ⟨rfl,hv⟩;subst hv;go_wp2_with fail;go_meet;exact ⟨by rw [HB.out],HW2.out⟩
   | true =>
    have HB : Hid (Ki s k = !Jj s k) := by unfold Hid Ki;rw [hl,hb];rfl
    rw [hb] at HH;generalize Jj s k = fb at *;go_wp2_with fail;refine HH.mono ?_;rintro e V ⟨rfl,hv⟩;subst hv;go_wp2_with fail;refine HFI.mono ?_;rintro e V ⟨rfl,hv⟩;subst hv;go_wp2_with fail;go_meet;exact ⟨by rw [HB.out],HW2.out.drew⟩
 case rest =>
  obtain ⟨rfl,hw3⟩ := hcut;have HW3 : Hid (Way W wc M N p W.heap.size Bw k s rows) := hw3;clear hw3 HW2;go_upto_if 34 with fail
  go_cut [] from 6 to 40 (fun wx => Way W wx M N p W.heap.size Bw k s1 rows1)
  case first =>
   cases hb : Ki s k with
   | true =>
    obtain ⟨cp,cw⟩ := HW3.out.cells;obtain ⟨-,-,c3,-,-,-,-,-,-,f⟩ := HW3.out.s.words;have f3 := f 3;obtain ⟨hS4,hB4,hF4⟩ := HW3.out.s.put 3 (.int .i64 0) (s' := { s with x := 0 }) (fun _ _ _ _ => rfl) rfl rfl
    have HW4 : Hid (Way W (wc.setCell ⟨p,3,none⟩ (.int .i64 0)) M N p W.heap.size Bw k { s with x := 0 } rows) := HW3.out.ran (e := .returned (.tuple #[])) ⟨rfl,hS4,hB4,hF4⟩
    have HFE := HF.out.go hb _ HW4.out.b HW4.out.s;have d1 := HW4.out.cells.1;clear hS4 hB4 hF4 f cw;go_wp2_with fail;refine HFE.mono ?_;rintro e V hran;have hrn := hran;obtain ⟨rfl,-⟩ := hrn;have HW5 : Hid (Way W V M N p W.heap.size Bw k s1 rows1) := HW4.out.ran hran;clear hran cp c3 f3 d1;go_wp2_with fail;go_meet;exact HW5.out
   | false =>
    obtain ⟨e1,e2⟩ := HF.out.no hb;go_wp2_with fail;go_meet;rw [e1,e2];exact HW3.out
  case rest =>
   have HW5 : Hid (Way W wc M N p W.heap.size Bw k s1 rows1) := hcut;clear hcut HW3;have hw5 := HW5.out;obtain ⟨cp,cw⟩ := hw5.cells;have x0 := HF.out.x0;have x1 := HF.out.x1;have ew := HF.out.w;have HEW : Hid (s1.w = s.w) := ew;have HFI := qci wc M N p Bw W.heap.size s1 rows1 k hw5.s cw cp x0 x1 (by omega) (by omega)
   rw [HFT.out] at HFI;clear hw5 cp cw ew;go_wp2_with fail;refine HFI.mono ?_;rintro e V ⟨rfl,hv⟩;subst hv;have HW6 : Hid (Way W wc.drew M N p W.heap.size Bw k s1 rows1) := HW5.out.drew;clear HFI HW5;go_wp2_with fail
   (try simp only [Exit.inBlock,Exit.then])
   exact bodyPost_ret (v := .tuple #[]) (results_none rfl _ _ _) rfl ⟨rfl,HW6.out.s,HW6.out.b,HW6.out.f⟩
end Put
namespace Put
open Grd (C SliceAt Qb Qf z0 Q0 flat Qe Q8 Zu)
open Sty (Q5)
open Txt (wd)
structure PI (n hh : Nat) (s : Scr) (rows : List (List C)) : Prop where
 w : s.w = n
 h : s.h = hh
 n1 : 1 ≤ n
 n2 : n ≤ 120
 h1 : 1 ≤ hh
 h2 : hh ≤ 60
 x0 : 0 ≤ s.x
 x1 : s.x < n
 y0 : 0 ≤ s.y
 y1 : s.y < hh
 t0 : 0 ≤ s.top
 t1 : s.top ≤ s.bot
 t2 : s.bot < hh
 look : Q5 (s.sf,s.sb,s.sx) = true
 rl : rows.length = hh
 rr : Jd n rows
 gl : s.gone.length ≤ 50
theorem PI.back {n hh : Nat} {s : Scr} {rows : List (List C)} (h : PI n hh s rows) : Q5 (0,s.sb,0) = true := by
 have h2 := h.look;simp only [Q5,decide_eq_true_eq] at h2 ⊢;omega
def fedP (n : Nat) (s : Scr) (rows : List (List C)) : Scr × List (List C) :=
 if s.y = s.bot then (upS { s with x := 0,late := false } rows s.top.toNat,Zq rows n s.sb s.top.toNat s.bot.toNat) else (Uc { s with x := 0 },rows)
theorem qhb (s : Scr) (rows : List (List C)) (top : Nat) : (upS s rows top) = { s with gone := (upS s rows top).gone } := by
 unfold upS;split <;> rfl
theorem q1h (s : Scr) (rows : List (List C)) (top : Nat) (h : s.gone.length ≤ 50) : (upS s rows top).gone.length ≤ 50 := by
 unfold upS;split
 ·exact Uv _ _ h
 ·exact h
theorem PI.fed {n hh : Nat} {s : Scr} {rows : List (List C)} (h : PI n hh s rows) : PI n hh (fedP n s rows).1 (fedP n s rows).2 := by
 have n1 := h.n1;have y0 := h.y0;have y1 := h.y1;have t0 := h.t0;have t1 := h.t1;have t2 := h.t2;have rl := h.rl;have eh := h.h;unfold fedP
 by_cases hq : s.y = s.bot
 ·rw [if_pos hq]
  have e := qhb { s with x := 0,late := false } rows s.top.toNat
  have g := q1h { s with x := 0,late := false } rows s.top.toNat h.gl
  have hr := Jd.up h.rr s.sb h.back s.top.toNat s.bot.toNat (by omega) (by omega)
  have hl : (Zq rows n s.sb s.top.toNat s.bot.toNat).length = hh := by rw [Xm _ _ _ _ _ (by omega) (by omega),rl]
  generalize upS { s with x := 0,late := false } rows s.top.toNat = u at *
  dsimp only
  rw [e];exact ⟨h.w,h.h,h.n1,h.n2,h.h1,h.h2,by show (0 : Int) ≤ 0;omega,by show (0 : Int) < n;omega,h.y0,h.y1,h.t0,h.t1,h.t2,h.look,hl,hr,g⟩
 ·rw [if_neg hq]
  unfold Uc
  dsimp only
  split
  ·rename_i hlt
   exact ⟨h.w,h.h,h.n1,h.n2,h.h1,h.h2,by show (0 : Int) ≤ 0;omega,by show (0 : Int) < n;omega,by show 0 ≤ s.y + 1;omega,by show s.y + 1 < hh;omega,h.t0,h.t1,h.t2,h.look,rl,h.rr,h.gl⟩
  ·exact ⟨h.w,h.h,h.n1,h.n2,h.h1,h.h2,by show (0 : Int) ≤ 0;omega,by show (0 : Int) < n;omega,h.y0,h.y1,h.t0,h.t1,h.t2,h.look,rl,h.rr,h.gl⟩
theorem qzb {n hh : Nat} {s : Scr} {rows : List (List C)} (h : PI n hh s rows) (X : World) (M N p : Nat) (hS : ShAt 110 X M N p { s with x := 0 } rows) :
  Calls qP 65 #[.pointer (some ⟨p,0,none⟩)] X (Ran X M N p (fedP n s rows).1 (fedP n s rows).2) := by
 have y0 := h.y0;have y1 := h.y1;have t0 := h.t0;have t1 := h.t1;have t2 := h.t2;have rl := h.rl;have eh := h.h;have h1 := h.h1;have h2 := h.h2;unfold fedP
 by_cases hq : s.y = s.bot
 ·rw [if_pos hq]
  exact qi0 X M N p n { s with x := 0 } rows hS s.top.toNat s.bot.toNat (by show s.top = _;omega) (by show s.bot = _;omega) hq h.w h.n1 h.n2 (by omega) (by omega) (by omega) h.gl
 ·rw [if_neg hq]
  exact qb0 X M N p { s with x := 0 } rows hS y0 (by show s.y ≤ 60;omega) (by show 1 ≤ s.h;omega) (by show s.h ≤ 60;omega) hq
def Xh (n : Nat) (s : Scr) (rows : List (List C)) (r : Int) : Scr × List (List C) := if Ki s (wd r) = true then fedP n s rows else (s,rows)
theorem PI.turn {n hh : Nat} {s : Scr} {rows : List (List C)} (h : PI n hh s rows) (r : Int) : PI n hh (Xh n s rows r).1 (Xh n s rows r).2 := by
 unfold Xh;split
 ·exact h.fed
 ·exact h
theorem qy2 {n hh : Nat} {s : Scr} {rows : List (List C)} (h : PI n hh s rows) (r : Int) (W : World) (M N p : Nat) : Fed W M N p (wd r) s (Xh n s rows r).1 rows (Xh n s rows r).2 := by
 have ht := h.turn r;have n2 := h.n2;refine ⟨fun hb X _ hX => ?_,fun hb => ?_,ht.w.trans h.w.symm,ht.x0,by have := ht.x1;omega⟩
 ·unfold Xh
  rw [if_pos hb];exact qzb h X M N p hX
 ·unfold Xh
  rw [if_neg (by rw [hb];simp)]
  exact ⟨rfl,rfl⟩
def qbj (s : Scr) (rows : List (List C)) (r : Int) : List (List C) := if hasB s.modes 1 = true then rows.set s.y.toNat (Zu (Gs (rows.getD s.y.toNat []) s.x.toNat (wd r).toNat s.sb)) else rows
def U0 (n : Nat) (s : Scr) (rows : List (List C)) (r : Int) : Scr × List (List C) :=
 if wd r = 0 ∨ s.w < wd r then (s,rows)
 else if Jj (Xh n s rows r).1 (wd r) = false then Xh n s rows r
 else ({ V9 (Xh n s rows r).1 (wd r) with last := r },(qbj (Xh n s rows r).1 (Xh n s rows r).2 r).set (Xh n s rows r).1.y.toNat (Fz ((Xh n s rows r).1.sf,(Xh n s rows r).1.sb,(Xh n s rows r).1.sx) ((qbj (Xh n s rows r).1 (Xh n s rows r).2 r).getD (Xh n s rows r).1.y.toNat []) (Xh n s rows r).1.x.toNat r))
theorem qhi {n : Nat} {rows : List (List C)} (h : Jd n rows) (y : Nat) (row : List C) (hl : row.length = n) (hr : Q8 row) : Jd n (rows.set y row) := fun i hi => by
 rw [List.length_set] at hi
 by_cases e : y = i
 ·subst e
  have e2 : (rows.set y row).getD y [] = row := by simp [qy,hi]
  rw [e2];exact ⟨hl,hr⟩
 ·have e2 : (rows.set y row).getD i [] = rows.getD i [] := by simp [qy, List.getElem?_set_ne e]
  rw [e2];exact h i hi
theorem qsi {n hh : Nat} {s : Scr} {rows : List (List C)} (h : PI n hh s rows) (r : Int) (hr : wd r ≠ 0) (hf : Jj s (wd r) = true) : Jd n (qbj s rows r) ∧ (qbj s rows r).length = hh := by
 have hk := Txt.Vo r;have x0 := h.x0;have y0 := h.y0;have y1 := h.y1;have rl := h.rl;have ew := h.w;have hf' : wd r ≤ s.w - s.x := by simpa [Jj] using hf
 have hrow := h.rr s.y.toNat (by omega)
 unfold qbj;split
 ·have hm := qdz hrow.2.1 s.x.toNat (wd r).toNat s.sb (by omega) (by rw [hrow.1]; omega) h.back
  exact ⟨qhi h.rr _ _ (by rw [Grd.Ka,Uy _ _ _ _ (by rw [hrow.1];omega),hrow.1]) (Grd.G9 _ hm),by rw [List.length_set,rl]⟩
 ·exact ⟨h.rr,rl⟩
theorem qt2 (s : Scr) (k : Int) : (V9 s k).w = s.w ∧ (V9 s k).h = s.h ∧ (V9 s k).y = s.y ∧ (V9 s k).top = s.top ∧ (V9 s k).bot = s.bot ∧ (V9 s k).sf = s.sf ∧ (V9 s k).sb = s.sb ∧ (V9 s k).sx = s.sx ∧ (V9 s k).gone = s.gone := by
 unfold V9;split <;> exact ⟨rfl,rfl,rfl,rfl,rfl,rfl,rfl,rfl,rfl⟩
theorem PI.print {n hh : Nat} {s : Scr} {rows : List (List C)} (h0 : PI n hh s rows) (r : Int) : PI n hh (U0 n s rows r).1 (U0 n s rows r).2 := by
 unfold U0;split
 ·exact h0
 ·rename_i hsk
  have h := h0.turn r;generalize Xh n s rows r = t at *;obtain ⟨s1,rows1⟩ := t
  dsimp only at h ⊢
  split
  ·exact h
  ·rename_i hft
   have hf : Jj s1 (wd r) = true := by simpa using hft
   have hf' : wd r ≤ s1.w - s1.x := by simpa [Jj] using hf
   have hw0 : wd r ≠ 0 := fun e => hsk (.inl e)
   have hk := Txt.Vo r;have hq := qsi h r hw0 hf;have n1 := h.n1;have x0 := h.x0;have x1 := h.x1;have y0 := h.y0;have y1 := h.y1;have ew := h.w;have hrow := hq.1 s1.y.toNat (by rw [hq.2];omega)
   obtain ⟨a1,a2,a3,a4,a5,a6,a7,a8,a9⟩ := qt2 s1 (wd r);have ax : 0 ≤ (V9 s1 (wd r)).x ∧ (V9 s1 (wd r)).x < n := by
    unfold V9;split
    ·exact ⟨by show 0 ≤ s1.w - 1;omega,by show s1.w - 1 < n;omega⟩
    ·exact ⟨by show 0 ≤ s1.x + wd r;omega,by show s1.x + wd r < n;omega⟩
   have hmn := Grd.qiq (s1.sf,s1.sb,s1.sx) ((qbj s1 rows1 r).getD s1.y.toNat []) s1.x.toNat r hrow.2.1 h.look (by rw [hrow.1];omega)
   refine ⟨a1.trans h.w,a2.trans h.h,h.n1,h.n2,h.h1,h.h2,ax.1,ax.2,by rw [← a3] at y0;exact y0,by rw [← a3] at y1;exact y1,by have := h.t0;rw [← a4] at this;exact this,by have := h.t1;rw [← a4,← a5] at this;exact this,by have := h.t2;rw [← a5] at this;exact this,by have := h.look;rw [← a6,← a7,← a8] at this;exact this,by rw [List.length_set,hq.2],?_,by have := h.gl;rw [← a9] at this;exact this⟩
   exact qhi hq.1 _ _ (by rw [qmv,hrow.1]) (Grd.G9 _ hmn)
theorem Fb {n hh : Nat} {s : Scr} {rows : List (List C)} (h0 : PI n hh s rows) (r : Int) (W : World) (M N p : Nat) (hT : Txt.Tab W) (hTN : 0 < N) (hS : ShAt 110 W M N p s rows) :
  Calls qP 37 #[.pointer (some ⟨p,0,none⟩),.int .i32 r] W (Ran W M N p (U0 n s rows r).1 (U0 n s rows r).2) := by
 have hx0 := h0.x0;have hx1 := h0.x1;have hn1 := h0.n1;have hn2 := h0.n2;have hew := h0.w;unfold U0
 by_cases hsk : wd r = 0 ∨ s.w < wd r
 ·rw [if_pos hsk]
  exact qqw W M N p s rows r hT hS hsk
 ·rw [if_neg hsk]
  have h := h0.turn r;have hF := qy2 h0 r W M N p;generalize Xh n s rows r = t at *;obtain ⟨s1,rows1⟩ := t
  dsimp only at h hF ⊢
  have hw0 : wd r ≠ 0 := fun e => hsk (.inl e)
  have hww : wd r ≤ s.w := by
   have : ¬ s.w < wd r := fun e => hsk (.inr e)
   omega
  by_cases hft : Jj s1 (wd r) = false
  ·rw [if_pos hft]
   exact qot W M N p s s1 rows rows1 r hT hS hw0 hww hx0 (by omega) (by omega) (by omega) hF hft
  ·rw [if_neg hft]
   have hf : Jj s1 (wd r) = true := by simpa using hft
   have hf' : wd r ≤ s1.w - s1.x := by simpa [Jj] using hf
   have hk := Txt.Vo r;have hq := qsi h r hw0 hf;have x0 := h.x0;have x1 := h.x1;have y0 := h.y0;have y1 := h.y1;have ew := h.w;have rl := h.rl;have hrow := h.rr s1.y.toNat (by omega)
   have hrow2 := hq.1 s1.y.toNat (by rw [hq.2];omega)
   have htab : ∀ X,Below N W X → Txt.Tab X := fun X hb => hT.below hb hTN
   have ek : wd r = ((wd r).toNat : Int) := by omega
   refine qfp W M N p s s1 rows rows1 (qbj s1 rows1 r) _ r hT hS hw0 hww hx0 (by omega) (by omega) (by omega) hF hf (fun hi X hX hSX => ?_) (fun hi => ?_) (fun X hX hSX => ?_)
   ·have := qf7 X M N p s1 rows1 hSX (htab X hX) s1.y.toNat s1.x.toNat (wd r).toNat (by omega) (by omega) (by omega) (by omega) (by rw [hrow.1]; omega) (by rw [hrow.1]; omega) hrow.2.1 h.back
    rw [← ek] at this;unfold qbj;rw [if_pos hi];exact this
   ·unfold qbj
    rw [if_neg (by rw [hi];simp)]
   ·exact qjb X M N p s1 (qbj s1 rows1 r) (htab X hX) hSX r n s1.x.toNat s1.y.toNat (by rw [hq.2];omega) _ rfl h.w (by omega) (by omega) (by omega) hrow2.1 (qg1 n _ h.n1 h.n2 hrow2.1 hrow2.2) h.look hw0 (by omega)
end Put
namespace Put
open Grd (C)
theorem ShAt.iter {t : TypeId} {W W' : World} {M N p k pos : Nat} {s : Scr} {rows : List (List C)} {str : ByteArray} (h : ShAt t W M N p s rows) (hk : W.heap[k]? = some (.stringIter str pos)) (hM : N ≤ k) (hoff : ∀ j,j ≠ k → W'.heap[j]? = W.heap[j]?) : ShAt t W' M N p s rows := by
 obtain ⟨cv,tv,gv,rv,gvs,vs,h⟩ := h;have hne : ∀ {j : Nat} {A : Array Value} {u : TypeId} {f : Nat × Nat},W.heap[j]? = some (.cells A u f) → W'.heap[j]? = W.heap[j]? := fun hj => hoff _ fun e => by
  rw [e,hk] at hj;cases hj
 have how : ∀ {e : TypeId} {v : Value} {n : Nat} {xs : List Value},W.ownsRow N e 1 v n xs → W'.ownsRow N e 1 v n xs := fun hw => Ze hw fun g hg => by
  obtain ⟨-,A,f,hA⟩ := Qn hw g hg;exact hne hA
 have hK : Kept M W W' := fun j _ hS => by
  rcases hS with hS | ⟨A,f,hS⟩
  ·have := h.ml
   exact hoff j (by omega)
  ·exact hne hS
 exact ⟨cv,tv,gv,rv,gvs,vs,(hne h.blk).trans h.blk,h.lo,h.ml,h.cvs,how h.tabs,how h.gone,h.gin.keep hK,how h.rws,h.rin.keep hK,h.two⟩
theorem qwb (W : World) (k j : Nat) (t : ByteArray) (pos : Nat) (h : j ≠ k) : (W.iterAt k t pos).heap[j]? = W.heap[j]? := by
 unfold World.iterAt;simp [Ne.symm h]
theorem qpg (t : ByteArray) (pos : Nat) : qro (.stringIter t pos) := fun A u f e => by cases e
theorem qqe (t : ByteArray) (B M : Nat) (w : World) (st : Nat → Scr × List (List C)) (hB : w.cell? ⟨B, 0, none⟩ = some (.string t))
  (hstep : ∀ i,i < (Txt.runes t).length → ∀ X p,Below w.heap.size w X → ShAt 110 X M w.heap.size p (st i).1 (st i).2 → Calls qP 37 #[.pointer (some ⟨p,0,none⟩),.int .i32 ((Txt.runes t).getD i (0,0)).1] X (Ran X M w.heap.size p (st (i + 1)).1 (st (i + 1)).2)) :
  Does 36 #[.pointer (some ⟨B,0,none⟩)] M w (st 0).1 (st (Txt.runes t).length).1 (st 0).2 (st (Txt.runes t).length).2 := by
 intro W p hb hS;have q0 := Qa hb hB;have HS : Hid (ShAt 110 W M w.heap.size p (st 0).1 (st 0).2) := hS;have HB : Hid (Below w.heap.size w W) := hb;have HST : Hid (∀ i,i < (Txt.runes t).length → ∀ X p,Below w.heap.size w X → ShAt 110 X M w.heap.size p (st i).1 (st i).2 → Calls qP 37 #[.pointer (some ⟨p,0,none⟩),.int .i32 ((Txt.runes t).getD i (0,0)).1] X (Ran X M w.heap.size p (st (i + 1)).1 (st (i + 1)).2)) := hstep;have hNW : w.heap.size ≤ W.heap.size := hb.size;have HRL : Hid (Txt.runes t = Txt.rs t t.size 0) := rfl;clear hS hb hB hstep;go_enter Tryz.func36,Tryz.ntmps36;go_wp2;go_loopw [] (fun wr => ∃ (pos f i : Nat),wr.heap[W.heap.size]? = some (.stringIter t pos) ∧ Below w.heap.size W wr ∧ ShAt 110 wr M w.heap.size p (st i).1 (st i).2 ∧ (Txt.runes t).drop i = Txt.rs t f pos ∧ t.size ≤ pos + f ∧ pos ≤ t.size ∧ i ≤ (Txt.runes t).length) (fun wr => t.size - wr.iterPos W.heap.size)
 case atStart =>
  exact ⟨0,t.size,0,World.iter_heap W t 0,((qr _ W).alloc (qd _) _).mono hNW,HS.out.next ((qr _ W).alloc (qd _) _),HRL.out,by omega,by omega,by omega⟩
 case round =>
  obtain ⟨pos,f,i,hit,hbw,hSi,hdr,hf,hps,hil⟩ := hrel;have HDR : Hid ((Txt.runes t).drop i = Txt.rs t f pos) := hdr;have HSI : Hid (ShAt 110 wr M w.heap.size p (st i).1 (st i).2) := hSi;have HBW : Hid (Below w.heap.size W wr) := hbw;clear hdr hSi hbw
  by_cases hp : pos < t.size
  ·have hnx : ∀ ty, (Instr.next (.pointer (some ⟨W.heap.size, 0, none⟩)) true ty).run qP wr = _ := fun ty => Lib.run_next_any_at wr W.heap.size t pos ty hit hp
   have hwd := Txt.width_pos t pos hp;have hfit := Txt.qef t pos hp;obtain ⟨f,rfl⟩ : ∃ g,f = g + 1 := ⟨f - 1,by omega⟩
   have HR : Hid (Txt.rs t (f + 1) pos = (((Utf8.decode t pos).1 : Int),(Utf8.decode t pos).2) :: Txt.rs t f (pos + (Utf8.decode t pos).2)) := Txt.qkd t f pos hp;have hlt : i < (Txt.runes t).length := by
    have h := HDR.out;rw [HR.out] at h;have h2 := congrArg List.length h;rw [List.length_drop,List.length_cons] at h2;omega
   have hget : ((Txt.runes t).getD i (0,0)) = (((Utf8.decode t pos).1 : Int),(Utf8.decode t pos).2) := by
    have h := HDR.out;rw [HR.out,List.drop_eq_getElem_cons hlt] at h;injection h with h _
    simp [qy,hlt,h]
   have hdr2 : (Txt.runes t).drop (i + 1) = Txt.rs t f (pos + (Utf8.decode t pos).2) := by
    have h := HDR.out;rw [HR.out,List.drop_eq_getElem_cons hlt] at h;injection h
   have HDR2 : Hid _ := hdr2;have hbit := Lib.below_iterAt (qr W.heap.size wr) (k := W.heap.size) (qd _) t (pos + (Utf8.decode t pos).2);have hit2 := Lib.iterAt_heap wr W.heap.size t pos (pos + (Utf8.decode t pos).2) hit;have hS2 : ShAt 110 (wr.iterAt W.heap.size t (pos + (Utf8.decode t pos).2)) M w.heap.size p (st i).1 (st i).2 := HSI.out.iter hit hNW (fun j hj => qwb wr _ j t _ hj)
   have hB2 : Below w.heap.size W (wr.iterAt W.heap.size t (pos + (Utf8.decode t pos).2)) := HBW.out.trans (hbit.mono hNW);have HI : Hid (wr.iterPos W.heap.size = pos) := by simp only [Hid,World.iterPos,hit]
   have HP := HST.out i hlt _ p (HB.out.trans hB2) hS2;rw [hget] at HP;have HIT2 : Hid _ := hit2;have HB2 : Hid _ := hB2;clear hit hS2 hB2 hbit hit2 hget hdr2;generalize Utf8.decode t pos = d at *;generalize wr.iterAt W.heap.size t (pos + d.2) = Y at *;go_wp2_with fail;refine HP.mono ?_;rintro e V hran;have hrn := hran;obtain ⟨rfl,hSV,hBV,hFV⟩ := hrn;have HITV : Hid (V.heap[W.heap.size]? = some (.stringIter t (pos + d.2))) := hFV _ _ HIT2.out (qpg _ _);have HSV : Hid _ := hSV;have HBV : Hid (Below w.heap.size W V) := HB2.out.trans hBV;clear hran hSV hBV hFV HP;go_wp2_with fail;go_roundw
   case rel => exact ⟨pos + d.2,f,i + 1,HITV.out,HBV.out,HSV.out,HDR2.out,by omega,by omega,by omega⟩
   case measure =>
    rw [HI.out];simp only [World.iterPos,HITV.out];omega
  ·have hnx : ∀ ty, (Instr.next (.pointer (some ⟨W.heap.size, 0, none⟩)) true ty).run qP wr = _ := fun ty => Lib.run_next_end_at wr W.heap.size t pos ty hit hp
   have hend : i = (Txt.runes t).length := by
    have h := HDR.out;rw [Txt.qq0 t f pos hp] at h;have h2 := congrArg List.length h;rw [List.length_drop,List.length_nil] at h2;omega
   go_wp2_with fail;go_end0;rw [← hend];exact ⟨rfl,HSI.out,HBW.out⟩
end Put
end Go.Proofs.YtooobiigijphkaaGreatDoor
