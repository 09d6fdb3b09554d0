/- Parts of the proof, shortened by a program. -/
import Derived.Test.YtcnblcmpgmgbbaaGreatDoorPartG
import Derived.Test.YtcnblcmpgmgbbaaGreatDoorPartL
import Derived.Test.YtcnblcmpgmgbbaaGreatDoorPartE
import Derived.Test.YtcnblcmpgmgbbaaGreatDoorPartO
import Derived.Deep.RegionWith
import Derived.Deep.Cut
import Derived.Deep.CutRange
import Derived.Test.YtcnblcmpgmgbbaaGreatDoorPartK
import Derived.Test.YtcnblcmpgmgbbaaGreatDoorPartM
import Derived.Test.YtcnblcmpgmgbbaaGreatDoorPartD
namespace Go.Proofs.YtcnblcmpgmgbbaaGreatDoor
set_option linter.unusedVariables false
set_option linter.unusedSimpArgs false
set_option maxRecDepth 100000
namespace Stl
theorem qzk : ∀ y : Fin 128, ∀ k ∈ looks, (0 ≤ bits .or .i64 (y.1 : Int) k.2.2 ∧ bits .or .i64 (y.1 : Int) k.2.2 ≤ 127) ∧ (0 ≤ bits .andNot .i64 (y.1 : Int) k.2.2 ∧ bits .andNot .i64 (y.1 : Int) k.2.2 ≤ 127) := by decide +kernel
theorem qza (n y : Int) (k : Int × Int × Int) (hk : k ∈ looks) (h0 : 0 ≤ y) (h1 : y ≤ 127) : 0 ≤ step n y k ∧ step n y k ≤ 127 := by
 have key : ∀ z : Int, 0 ≤ z → z ≤ 127 → (0 ≤ bits .or .i64 z k.2.2 ∧ bits .or .i64 z k.2.2 ≤ 127) ∧ (0 ≤ bits .andNot .i64 z k.2.2 ∧ bits .andNot .i64 z k.2.2 ≤ 127) := by
  intro z hz0 hz1
  have h := qzk ⟨z.toNat, by omega⟩ k hk
  simp only [show ((z.toNat : Nat) : Int) = z by omega] at h
  exact h
 unfold step
 split
 ·split
  ·exact (key _ (key y h0 h1).1.1 (key y h0 h1).1.2).2
  ·exact (key y h0 h1).2
 ·split
  ·exact (key y h0 h1).1
  ·exact ⟨h0, h1⟩
theorem qrr (n : Int) : ∀ (l : List (Int × Int × Int)) (y : Int), (∀ k ∈ l, k ∈ looks) → 0 ≤ y → y ≤ 127 → 0 ≤ l.foldl (step n) y ∧ l.foldl (step n) y ≤ 127
 | [], y, _, h0, h1 => ⟨h0, h1⟩
 | k :: l, y, hl, h0, h1 => by
  have h := qza n y k (hl k (by simp)) h0 h1
  exact qrr n l _ (fun k hk => hl k (by simp [hk])) h.1 h.2
theorem q0m (n : Int) : 0 ≤ (sc n).1 ∧ (sc n).1 ≤ 16 := by
 unfold sc
 repeat' split
 all_goals (constructor <;> simp <;> omega)
theorem qlj (s : Int × Int × Int) : Q3 s = true ↔ (0 ≤ s.1 ∧ s.1 ≤ 256 ∧ 0 ≤ s.2.1 ∧ s.2.1 ≤ 256 ∧ 0 ≤ s.2.2 ∧ s.2.2 ≤ 127) := by simp [Q3]
theorem qup (s : Int × Int × Int) (n : Int) (h : Q3 s = true) : Q3 (one s n) = true := by
 rw [qlj] at h ⊢
 unfold one
 split
 ·simp
 ·have h1 := q0m n
  have h2 := q0m (n - 10)
  have h3 := qrr n looks s.2.2 (fun _ h => h) h.2.2.2.2.1 h.2.2.2.2.2
  refine ⟨?_, ?_, ?_, ?_, h3.1, h3.2⟩ <;> (dsimp only; split <;> omega)
theorem qs7 (s : Int × Int × Int) (a n : Int) (h : Q3 s = true) : Q3 (lng s a n) = true := by
 rw [qlj] at h ⊢
 unfold lng
 split
 ·exact h
 ·split
  ·exact ⟨by dsimp only; omega, by dsimp only; omega, h.2.2⟩
  ·exact ⟨h.1, h.2.1, by dsimp only; omega, by dsimp only; omega, h.2.2.2.2⟩
theorem F6 : ∀ (m : Nat) (l : List Int) (s : Int × Int × Int), l.length ≤ m → Q3 s = true → Q3 (Jh s l) = true
 | _, [], s, _, h => h
 | 0, _ :: _, _, hl, _ => by simp at hl
 | m + 1, a :: l, s, hl, h => by
  by_cases hg : isLg (a :: l) = true
  ·rw [qef s _ hg]
   exact F6 m _ _ (by simp at hl ⊢; omega) (qs7 _ _ _ h)
  ·rw [qfv s a l (by simpa using hg)]
   exact F6 m _ _ (by simp at hl ⊢; omega) (qup _ _ h)
theorem qjp (l : List Int) (s : Int × Int × Int) (h : Q3 s = true) : Q3 (Yq s l) = true := by
 unfold Yq
 split
 ·rfl
 ·exact F6 _ l s (Nat.le_refl _) h
end Stl
open Go.ChangeShapes Go.WideShapes Go.ChangeAt Go.RowKit
namespace Put
open Grd (C SliceAt Qb Qf z0 Qx flat Qe Y7 Jw)
open Sty (Q3)
open Txt (wd)
def F3 (look : Int × Int × Int) (row : List C) (x : Nat) (r : Int) : List C := Grd.Zr (Grd.Y8 look row x r)
theorem qme (look : Int × Int × Int) (row : List C) (x : Nat) (r : Int) : (F3 look row x r).length = row.length := by
 unfold F3
 rw [Grd.V9, Grd.qkb]
def Js (look : Int × Int × Int) (r : Int) : List C := if wd r = 2 then [(r, look), (0, look)] else [(r, look)]
theorem qmc (look : Int × Int × Int) (row : List C) (x k : Nat) (r : Int) (hk : wd r = (k : Int)) (hk1 : k = 1 ∨ k = 2) (hx : x + k ≤ row.length) : Grd.Y8 look row x r = ovR row (Js look r) x (x + k) ∧ (Js look r).length = k := by
 rcases hk1 with rfl | rfl
 ·have hc : Js look r = [(r, look)] := by unfold Js; rw [if_neg (by rw [hk]; decide)]
  have hw : Grd.Y8 look row x r = row.set x (r, look) := by unfold Grd.Y8; rw [if_neg (by rw [hk]; decide), if_neg (by rw [hk]; decide)]
  rw [hc, hw]
  refine ⟨Grd.Ko _ _ (by rw [List.length_set, Fj row [(r, look)] x (x + 1) rfl hx]) fun j hj => ?_, rfl⟩
  rw [List.length_set] at hj
  rw [qkh row [(r, look)] x (x + 1) rfl hx, Grd.Gn _ _ _ _ (by omega)]
  by_cases h1 : j < x
  ·rw [if_neg (by omega), if_pos h1]
  ·rw [if_neg h1]
   by_cases h2 : j = x
   ·subst h2
    rw [if_pos rfl, if_pos (by omega), Nat.sub_self]
    rfl
   ·rw [if_neg h2, if_neg (by omega)]
 ·have hc : Js look r = [(r, look), (0, look)] := by unfold Js; rw [if_pos (by rw [hk]; decide)]
  have hw : Grd.Y8 look row x r = (row.set x (r, look)).set (x + 1) (0, look) := by unfold Grd.Y8; rw [if_neg (by rw [hk]; decide), if_pos (by rw [hk]; decide)]
  rw [hc, hw]
  refine ⟨Grd.Ko _ _ (by rw [List.length_set, List.length_set, Fj row [(r, look), (0, look)] x (x + 2) rfl hx]) fun j hj => ?_, rfl⟩
  rw [List.length_set, List.length_set] at hj
  rw [qkh row [(r, look), (0, look)] x (x + 2) rfl hx, Grd.Gn _ _ _ _ (by rw [List.length_set]; omega), Grd.Gn _ _ _ _ (by omega)]
  by_cases h1 : j < x
  ·rw [if_neg (by omega), if_neg (by omega), if_pos h1]
  ·rw [if_neg h1]
   by_cases h2 : j = x
   ·subst h2
    rw [if_neg (by omega), if_pos rfl, if_pos (by omega), Nat.sub_self]
    rfl
   ·by_cases h3 : j = x + 1
    ·subst h3
     rw [if_pos rfl, if_pos (by omega), show x + 1 - x = 1 by omega]
     rfl
    ·rw [if_neg h3, if_neg h2, if_neg (by omega)]
theorem qoc (r : Int) (h : wd r ≠ 0) : ∃ k : Nat, wd r = (k : Int) ∧ (k = 1 ∨ k = 2) := by
 have h1 := Grd.qix r
 have h2 := (Txt.Vp r).2
 refine ⟨(wd r).toNat, by omega, by omega⟩
set_option linter.unusedVariables false in
set_option maxHeartbeats 8000000 in
theorem qs1 (W : World) (p Bp Bc rb ro c x k g : Nat) (row mid : List C) (hp : W.cell? ⟨Bp, 0, none⟩ = some (.pointer (some ⟨p, 0, none⟩))) (hx : W.cell? ⟨p, 3, none⟩ = some (.int .i64 (x : Int))) (hBc : W.cell? ⟨Bc, 0, none⟩ = some (.slice (some ⟨g, 0, none⟩) k 2)) (hM : Qb W g 0 mid) (hk : mid.length = k) (hC : Qb W rb ro row) (hc : row.length ≤ c) (hxk : x + k ≤ row.length) (hk1 : 1 ≤ k) (hl : row.length ≤ 120) (hcc : (x + k) < c) :
  Calls Tryz.prog 117 #[.slice (some ⟨rb, ro, none⟩) row.length c, .pointer (some ⟨Bp, 0, none⟩), .pointer (some ⟨Bc, 0, none⟩)] W fun e W' => ∃ v', e = .returned v' ∧ W'.ownsRow W.heap.size 57 4 v' row.length (flat (ovR row mid x (x + k))) ∧ Below W.heap.size W W' := by
 have SK : Hid (∀ V, Below W.heap.size W V → V.cell? ⟨Bp, 0, none⟩ = some (.pointer (some ⟨p, 0, none⟩)) ∧ V.cell? ⟨p, 3, none⟩ = some (.int .i64 (x : Int)) ∧ V.cell? ⟨Bc, 0, none⟩ = some (.slice (some ⟨g, 0, none⟩) k 2)) := fun V h => ⟨Qa h hp, Qa h hx, Qa h hBc⟩
 have hwr : IntKind.i64.wrap ((x : Int) + (k : Int)) = (x : Int) + (k : Int) := Zj _ (by omega) (by omega)
 have HMC : Hid (Qb W g 0 mid) := hM
 have HCC : Hid (Qb W rb ro row) := hC
 obtain ⟨L, hL⟩ : ∃ L, L = row.length := ⟨_, rfl⟩
 obtain ⟨m, hm⟩ : ∃ m, m = L - (x + k) := ⟨_, rfl⟩
 have HCN : Hid (∀ (V : World), Below W.heap.size W V → Calls Tryz.prog 111 #[.slice (some ⟨V.heap.size, 0, none⟩) 3 3] (V.alloc (.cells #[.slice (some ⟨rb, ro, none⟩) x c, .slice (some ⟨g, 0, none⟩) k 2, .slice (some ⟨rb, ro + (x + k) * 4, none⟩) m (c - (x + k))] 22)) fun e w' => ∃ v', e = .returned v' ∧ w'.ownsRow (V.alloc (.cells #[.slice (some ⟨rb, ro, none⟩) x c, .slice (some ⟨g, 0, none⟩) k 2, .slice (some ⟨rb, ro + (x + k) * 4, none⟩) m (c - (x + k))] 22)).heap.size 57 4 v' L (flat (ovR row mid x (x + k))) ∧ Below (V.alloc (.cells #[.slice (some ⟨rb, ro, none⟩) x c, .slice (some ⟨g, 0, none⟩) k 2, .slice (some ⟨rb, ro + (x + k) * 4, none⟩) m (c - (x + k))] 22)).heap.size (V.alloc (.cells #[.slice (some ⟨rb, ro, none⟩) x c, .slice (some ⟨g, 0, none⟩) k 2, .slice (some ⟨rb, ro + (x + k) * 4, none⟩) m (c - (x + k))] 22)) w') := fun V hV => by
  have key := qrq V rb ro g 0 c x (x + k) k 2 L row mid (HCC.out.below hV) (HMC.out.below hV) hk rfl hL.symm (by omega) (by omega) (ro + (x + k) * 4) (c - (x + k)) (.inl rfl)
  rw [← hm] at key
  exact key
 have b0 : Below W.heap.size W W.drew := (Below.refl _ _).drew
 have hx1 : (x : Int) ≤ (c : Int) := by omega
 have hx2 : (x : Int) ≤ (L : Int) := by omega
 have hx3 : (x : Int) + (k : Int) ≤ (L : Int) := by omega
 have hx4 : (0 : Int) ≤ (x : Int) + (k : Int) := by omega
 have hx5 : ((x : Int) + (k : Int)).toNat = x + k := by omega
 have hcI : (x : Int) + (k : Int) < (c : Int) := by omega
 have hcN : ¬ c = (x + k) := by omega
 have hkk : L - (x + k) = m := hm.symm
 rw [← hL]
 clear hp hx hBc hM hk hC hc hxk hk1 hl hcc hL hm HCC HMC
 generalize ovR row mid x (x + k) = res at *
 go_enter Tryz.func117, Tryz.ntmps117
 go_upto_region 1 with fail
 have q2 := b0.alloc b0.size (.cells #[.slice (some ⟨rb, ro, none⟩) x c, .slice (some ⟨g, 0, none⟩) k 2, .slice (some ⟨rb, ro + (x + k) * 4, none⟩) m (c - (x + k))] 22)
 have HC1 := HCN.out W.drew b0
 go_region_held3 (fun w' => w'.cell? ⟨Bp, 0, none⟩ = some (.pointer (some ⟨p, 0, none⟩)) ∧ w'.cell? ⟨p, 3, none⟩ = some (.int .i64 (x : Int)) ∧ w'.cell? ⟨Bc, 0, none⟩ = some (.slice (some ⟨g, 0, none⟩) k 2))
  (first | exact SK.out _ q3 | exact SK.out _ q2 | exact SK.out _ b0)
  (first
   | (go_at_call 111; (try rw [hkk]); refine HC1.mono ?_; rintro e V2 ⟨v', rfl, hO, b2⟩; have q3 : Below W.heap.size W V2 := q2.trans (b2.mono q2.size); have HFI : Hid _ := And.intro (Grd.Q0 hO q2.size) q3; obtain ⟨za, zc, hzv⟩ := Qw hO; subst hzv))
 all_goals go_wp2_with fail
 all_goals go_ret
 all_goals exact ⟨_, rfl, HFI.out.1, HFI.out.2⟩
set_option linter.unusedVariables false in
set_option maxHeartbeats 8000000 in
theorem qqy (W : World) (p Bp Bc rb ro c x k g : Nat) (row mid : List C) (hp : W.cell? ⟨Bp, 0, none⟩ = some (.pointer (some ⟨p, 0, none⟩))) (hx : W.cell? ⟨p, 3, none⟩ = some (.int .i64 (x : Int))) (hBc : W.cell? ⟨Bc, 0, none⟩ = some (.slice (some ⟨g, 0, none⟩) k 2)) (hM : Qb W g 0 mid) (hk : mid.length = k) (hC : Qb W rb ro row) (hc : row.length ≤ c) (hxk : x + k ≤ row.length) (hk1 : 1 ≤ k) (hl : row.length ≤ 120) (hcc : ¬ (x + k) < c) :
  Calls Tryz.prog 117 #[.slice (some ⟨rb, ro, none⟩) row.length c, .pointer (some ⟨Bp, 0, none⟩), .pointer (some ⟨Bc, 0, none⟩)] W fun e W' => ∃ v', e = .returned v' ∧ W'.ownsRow W.heap.size 57 4 v' row.length (flat (ovR row mid x (x + k))) ∧ Below W.heap.size W W' := by
 have SK : Hid (∀ V, Below W.heap.size W V → V.cell? ⟨Bp, 0, none⟩ = some (.pointer (some ⟨p, 0, none⟩)) ∧ V.cell? ⟨p, 3, none⟩ = some (.int .i64 (x : Int)) ∧ V.cell? ⟨Bc, 0, none⟩ = some (.slice (some ⟨g, 0, none⟩) k 2)) := fun V h => ⟨Qa h hp, Qa h hx, Qa h hBc⟩
 have hwr : IntKind.i64.wrap ((x : Int) + (k : Int)) = (x : Int) + (k : Int) := Zj _ (by omega) (by omega)
 have HMC : Hid (Qb W g 0 mid) := hM
 have HCC : Hid (Qb W rb ro row) := hC
 obtain ⟨L, hL⟩ : ∃ L, L = row.length := ⟨_, rfl⟩
 have hbc : (x + k) = c := by omega
 have hbL : (x + k) = L := by omega
 subst hbc
 subst hbL
 have HCN : Hid (∀ (V : World), Below W.heap.size W V → Calls Tryz.prog 111 #[.slice (some ⟨V.heap.size, 0, none⟩) 3 3] (V.alloc (.cells #[.slice (some ⟨rb, ro, none⟩) x (x + k), .slice (some ⟨g, 0, none⟩) k 2, .slice (some ⟨rb, ro, none⟩) 0 0] 22)) fun e w' => ∃ v', e = .returned v' ∧ w'.ownsRow (V.alloc (.cells #[.slice (some ⟨rb, ro, none⟩) x (x + k), .slice (some ⟨g, 0, none⟩) k 2, .slice (some ⟨rb, ro, none⟩) 0 0] 22)).heap.size 57 4 v' (x + k) (flat (ovR row mid x (x + k))) ∧ Below (V.alloc (.cells #[.slice (some ⟨rb, ro, none⟩) x (x + k), .slice (some ⟨g, 0, none⟩) k 2, .slice (some ⟨rb, ro, none⟩) 0 0] 22)).heap.size (V.alloc (.cells #[.slice (some ⟨rb, ro, none⟩) x (x + k), .slice (some ⟨g, 0, none⟩) k 2, .slice (some ⟨rb, ro, none⟩) 0 0] 22)) w') := fun V hV => by
  have key := qrq V rb ro g 0 (x + k) x (x + k) k 2 (x + k) row mid (HCC.out.below hV) (HMC.out.below hV) hk rfl hL.symm (by omega) (by omega) ro 0 (.inr rfl)
  rw [Nat.sub_self] at key
  exact key
 have b0 : Below W.heap.size W W.drew := (Below.refl _ _).drew
 have hx1 : (x : Int) ≤ (x : Int) + (k : Int) := by omega
 have hx2 : (x : Int) ≤ (x : Int) + (k : Int) := by omega
 have hx3 : (x : Int) + (k : Int) ≤ (x : Int) + (k : Int) := by omega
 have hx4 : (0 : Int) ≤ (x : Int) + (k : Int) := by omega
 have hx5 : ((x : Int) + (k : Int)).toNat = x + k := by omega
 have hcI : ¬ (x : Int) + (k : Int) < (x : Int) + (k : Int) := by omega
 have hcN : (x + k) = (x + k) := rfl
 have hkk : (x + k) - (x + k) = 0 := Nat.sub_self _
 rw [← hL]
 clear hp hx hBc hM hk hC hc hxk hk1 hl hcc hL HCC HMC
 generalize ovR row mid x (x + k) = res at *
 go_enter Tryz.func117, Tryz.ntmps117
 go_upto_region 1 with fail
 have q2 := b0.alloc b0.size (.cells #[.slice (some ⟨rb, ro, none⟩) x (x + k), .slice (some ⟨g, 0, none⟩) k 2, .slice (some ⟨rb, ro, none⟩) 0 0] 22)
 have HC1 := HCN.out W.drew b0
 go_region_held3 (fun w' => w'.cell? ⟨Bp, 0, none⟩ = some (.pointer (some ⟨p, 0, none⟩)) ∧ w'.cell? ⟨p, 3, none⟩ = some (.int .i64 (x : Int)) ∧ w'.cell? ⟨Bc, 0, none⟩ = some (.slice (some ⟨g, 0, none⟩) k 2))
  (first | exact SK.out _ q3 | exact SK.out _ q2 | exact SK.out _ b0)
  (first
   | (go_at_call 111; (try rw [hkk]); refine HC1.mono ?_; rintro e V2 ⟨v', rfl, hO, b2⟩; have q3 : Below W.heap.size W V2 := q2.trans (b2.mono q2.size); have HFI : Hid _ := And.intro (Grd.Q0 hO q2.size) q3; obtain ⟨za, zc, hzv⟩ := Qw hO; subst hzv))
 all_goals go_wp2_with fail
 all_goals go_ret
 all_goals exact ⟨_, rfl, HFI.out.1, HFI.out.2⟩
theorem qq4 (W : World) (p Bp Bc rb ro c x k g : Nat) (row mid : List C) (hp : W.cell? ⟨Bp, 0, none⟩ = some (.pointer (some ⟨p, 0, none⟩))) (hx : W.cell? ⟨p, 3, none⟩ = some (.int .i64 (x : Int))) (hBc : W.cell? ⟨Bc, 0, none⟩ = some (.slice (some ⟨g, 0, none⟩) k 2)) (hM : Qb W g 0 mid) (hk : mid.length = k) (hC : Qb W rb ro row) (hc : row.length ≤ c) (hxk : x + k ≤ row.length) (hk1 : 1 ≤ k) (hl : row.length ≤ 120) :
  Calls Tryz.prog 117 #[.slice (some ⟨rb, ro, none⟩) row.length c, .pointer (some ⟨Bp, 0, none⟩), .pointer (some ⟨Bc, 0, none⟩)] W fun e W' => ∃ v', e = .returned v' ∧ W'.ownsRow W.heap.size 57 4 v' row.length (flat (ovR row mid x (x + k))) ∧ Below W.heap.size W W' := by
 by_cases hcc : (x + k) < c
 ·exact qs1 W p Bp Bc rb ro c x k g row mid hp hx hBc hM hk hC hc hxk hk1 hl hcc
 ·exact qqy W p Bp Bc rb ro c x k g row mid hp hx hBc hM hk hC hc hxk hk1 hl hcc
theorem J4 {W : World} {R : Nat} {v : Value} {t : TypeId} (h : W.heap[R]? = some (.cells #[v] t (0, 0))) : W.cell? ⟨R, 0, none⟩ = some v := by simp [World.cell?, h]
theorem qvb : qcp 84 := by unfold qcp; decide
theorem qmh : Plain 117 := by
 intro args W
 kernel_rfl
theorem Gp {Y V : World} {a1 a2 a3 a4 : Addr} {v1 v2 v3 v4 : Value} (b : Below Y.heap.size Y V) (e : Y.cell? a1 = some v1 ∧ Y.cell? a2 = some v2 ∧ Y.cell? a3 = some v3 ∧ Y.cell? a4 = some v4) : V.cell? a1 = some v1 ∧ V.cell? a2 = some v2 ∧ V.cell? a3 = some v3 ∧ V.cell? a4 = some v4 := ⟨Qa b e.1, Qa b e.2.1, Qa b e.2.2.1, Qa b e.2.2.2⟩
theorem Va (o : Obj) {X Y : World} (_ : Below X.heap.size X Y) : Below Y.heap.size Y (Y.alloc o) := (Below.refl _ _).alloc (Nat.le_refl _) _
theorem qdw (o : Obj) {Y : World} {B : Nat} {u : Obj} (h : Y.heap[B]? = some u) : (Y.alloc o).heap[B]? = some u := (Below.heap_alloc Y o _ (Qc h)).trans h
theorem qbf {X Y : World} (_ : Below X.heap.size X Y) {o : Obj} (h : (Y.alloc o).heap[Y.heap.size]? = some o) : (Y.alloc o).heap[Y.heap.size]? = some o := h
def q00 (X V : World) (Bc g k : Nat) (mid : List C) : Prop := X.heap.size ≤ Bc ∧ V.heap[Bc]? = some (.cells #[.slice (some ⟨g, 0, none⟩) k 2] 22 (0, 0)) ∧ Qb V g 0 mid ∧ Below X.heap.size X V
theorem off4 {Z : World} {Bc P1 P2 i1 i2 i3 i4 : Nat} {v u : Value} {v1 v2 v3 v4 : Value} (_ : Z.heap[Bc]? = some (.cells #[u] 22 (0, 0))) (e : Z.cell? ⟨P1, i1, none⟩ = some v1 ∧ Z.cell? ⟨P2, i2, none⟩ = some v2 ∧ Z.cell? ⟨P2, i3, none⟩ = some v3 ∧ Z.cell? ⟨P2, i4, none⟩ = some v4) (n1 : Bc ≠ P1) (n2 : Bc ≠ P2) : (Z.setCell ⟨Bc, 0, none⟩ v).cell? ⟨P1, i1, none⟩ = some v1 ∧ (Z.setCell ⟨Bc, 0, none⟩ v).cell? ⟨P2, i2, none⟩ = some v2 ∧ (Z.setCell ⟨Bc, 0, none⟩ v).cell? ⟨P2, i3, none⟩ = some v3 ∧ (Z.setCell ⟨Bc, 0, none⟩ v).cell? ⟨P2, i4, none⟩ = some v4 := ⟨(Yr n1.symm).trans e.1, (Yr n2.symm).trans e.2.1, (Yr n2.symm).trans e.2.2.1, (Yr n2.symm).trans e.2.2.2⟩
theorem Uq {X Z : World} {Bc g k : Nat} {u : Value} {mid : List C} {A : Array Value} (HM : ∀ (V : World) (g : Nat), V.heap[g]? = some (.cells A 57 (0, 0)) → Qb V g 0 mid) (hb : Z.heap[Bc]? = some (.cells #[u] 22 (0, 0))) (hg : Z.heap[g]? = some (.cells A 57 (0, 0))) (kx : Below X.heap.size X Z) (lb : X.heap.size ≤ Bc) : q00 X (Z.setCell ⟨Bc, 0, none⟩ (.slice (some ⟨g, 0, none⟩) k 2)) Bc g k mid := by
 have hne : g ≠ Bc := by
  intro e
  rw [e, hb] at hg
  injection hg with hg
  injection hg with _ hg _
  exact absurd hg (by decide)
 exact ⟨lb, Xn hb rfl, HM _ _ ((Q4 hne).trans hg), kx.setCell lb _⟩
set_option linter.unusedSimpArgs false in
set_option maxHeartbeats 8000000 in
theorem qib (W : World) (M N p : Nat) (s : Scr) (rows : List (List C)) (hT : Txt.Tab W) (hSt : ShAt 111 W M N p s rows) (r : Int)
  (n x y : Nat) (hy : y < rows.length) (row : List C) (hrow : rows.getD y [] = row) (_hw : s.w = n) (hx : s.x = x) (hyy : s.y = y) (hxn : x < n) (hrn : row.length = n) (hz : Qf n 1 row = 0) (hst : Q3 (s.sf, s.sb, s.sx) = true) (hr : wd r ≠ 0) (hfit : wd r ≤ (n : Int) - x) :
  Calls Tryz.prog 68 #[.pointer (some ⟨p, 0, none⟩), .int .i32 r] W (Ran W M N p s (rows.set y (F3 (s.sf, s.sb, s.sx) row x r))) := by
 obtain ⟨cv, tv, gv, rv, gvs, vs, hS⟩ := hSt
 obtain ⟨k, hk, hk1⟩ := qoc r hr
 have hrr : Grd.Q8 row := by
  have h := ((Grd.Zb n 1 row).1 hz).2.2 0 (by omega)
  have e : Grd.rowAt n row 0 = row := by unfold Grd.rowAt; rw [Nat.zero_mul, List.drop_zero, ← hrn, List.take_length]
  rw [e] at h
  exact h
 have hn2 : n ≤ 120 := by
  obtain ⟨h1, -, -⟩ := (Grd.Zb n 1 row).1 hz
  have h2 : 1 ≤ (n : Int) ∧ (n : Int) ≤ 120 := by simpa [Grd.Zi] using h1
  omega
 have hxk : x + k ≤ row.length := by omega
 obtain ⟨hov, hml⟩ := qmc (s.sf, s.sb, s.sx) row x k r hk hk1 hxk
 have hal : Grd.Alike (ovR row (Js (s.sf, s.sb, s.sx) r) x (x + k)) := by
  rw [← hov]
  exact (Grd.qif _ row x r hrr.1 hst (by omega)).alike
 have hlen := Fj row (Js (s.sf, s.sb, s.sx) r) x (x + k) (by rw [hml]) hxk
 have kb : Below W.heap.size W (W.alloc (.cells #[.pointer (some ⟨p, 0, none⟩)] 84)) := (Below.refl _ _).alloc (Nat.le_refl _) _
 have hx0 := heap_alloc_new W (.cells #[.pointer (some ⟨p, 0, none⟩)] 84)
 have HA : Hid (∀ X Bc g, Below W.heap.size W X → X.cell? ⟨W.heap.size, 0, none⟩ = some (.pointer (some ⟨p, 0, none⟩)) → X.cell? ⟨Bc, 0, none⟩ = some (.slice (some ⟨g, 0, none⟩) k 2) → Qb X g 0 (Js (s.sf, s.sb, s.sx) r) → Calls Tryz.prog 114 #[.pointer (some ⟨p, 0, none⟩), .int .i64 (y : Int), .func (.func 117) #[] #[.pointer (some ⟨W.heap.size, 0, none⟩), .pointer (some ⟨Bc, 0, none⟩)]] X (Ran X M N p s (rows.set y (F3 (s.sf, s.sb, s.sx) row x r)))) := fun X Bc g hX q1 q2 hM => by
  unfold F3
  rw [hov]
  refine qc9 X M N p s rows cv tv gv rv gvs vs (hS.next hX) (Grd.Tab.next hT hX) y hy _ qmh _ _ (fun W1 hW1 => ?_) hal (by rw [hlen]; omega)
  have hS1 := (hS.next hX).next hW1
  have hri := hS1.rin.2 y hy
  rw [hrow] at hri
  obtain ⟨⟨-, -, -, c3, -⟩, -, -⟩ := Qr hS1.blk
  rw [hx] at c3
  rcases hri with ⟨he, -⟩ | ⟨hne, bb, o, c, hv, hc1, hc2, hC, -⟩
  ·have h5 := congrArg List.length he
   rw [List.length_nil] at h5
   omega
  ·rw [hv]
   refine (qq4 W1 p W.heap.size Bc bb o c x k g row (Js (s.sf, s.sb, s.sx) r) (Qa hW1 q1) c3 (Qa hW1 q2) (hM.below hW1) hml hC hc1 hxk (by omega) (by omega)).mono ?_
   rintro e W2 ⟨v', rfl, hO, b2⟩
   have hO2 : W2.ownsRow W1.heap.size 57 4 v' (ovR row (Js (s.sf, s.sb, s.sx) r) x (x + k)).length (flat (ovR row (Js (s.sf, s.sb, s.sx) r) x (x + k))) := by rw [hlen]; exact hO
   rcases U8.of hO2 with ⟨he, -⟩ | ⟨g', cap, rest, ⟨t, ht⟩, hv', hg1, hg2, hg3, hg4⟩
   ·have h5 := congrArg List.length he
    rw [hlen, List.length_nil] at h5
    omega
   ·subst ht
    rw [hv']
    exact ⟨g', cap, rest, rfl, hg1, hg2, hg3, hg4, b2⟩
 have HWD : Hid (∀ V, Txt.Tab V → Calls Tryz.prog 19 #[.int .i32 r] V fun e w' => e = .returned (.int .i64 (k : Int)) ∧ Below V.heap.size V w') := fun V hV => by
  rw [← hk]
  exact Txt.J3 r V hV
 have HMC : Hid (∀ (V : World) (g : Nat), V.heap[g]? = some (.cells #[.int .i32 r, .int .i64 s.sf, .int .i64 s.sb, .int .i64 s.sx, .int .i32 0, .int .i64 s.sf, .int .i64 s.sb, .int .i64 s.sx] 57 (0, 0)) → Qb V g 0 (Js (s.sf, s.sb, s.sx) r)) := fun V g h j hj => by
  have hj2 : j = 0 ∨ (j = 1 ∧ wd r = 2) := by
   rw [hml] at hj
   omega
  have e : ∀ i v, (#[.int .i32 r, .int .i64 s.sf, .int .i64 s.sb, .int .i64 s.sx, .int .i32 0, .int .i64 s.sf, .int .i64 s.sb, .int .i64 s.sx] : Array Value)[i]? = some v → V.cell? ⟨g, i, none⟩ = some v := fun i v hv => by
   unfold World.cell?
   rw [h]
   exact hv
  rcases hj2 with rfl | ⟨rfl, h2⟩
  ·have e0 : (Js (s.sf, s.sb, s.sx) r).getD 0 z0 = (r, s.sf, s.sb, s.sx) := by
    unfold Js
    split <;> rfl
   rw [e0]
   exact ⟨e _ _ rfl, e _ _ rfl, e _ _ rfl, e _ _ rfl⟩
  ·have e0 : (Js (s.sf, s.sb, s.sx) r).getD 1 z0 = (0, s.sf, s.sb, s.sx) := by
    unfold Js
    rw [if_pos h2]
    rfl
   rw [e0]
   exact ⟨e _ _ rfl, e _ _ rfl, e _ _ rfl, e _ _ rfl⟩
 have TX : Hid (∀ V, Below (W.alloc (.cells #[.pointer (some ⟨p, 0, none⟩)] 84)).heap.size (W.alloc (.cells #[.pointer (some ⟨p, 0, none⟩)] 84)) V → Txt.Tab V) := fun V hV => Grd.Tab.next (Grd.Tab.next hT kb) hV
 have HX0 : Hid _ := hx0
 have HKB : Hid _ := kb
 have hNW : N ≤ W.heap.size := by have := hS.lo; have := Qc hS.blk; omega
 obtain ⟨⟨-, -, -, -, c4, -, c6, c7, c8, -⟩, -, -⟩ := Qr (hS.next kb).blk
 rw [hyy] at c4
 have q1 := J4 hx0
 have hk2 : (k : Int) ≤ 2 := by omega
 have hk0 : (0 : Int) ≤ (k : Int) := by omega
 clear hS hT hrow hx hyy hz hst hr hfit kb hx0 hrr hlen hal hov hml hk hk1 hxk
 go_enter Tryz.func68, Tryz.ntmps68
 go_upto_region 1 with fail
 generalize W.alloc (.cells #[.pointer (some ⟨p, 0, none⟩)] 84) = X at *
 go_cut [4] from 4 to 21 (fun c wx => ∃ Bc g, c = .pointer (some ⟨Bc, 0, none⟩) ∧ q00 X wx Bc g k (Js (s.sf, s.sb, s.sx) r))
 case first =>
  refine wp_region_noPanic ?_
  have e0 : (fun w' => w'.cell? ⟨W.heap.size, 0, none⟩ = some (.pointer (some ⟨p, 0, none⟩)) ∧ w'.cell? ⟨p, 6, none⟩ = some (.int .i64 s.sf) ∧ w'.cell? ⟨p, 7, none⟩ = some (.int .i64 s.sb) ∧ w'.cell? ⟨p, 8, none⟩ = some (.int .i64 s.sx)) X.drew := ⟨q1, c6, c7, c8⟩
  have k0 : Below X.heap.size X X.drew := (Below.refl _ _).drew
  have l1 := World.block_lt_of_cell? X _ q1
  have l2 := World.block_lt_of_cell? X _ c6
  clear q1 c4 c6 c7 c8
  refine wp_region_held_drew (S := (fun w' => w'.cell? ⟨W.heap.size, 0, none⟩ = some (.pointer (some ⟨p, 0, none⟩)) ∧ w'.cell? ⟨p, 6, none⟩ = some (.int .i64 s.sf) ∧ w'.cell? ⟨p, 7, none⟩ = some (.int .i64 s.sb) ∧ w'.cell? ⟨p, 8, none⟩ = some (.int .i64 s.sx))) (by kernel_rfl) e0 (fun hHeld => ?_)
  generalize X.drew = Z0 at *
  refine wpAnyH_take (i := 0) (oi := _) (v := ?_) rfl (by kernel_rfl) (by kernel_rfl) (by kernel_rfl) (fun _ _ _ h => h) (Or.inl ⟨by rfl, ?_⟩) hHeld ?_
  rotate_left
  ·intro w hSw
   (try dsimp only at hSw)
   go_simp
   (try with_reducible rfl)
  (try simp only [Act.put, List.setIfInBounds_toArray, List.set_cons_zero, List.set_cons_succ])
  refine wpAnyH_take (i := 1) (oi := _) (v := ?_) rfl (by kernel_rfl) (by kernel_rfl) (by kernel_rfl) (fun _ _ _ h => h) (Or.inl ⟨by rfl, ?_⟩) hHeld ?_
  rotate_left
  ·intro w hSw
   (try dsimp only at hSw)
   go_simp
   (try with_reducible rfl)
  (try simp only [Act.put, List.setIfInBounds_toArray, List.set_cons_zero, List.set_cons_succ])
  refine wpAnyH_take (i := 2) (oi := _) (v := ?_) rfl (by kernel_rfl) (by kernel_rfl) (by kernel_rfl) (fun _ _ _ h => h) (Or.inl ⟨by rfl, ?_⟩) hHeld ?_
  rotate_left
  ·intro w hSw
   (try dsimp only at hSw)
   go_simp
   (try with_reducible rfl)
  (try simp only [Act.put, List.setIfInBounds_toArray, List.set_cons_zero, List.set_cons_succ])
  refine wpAnyH_take (i := 3) (oi := _) (v := ?_) rfl (by kernel_rfl) (by kernel_rfl) (by kernel_rfl) (fun _ _ _ h => h) (Or.inl ⟨by rfl, ?_⟩) hHeld ?_
  rotate_left
  ·intro w hSw
   (try dsimp only at hSw)
   go_simp
   (try with_reducible rfl)
  (try simp only [Act.put, List.setIfInBounds_toArray, List.set_cons_zero, List.set_cons_succ])
  refine wpAnyH_take (i := 4) (oi := _) (v := ?_) rfl (by kernel_rfl) (by kernel_rfl) (by kernel_rfl) (fun _ _ _ h => h) (Or.inl ⟨by rfl, ?_⟩) hHeld ?_
  rotate_left
  ·intro w hSw
   (try dsimp only at hSw)
   go_simp
   (try with_reducible rfl)
  (try simp only [Act.put, List.setIfInBounds_toArray, List.set_cons_zero, List.set_cons_succ])
  refine wpAnyH_take (i := 5) (oi := _) (v := ?_) rfl (by kernel_rfl) (by kernel_rfl) (by kernel_rfl) (fun _ _ _ h => h) (Or.inl ⟨by rfl, ?_⟩) hHeld ?_
  rotate_left
  ·intro w hSw
   (try dsimp only at hSw)
   go_simp
   (try with_reducible rfl)
  (try simp only [Act.put, List.setIfInBounds_toArray, List.set_cons_zero, List.set_cons_succ])
  refine wpAnyH_take (i := 6) (oi := _) (v := ?_) rfl (by kernel_rfl) (by kernel_rfl) (by kernel_rfl) (fun _ _ _ h => h) (Or.inl ⟨by rfl, ?_⟩) hHeld ?_
  rotate_left
  ·intro w hSw
   (try dsimp only at hSw)
   go_simp
   (try with_reducible rfl)
  (try simp only [Act.put, List.setIfInBounds_toArray, List.set_cons_zero, List.set_cons_succ])
  refine wpAnyH_take (i := 7) (oi := _) (v := ?_) rfl (by kernel_rfl) (by kernel_rfl) (by kernel_rfl) (fun _ _ _ h => h) (Or.inl ⟨by rfl, ?_⟩) hHeld ?_
  rotate_left
  ·intro w hSw
   (try dsimp only at hSw)
   go_simp
   (try with_reducible rfl)
  (try simp only [Act.put, List.setIfInBounds_toArray, List.set_cons_zero, List.set_cons_succ])
  refine wpAnyH_take (i := 8) (oi := _) (v := ?_) rfl (by kernel_rfl) (by kernel_rfl) (by kernel_rfl) (fun _ _ _ h => h) (Or.inl ⟨by rfl, ?_⟩) hHeld ?_
  rotate_left
  ·intro w hSw
   (try dsimp only at hSw)
   go_simp
   (try with_reducible rfl)
  (try simp only [Act.put, List.setIfInBounds_toArray, List.set_cons_zero, List.set_cons_succ])
  refine wpAnyH_take (i := 9) (oi := _) (v := ?_) rfl (by kernel_rfl) (by kernel_rfl) (by kernel_rfl) (fun _ _ _ h => h) (Or.inl ⟨by rfl, ?_⟩) hHeld ?_
  rotate_left
  ·intro w hSw
   (try dsimp only at hSw)
   go_simp
   (try with_reducible rfl)
  (try simp only [Act.put, List.setIfInBounds_toArray, List.set_cons_zero, List.set_cons_succ])
  refine wpAnyH_take (i := 10) (oi := _) (v := ?_) rfl (by kernel_rfl) (by kernel_rfl) (by kernel_rfl) (fun _ _ _ h => h) (Or.inl ⟨by rfl, ?_⟩) hHeld ?_
  rotate_left
  ·intro w hSw
   (try dsimp only at hSw)
   go_simp
   (try with_reducible rfl)
  (try simp only [Act.put, List.setIfInBounds_toArray, List.set_cons_zero, List.set_cons_succ])
  refine wpAnyH_take (i := 11) (oi := _) (v := ?_) rfl (by kernel_rfl) (by kernel_rfl) (by kernel_rfl) (fun _ _ _ h => h) (Or.inl ⟨by rfl, ?_⟩) hHeld ?_
  rotate_left
  ·intro w hSw
   (try dsimp only at hSw)
   go_simp
   (try with_reducible rfl)
  (try simp only [Act.put, List.setIfInBounds_toArray, List.set_cons_zero, List.set_cons_succ])
  refine wpAnyH_take (i := 12) (oi := _) (v := ?_) rfl (by kernel_rfl) (by kernel_rfl) (by kernel_rfl) (fun _ _ _ h => h) (Or.inl ⟨by rfl, ?_⟩) hHeld ?_
  rotate_left
  ·intro w hSw
   (try dsimp only at hSw)
   go_simp
   (try with_reducible rfl)
  (try simp only [Act.put, List.setIfInBounds_toArray, List.set_cons_zero, List.set_cons_succ])
  refine wpAnyH_take (i := 14) (oi := _) (v := ?_) rfl (by kernel_rfl) (by kernel_rfl) (by kernel_rfl) (fun _ _ _ h => h) (Or.inl ⟨by rfl, ?_⟩) hHeld ?_
  rotate_left
  ·intro w hSw
   (try dsimp only at hSw)
   go_simp
   (try with_reducible rfl)
  (try simp only [Act.put, List.setIfInBounds_toArray, List.set_cons_zero, List.set_cons_succ])
  refine wpAnyH_ready (rs := [13, 15, 17]) (by kernel_rfl) (by simp) ?_
  refine AllReadyH.cons (o := _) rfl (fun K hK => ?_) <| AllReadyH.cons (o := _) rfl (fun K hK => ?_) <| AllReadyH.cons (o := _) rfl (fun K hK => ?_) <| AllReadyH.nil
  ·go_simp
   have ak := Va (.cells #[.int .i32 r, .int .i64 s.sf, .int .i64 s.sb, .int .i64 s.sx, .int .i32 0, .int .i64 s.sf, .int .i64 s.sb, .int .i64 s.sx] 57) k0
   have hg := heap_alloc_new _ (.cells #[.int .i32 r, .int .i64 s.sf, .int .i64 s.sb, .int .i64 s.sx, .int .i32 0, .int .i64 s.sf, .int .i64 s.sb, .int .i64 s.sx] 57) |> qbf k0
   have k1 := k0.alloc k0.size (.cells #[.int .i32 r, .int .i64 s.sf, .int .i64 s.sb, .int .i64 s.sx, .int .i32 0, .int .i64 s.sf, .int .i64 s.sb, .int .i64 s.sx] 57)
   have e1 := Gp ak e0
   clear ak
   refine hK.out _ _ e1 (fun hHeld => ?_)
   clear hK K
   (try simp only [Act.put, List.setIfInBounds_toArray, List.set_cons_zero, List.set_cons_succ])
   generalize Z0.alloc (.cells #[.int .i32 r, .int .i64 s.sf, .int .i64 s.sb, .int .i64 s.sx, .int .i32 0, .int .i64 s.sf, .int .i64 s.sb, .int .i64 s.sx] 57) = Z1 at *
   refine wpAnyH_ready (rs := [15, 17]) (by kernel_rfl) (by simp) ?_
   refine AllReadyH.cons (o := _) rfl (fun K hK => ?_) <| AllReadyH.cons (o := _) rfl (fun K hK => ?_) <| AllReadyH.nil
   ·go_simp
    refine (HWD.out _ (TX.out _ k1)).mono ?_
    rintro e Z2 ⟨rfl, bv⟩
    have k2 := k1.trans (bv.mono k1.size)
    have e2 := Gp bv e1
    replace hg := Grd.carry hg bv
    clear bv
    go_wp2_with fail
    refine hK.out _ _ e2 (fun hHeld => ?_)
    clear hK K
    (try simp only [Act.put, List.setIfInBounds_toArray, List.set_cons_zero, List.set_cons_succ])
    refine wpAnyH_take (i := 16) (oi := _) (v := ?_) rfl (by kernel_rfl) (by kernel_rfl) (by kernel_rfl) (fun _ _ _ h => h) (Or.inl ⟨by rfl, ?_⟩) hHeld ?_
    rotate_left
    ·intro w hSw
     (try dsimp only at hSw)
     go_simp
     (try with_reducible rfl)
    (try simp only [Act.put, List.setIfInBounds_toArray, List.set_cons_zero, List.set_cons_succ])
    refine wpAnyH_ready (rs := [17]) (by kernel_rfl) (by simp) ?_
    refine AllReadyH.cons (o := _) rfl (fun K hK => ?_) <| AllReadyH.nil
    ·go_simp
     have ak := Va (.cells #[.slice none 0 0] 22) k2
     replace hg := qdw (.cells #[.slice none 0 0] 22) hg
     have hb := heap_alloc_new _ (.cells #[.slice none 0 0] 22) |> qbf k2
     have lb := k2.size
     have k3 := k2.alloc k2.size (.cells #[.slice none 0 0] 22)
     have e3 := Gp ak e2
     clear ak
     refine hK.out _ _ e3 (fun hHeld => ?_)
     clear hK K
     (try simp only [Act.put, List.setIfInBounds_toArray, List.set_cons_zero, List.set_cons_succ])
     generalize Z2.alloc (.cells #[.slice none 0 0] 22) = Z3 at *
     have fb := Put.J4 hb
     have ff := Grd.Jk hb 0
     refine wpAnyH_ready (rs := [18]) (by kernel_rfl) (by simp) ?_
     refine AllReadyH.cons (o := _) rfl (fun K hK => ?_) AllReadyH.nil
     go_simp
     refine hK.out _ _ (off4 hb e3 (Nat.ne_of_gt (Nat.lt_of_lt_of_le l1 lb)) (Nat.ne_of_gt (Nat.lt_of_lt_of_le l2 lb))) (fun hHeld => ?_)
     clear hK K
     (try simp only [Act.put, List.setIfInBounds_toArray, List.set_cons_zero, List.set_cons_succ])
     refine wpAnyH_done (by kernel_rfl) ?_ _
     refine NoPanic.normal ?_
     go_wp2_with fail
     go_meet
     exact ⟨_, _, rfl, Uq HMC.out hb hg k3 lb⟩
   ·go_simp
    have ak := Va (.cells #[.slice none 0 0] 22) k1
    replace hg := qdw (.cells #[.slice none 0 0] 22) hg
    have hb := heap_alloc_new _ (.cells #[.slice none 0 0] 22) |> qbf k1
    have lb := k1.size
    have k2 := k1.alloc k1.size (.cells #[.slice none 0 0] 22)
    have e2 := Gp ak e1
    clear ak
    refine hK.out _ _ e2 (fun hHeld => ?_)
    clear hK K
    (try simp only [Act.put, List.setIfInBounds_toArray, List.set_cons_zero, List.set_cons_succ])
    generalize Z1.alloc (.cells #[.slice none 0 0] 22) = Z2 at *
    refine wpAnyH_ready (rs := [15]) (by kernel_rfl) (by simp) ?_
    refine AllReadyH.cons (o := _) rfl (fun K hK => ?_) <| AllReadyH.nil
    ·go_simp
     refine (HWD.out _ (TX.out _ k2)).mono ?_
     rintro e Z3 ⟨rfl, bv⟩
     have k3 := k2.trans (bv.mono k2.size)
     have e3 := Gp bv e2
     replace hg := Grd.carry hg bv
     replace hb := Grd.carry hb bv
     clear bv
     go_wp2_with fail
     refine hK.out _ _ e3 (fun hHeld => ?_)
     clear hK K
     (try simp only [Act.put, List.setIfInBounds_toArray, List.set_cons_zero, List.set_cons_succ])
     refine wpAnyH_take (i := 16) (oi := _) (v := ?_) rfl (by kernel_rfl) (by kernel_rfl) (by kernel_rfl) (fun _ _ _ h => h) (Or.inl ⟨by rfl, ?_⟩) hHeld ?_
     rotate_left
     ·intro w hSw
      (try dsimp only at hSw)
      go_simp
      (try with_reducible rfl)
     (try simp only [Act.put, List.setIfInBounds_toArray, List.set_cons_zero, List.set_cons_succ])
     have fb := Put.J4 hb
     have ff := Grd.Jk hb 0
     refine wpAnyH_ready (rs := [18]) (by kernel_rfl) (by simp) ?_
     refine AllReadyH.cons (o := _) rfl (fun K hK => ?_) AllReadyH.nil
     go_simp
     refine hK.out _ _ (off4 hb e3 (Nat.ne_of_gt (Nat.lt_of_lt_of_le l1 lb)) (Nat.ne_of_gt (Nat.lt_of_lt_of_le l2 lb))) (fun hHeld => ?_)
     clear hK K
     (try simp only [Act.put, List.setIfInBounds_toArray, List.set_cons_zero, List.set_cons_succ])
     refine wpAnyH_done (by kernel_rfl) ?_ _
     refine NoPanic.normal ?_
     go_wp2_with fail
     go_meet
     exact ⟨_, _, rfl, Uq HMC.out hb hg k3 lb⟩
  ·go_simp
   refine (HWD.out _ (TX.out _ k0)).mono ?_
   rintro e Z1 ⟨rfl, bv⟩
   have k1 := k0.trans (bv.mono k0.size)
   have e1 := Gp bv e0
   clear bv
   go_wp2_with fail
   refine hK.out _ _ e1 (fun hHeld => ?_)
   clear hK K
   (try simp only [Act.put, List.setIfInBounds_toArray, List.set_cons_zero, List.set_cons_succ])
   refine wpAnyH_ready (rs := [13, 17]) (by kernel_rfl) (by simp) ?_
   refine AllReadyH.cons (o := _) rfl (fun K hK => ?_) <| AllReadyH.cons (o := _) rfl (fun K hK => ?_) <| AllReadyH.nil
   ·go_simp
    have ak := Va (.cells #[.int .i32 r, .int .i64 s.sf, .int .i64 s.sb, .int .i64 s.sx, .int .i32 0, .int .i64 s.sf, .int .i64 s.sb, .int .i64 s.sx] 57) k1
    have hg := heap_alloc_new _ (.cells #[.int .i32 r, .int .i64 s.sf, .int .i64 s.sb, .int .i64 s.sx, .int .i32 0, .int .i64 s.sf, .int .i64 s.sb, .int .i64 s.sx] 57) |> qbf k1
    have k2 := k1.alloc k1.size (.cells #[.int .i32 r, .int .i64 s.sf, .int .i64 s.sb, .int .i64 s.sx, .int .i32 0, .int .i64 s.sf, .int .i64 s.sb, .int .i64 s.sx] 57)
    have e2 := Gp ak e1
    clear ak
    refine hK.out _ _ e2 (fun hHeld => ?_)
    clear hK K
    (try simp only [Act.put, List.setIfInBounds_toArray, List.set_cons_zero, List.set_cons_succ])
    generalize Z1.alloc (.cells #[.int .i32 r, .int .i64 s.sf, .int .i64 s.sb, .int .i64 s.sx, .int .i32 0, .int .i64 s.sf, .int .i64 s.sb, .int .i64 s.sx] 57) = Z2 at *
    refine wpAnyH_take (i := 16) (oi := _) (v := ?_) rfl (by kernel_rfl) (by kernel_rfl) (by kernel_rfl) (fun _ _ _ h => h) (Or.inl ⟨by rfl, ?_⟩) hHeld ?_
    rotate_left
    ·intro w hSw
     (try dsimp only at hSw)
     go_simp
     (try with_reducible rfl)
    (try simp only [Act.put, List.setIfInBounds_toArray, List.set_cons_zero, List.set_cons_succ])
    refine wpAnyH_ready (rs := [17]) (by kernel_rfl) (by simp) ?_
    refine AllReadyH.cons (o := _) rfl (fun K hK => ?_) <| AllReadyH.nil
    ·go_simp
     have ak := Va (.cells #[.slice none 0 0] 22) k2
     replace hg := qdw (.cells #[.slice none 0 0] 22) hg
     have hb := heap_alloc_new _ (.cells #[.slice none 0 0] 22) |> qbf k2
     have lb := k2.size
     have k3 := k2.alloc k2.size (.cells #[.slice none 0 0] 22)
     have e3 := Gp ak e2
     clear ak
     refine hK.out _ _ e3 (fun hHeld => ?_)
     clear hK K
     (try simp only [Act.put, List.setIfInBounds_toArray, List.set_cons_zero, List.set_cons_succ])
     generalize Z2.alloc (.cells #[.slice none 0 0] 22) = Z3 at *
     have fb := Put.J4 hb
     have ff := Grd.Jk hb 0
     refine wpAnyH_ready (rs := [18]) (by kernel_rfl) (by simp) ?_
     refine AllReadyH.cons (o := _) rfl (fun K hK => ?_) AllReadyH.nil
     go_simp
     refine hK.out _ _ (off4 hb e3 (Nat.ne_of_gt (Nat.lt_of_lt_of_le l1 lb)) (Nat.ne_of_gt (Nat.lt_of_lt_of_le l2 lb))) (fun hHeld => ?_)
     clear hK K
     (try simp only [Act.put, List.setIfInBounds_toArray, List.set_cons_zero, List.set_cons_succ])
     refine wpAnyH_done (by kernel_rfl) ?_ _
     refine NoPanic.normal ?_
     go_wp2_with fail
     go_meet
     exact ⟨_, _, rfl, Uq HMC.out hb hg k3 lb⟩
   ·go_simp
    have ak := Va (.cells #[.slice none 0 0] 22) k1
    have hb := heap_alloc_new _ (.cells #[.slice none 0 0] 22) |> qbf k1
    have lb := k1.size
    have k2 := k1.alloc k1.size (.cells #[.slice none 0 0] 22)
    have e2 := Gp ak e1
    clear ak
    refine hK.out _ _ e2 (fun hHeld => ?_)
    clear hK K
    (try simp only [Act.put, List.setIfInBounds_toArray, List.set_cons_zero, List.set_cons_succ])
    generalize Z1.alloc (.cells #[.slice none 0 0] 22) = Z2 at *
    refine wpAnyH_ready (rs := [13]) (by kernel_rfl) (by simp) ?_
    refine AllReadyH.cons (o := _) rfl (fun K hK => ?_) <| AllReadyH.nil
    ·go_simp
     have ak := Va (.cells #[.int .i32 r, .int .i64 s.sf, .int .i64 s.sb, .int .i64 s.sx, .int .i32 0, .int .i64 s.sf, .int .i64 s.sb, .int .i64 s.sx] 57) k2
     replace hb := qdw (.cells #[.int .i32 r, .int .i64 s.sf, .int .i64 s.sb, .int .i64 s.sx, .int .i32 0, .int .i64 s.sf, .int .i64 s.sb, .int .i64 s.sx] 57) hb
     have hg := heap_alloc_new _ (.cells #[.int .i32 r, .int .i64 s.sf, .int .i64 s.sb, .int .i64 s.sx, .int .i32 0, .int .i64 s.sf, .int .i64 s.sb, .int .i64 s.sx] 57) |> qbf k2
     have k3 := k2.alloc k2.size (.cells #[.int .i32 r, .int .i64 s.sf, .int .i64 s.sb, .int .i64 s.sx, .int .i32 0, .int .i64 s.sf, .int .i64 s.sb, .int .i64 s.sx] 57)
     have e3 := Gp ak e2
     clear ak
     refine hK.out _ _ e3 (fun hHeld => ?_)
     clear hK K
     (try simp only [Act.put, List.setIfInBounds_toArray, List.set_cons_zero, List.set_cons_succ])
     generalize Z2.alloc (.cells #[.int .i32 r, .int .i64 s.sf, .int .i64 s.sb, .int .i64 s.sx, .int .i32 0, .int .i64 s.sf, .int .i64 s.sb, .int .i64 s.sx] 57) = Z3 at *
     refine wpAnyH_take (i := 16) (oi := _) (v := ?_) rfl (by kernel_rfl) (by kernel_rfl) (by kernel_rfl) (fun _ _ _ h => h) (Or.inl ⟨by rfl, ?_⟩) hHeld ?_
     rotate_left
     ·intro w hSw
      (try dsimp only at hSw)
      go_simp
      (try with_reducible rfl)
     (try simp only [Act.put, List.setIfInBounds_toArray, List.set_cons_zero, List.set_cons_succ])
     have fb := Put.J4 hb
     have ff := Grd.Jk hb 0
     refine wpAnyH_ready (rs := [18]) (by kernel_rfl) (by simp) ?_
     refine AllReadyH.cons (o := _) rfl (fun K hK => ?_) AllReadyH.nil
     go_simp
     refine hK.out _ _ (off4 hb e3 (Nat.ne_of_gt (Nat.lt_of_lt_of_le l1 lb)) (Nat.ne_of_gt (Nat.lt_of_lt_of_le l2 lb))) (fun hHeld => ?_)
     clear hK K
     (try simp only [Act.put, List.setIfInBounds_toArray, List.set_cons_zero, List.set_cons_succ])
     refine wpAnyH_done (by kernel_rfl) ?_ _
     refine NoPanic.normal ?_
     go_wp2_with fail
     go_meet
     exact ⟨_, _, rfl, Uq HMC.out hb hg k3 lb⟩
  ·go_simp
   have ak := Va (.cells #[.slice none 0 0] 22) k0
   have hb := heap_alloc_new _ (.cells #[.slice none 0 0] 22) |> qbf k0
   have lb := k0.size
   have k1 := k0.alloc k0.size (.cells #[.slice none 0 0] 22)
   have e1 := Gp ak e0
   clear ak
   refine hK.out _ _ e1 (fun hHeld => ?_)
   clear hK K
   (try simp only [Act.put, List.setIfInBounds_toArray, List.set_cons_zero, List.set_cons_succ])
   generalize Z0.alloc (.cells #[.slice none 0 0] 22) = Z1 at *
   refine wpAnyH_ready (rs := [13, 15]) (by kernel_rfl) (by simp) ?_
   refine AllReadyH.cons (o := _) rfl (fun K hK => ?_) <| AllReadyH.cons (o := _) rfl (fun K hK => ?_) <| AllReadyH.nil
   ·go_simp
    have ak := Va (.cells #[.int .i32 r, .int .i64 s.sf, .int .i64 s.sb, .int .i64 s.sx, .int .i32 0, .int .i64 s.sf, .int .i64 s.sb, .int .i64 s.sx] 57) k1
    replace hb := qdw (.cells #[.int .i32 r, .int .i64 s.sf, .int .i64 s.sb, .int .i64 s.sx, .int .i32 0, .int .i64 s.sf, .int .i64 s.sb, .int .i64 s.sx] 57) hb
    have hg := heap_alloc_new _ (.cells #[.int .i32 r, .int .i64 s.sf, .int .i64 s.sb, .int .i64 s.sx, .int .i32 0, .int .i64 s.sf, .int .i64 s.sb, .int .i64 s.sx] 57) |> qbf k1
    have k2 := k1.alloc k1.size (.cells #[.int .i32 r, .int .i64 s.sf, .int .i64 s.sb, .int .i64 s.sx, .int .i32 0, .int .i64 s.sf, .int .i64 s.sb, .int .i64 s.sx] 57)
    have e2 := Gp ak e1
    clear ak
    refine hK.out _ _ e2 (fun hHeld => ?_)
    clear hK K
    (try simp only [Act.put, List.setIfInBounds_toArray, List.set_cons_zero, List.set_cons_succ])
    generalize Z1.alloc (.cells #[.int .i32 r, .int .i64 s.sf, .int .i64 s.sb, .int .i64 s.sx, .int .i32 0, .int .i64 s.sf, .int .i64 s.sb, .int .i64 s.sx] 57) = Z2 at *
    refine wpAnyH_ready (rs := [15]) (by kernel_rfl) (by simp) ?_
    refine AllReadyH.cons (o := _) rfl (fun K hK => ?_) <| AllReadyH.nil
    ·go_simp
     refine (HWD.out _ (TX.out _ k2)).mono ?_
     rintro e Z3 ⟨rfl, bv⟩
     have k3 := k2.trans (bv.mono k2.size)
     have e3 := Gp bv e2
     replace hg := Grd.carry hg bv
     replace hb := Grd.carry hb bv
     clear bv
     go_wp2_with fail
     refine hK.out _ _ e3 (fun hHeld => ?_)
     clear hK K
     (try simp only [Act.put, List.setIfInBounds_toArray, List.set_cons_zero, List.set_cons_succ])
     refine wpAnyH_take (i := 16) (oi := _) (v := ?_) rfl (by kernel_rfl) (by kernel_rfl) (by kernel_rfl) (fun _ _ _ h => h) (Or.inl ⟨by rfl, ?_⟩) hHeld ?_
     rotate_left
     ·intro w hSw
      (try dsimp only at hSw)
      go_simp
      (try with_reducible rfl)
     (try simp only [Act.put, List.setIfInBounds_toArray, List.set_cons_zero, List.set_cons_succ])
     have fb := Put.J4 hb
     have ff := Grd.Jk hb 0
     refine wpAnyH_ready (rs := [18]) (by kernel_rfl) (by simp) ?_
     refine AllReadyH.cons (o := _) rfl (fun K hK => ?_) AllReadyH.nil
     go_simp
     refine hK.out _ _ (off4 hb e3 (Nat.ne_of_gt (Nat.lt_of_lt_of_le l1 lb)) (Nat.ne_of_gt (Nat.lt_of_lt_of_le l2 lb))) (fun hHeld => ?_)
     clear hK K
     (try simp only [Act.put, List.setIfInBounds_toArray, List.set_cons_zero, List.set_cons_succ])
     refine wpAnyH_done (by kernel_rfl) ?_ _
     refine NoPanic.normal ?_
     go_wp2_with fail
     go_meet
     exact ⟨_, _, rfl, Uq HMC.out hb hg k3 lb⟩
   ·go_simp
    refine (HWD.out _ (TX.out _ k1)).mono ?_
    rintro e Z2 ⟨rfl, bv⟩
    have k2 := k1.trans (bv.mono k1.size)
    have e2 := Gp bv e1
    replace hb := Grd.carry hb bv
    clear bv
    go_wp2_with fail
    refine hK.out _ _ e2 (fun hHeld => ?_)
    clear hK K
    (try simp only [Act.put, List.setIfInBounds_toArray, List.set_cons_zero, List.set_cons_succ])
    refine wpAnyH_ready (rs := [13]) (by kernel_rfl) (by simp) ?_
    refine AllReadyH.cons (o := _) rfl (fun K hK => ?_) <| AllReadyH.nil
    ·go_simp
     have ak := Va (.cells #[.int .i32 r, .int .i64 s.sf, .int .i64 s.sb, .int .i64 s.sx, .int .i32 0, .int .i64 s.sf, .int .i64 s.sb, .int .i64 s.sx] 57) k2
     replace hb := qdw (.cells #[.int .i32 r, .int .i64 s.sf, .int .i64 s.sb, .int .i64 s.sx, .int .i32 0, .int .i64 s.sf, .int .i64 s.sb, .int .i64 s.sx] 57) hb
     have hg := heap_alloc_new _ (.cells #[.int .i32 r, .int .i64 s.sf, .int .i64 s.sb, .int .i64 s.sx, .int .i32 0, .int .i64 s.sf, .int .i64 s.sb, .int .i64 s.sx] 57) |> qbf k2
     have k3 := k2.alloc k2.size (.cells #[.int .i32 r, .int .i64 s.sf, .int .i64 s.sb, .int .i64 s.sx, .int .i32 0, .int .i64 s.sf, .int .i64 s.sb, .int .i64 s.sx] 57)
     have e3 := Gp ak e2
     clear ak
     refine hK.out _ _ e3 (fun hHeld => ?_)
     clear hK K
     (try simp only [Act.put, List.setIfInBounds_toArray, List.set_cons_zero, List.set_cons_succ])
     generalize Z2.alloc (.cells #[.int .i32 r, .int .i64 s.sf, .int .i64 s.sb, .int .i64 s.sx, .int .i32 0, .int .i64 s.sf, .int .i64 s.sb, .int .i64 s.sx] 57) = Z3 at *
     refine wpAnyH_take (i := 16) (oi := _) (v := ?_) rfl (by kernel_rfl) (by kernel_rfl) (by kernel_rfl) (fun _ _ _ h => h) (Or.inl ⟨by rfl, ?_⟩) hHeld ?_
     rotate_left
     ·intro w hSw
      (try dsimp only at hSw)
      go_simp
      (try with_reducible rfl)
     (try simp only [Act.put, List.setIfInBounds_toArray, List.set_cons_zero, List.set_cons_succ])
     have fb := Put.J4 hb
     have ff := Grd.Jk hb 0
     refine wpAnyH_ready (rs := [18]) (by kernel_rfl) (by simp) ?_
     refine AllReadyH.cons (o := _) rfl (fun K hK => ?_) AllReadyH.nil
     go_simp
     refine hK.out _ _ (off4 hb e3 (Nat.ne_of_gt (Nat.lt_of_lt_of_le l1 lb)) (Nat.ne_of_gt (Nat.lt_of_lt_of_le l2 lb))) (fun hHeld => ?_)
     clear hK K
     (try simp only [Act.put, List.setIfInBounds_toArray, List.set_cons_zero, List.set_cons_succ])
     refine wpAnyH_done (by kernel_rfl) ?_ _
     refine NoPanic.normal ?_
     go_wp2_with fail
     go_meet
     exact ⟨_, _, rfl, Uq HMC.out hb hg k3 lb⟩
 case rest =>
  obtain ⟨Bc, g, rfl, lb, hb, hM, kx⟩ := hcut
  have HM : Hid (Qb wc g 0 (Js (s.sf, s.sb, s.sx) r)) := hM
  have d0 := Qa kx q1
  have d4 := Qa kx c4
  have fb := J4 hb
  have HKC : Hid (Below W.heap.size W wc) := HKB.out.trans (kx.mono HKB.out.size)
  have HR := HA.out wc.drew Bc g (HKC.out.drew) d0 fb HM.out
  clear q1 c4 c6 c7 c8 hb hM kx HM fb HA
  go_upto_region 2 with fail
  go_region_with (first | (go_at_call 114; refine HR.mono ?_; rintro e V ⟨rfl, hV, bV, fV⟩))
  all_goals go_wp2_with fail
  all_goals go_end0
  all_goals exact ⟨rfl, hV, (HKC.out.drew.mono hNW).trans bV, (Qy.of_below HKC.out.drew).trans fV⟩
end Put
namespace Put
open Grd (C SliceAt Qb Qf z0 Qx flat Qe)
open Sty (Q3)
open Txt (wd)
def Jg (s : Scr) (k : Int) : Bool := decide (k ≤ s.w - s.x)
def Kb (s : Scr) (k : Int) : Bool := s.late || (hasB s.modes 4 && !Jg s k)
theorem qsz : qcp 3 := by unfold qcp; decide
theorem qga : Plain 64 := by
 intro args W
 kernel_rfl
set_option maxHeartbeats 1000000 in
theorem qcm (W : World) (M N p Bw Bp : Nat) (s : Scr) (rows : List (List C)) (k : Int) (hS : ShAt 111 W M N p s rows) (hw : W.cell? ⟨Bw, 0, none⟩ = some (.int .i64 k)) (hp : W.cell? ⟨Bp, 0, none⟩ = some (.pointer (some ⟨p, 0, none⟩))) (h0 : 0 ≤ s.x) (h1 : s.x ≤ 120) (w1 : 1 ≤ s.w) (w2 : s.w ≤ 120) :
  Calls Tryz.prog 64 #[.pointer (some ⟨Bw, 0, none⟩), .pointer (some ⟨Bp, 0, none⟩)] W fun e W' => e = .returned (.bool (Jg s k)) ∧ W' = W.drew := by
 obtain ⟨c0, c1, c3, c4, c5, c9, c10, c11, c19, f⟩ := hS.words
 clear c1 c4 c5 c9 c10 c11 c19 f hS
 have hwr : IntKind.i64.wrap (s.w - s.x) = s.w - s.x := Zj _ (by omega) (by omega)
 unfold Jg
 go_enter Tryz.func64, Tryz.ntmps64
 go_upto_region 1 with fail
 go_region
 go_wp2_with fail
 go_ret
 exact ⟨rfl, rfl⟩
structure Own (X : World) (p Bp Bw : Nat) (k : Int) : Prop where
 bp : X.heap[Bp]? = some (.cells #[.pointer (some ⟨p, 0, none⟩)] 84 (0, 0))
 bw : X.heap[Bw]? = some (.cells #[.int .i64 k] 3 (0, 0))
theorem Own.next {X Y : World} {p Bp Bw : Nat} {k : Int} (h : Own X p Bp Bw k) (hf : Qy X Y) : Own Y p Bp Bw k := ⟨hf _ _ h.bp (qd6 qvb), hf _ _ h.bw (qd6 qsz)⟩
structure Way (W X : World) (M N p Bp Bw : Nat) (k : Int) (s : Scr) (rows : List (List C)) : Prop where
 o : Own X p Bp Bw k
 s : ShAt 111 X M N p s rows
 b : Below N W X
 f : Qy W X
theorem Way.ran {W X Y : World} {M N p Bp Bw : Nat} {k : Int} {s s' : Scr} {rows rows' : List (List C)} {e : Ending} (h : Way W X M N p Bp Bw k s rows) (hr : Ran X M N p s' rows' e Y) : Way W Y M N p Bp Bw k s' rows' := ⟨h.o.next hr.2.2.2, hr.2.1, h.b.trans hr.2.2.1, h.f.trans hr.2.2.2⟩
theorem Way.drew {W X : World} {M N p Bp Bw : Nat} {k : Int} {s : Scr} {rows : List (List C)} (h : Way W X M N p Bp Bw k s rows) : Way W X.drew M N p Bp Bw k s rows := ⟨h.o.next (Qy.of_below ((Below.refl _ _).drew)), h.s.drew, h.b.drew, h.f.trans (Qy.of_below ((Below.refl _ _).drew))⟩
theorem Way.cells {W X : World} {M N p Bp Bw : Nat} {k : Int} {s : Scr} {rows : List (List C)} (h : Way W X M N p Bp Bw k s rows) : X.cell? ⟨Bp, 0, none⟩ = some (.pointer (some ⟨p, 0, none⟩)) ∧ X.cell? ⟨Bw, 0, none⟩ = some (.int .i64 k) := ⟨J4 h.o.bp, J4 h.o.bw⟩
theorem qay {W W1 : World} {M N p : Nat} {k : Int} {s : Scr} {rows : List (List C)} (hS : ShAt 111 W M N p s rows) (kb : Below W.heap.size W (W.alloc (.cells #[.pointer (some ⟨p, 0, none⟩)] 84))) (hx : (W.alloc (.cells #[.pointer (some ⟨p, 0, none⟩)] 84)).heap[W.heap.size]? = some (.cells #[.pointer (some ⟨p, 0, none⟩)] 84 (0, 0))) (b1 : Below (W.alloc (.cells #[.pointer (some ⟨p, 0, none⟩)] 84)).heap.size (W.alloc (.cells #[.pointer (some ⟨p, 0, none⟩)] 84)) W1) :
  Way W (W1.alloc (.cells #[.int .i64 k] 3)) M N p W.heap.size W1.heap.size k s rows := by
 have hb : Below W.heap.size W (W1.alloc (.cells #[.int .i64 k] 3)) := (kb.trans (b1.mono kb.size)).alloc (kb.trans (b1.mono kb.size)).size _
 have hNW : N ≤ W.heap.size := by
  obtain ⟨cv, tv, gv, rv, gvs, vs, h⟩ := hS
  have := h.lo
  have := Qc h.blk
  omega
 refine ⟨⟨?_, heap_alloc_new W1 _⟩, hS.next hb, hb.mono hNW, Qy.of_below hb⟩
 have h1 := Grd.carry hx b1
 exact (Below.heap_alloc W1 _ _ (Qc h1)).trans h1
set_option maxHeartbeats 4000000 in
theorem qpo (W : World) (M N p : Nat) (s : Scr) (rows : List (List C)) (r : Int) (hT : Txt.Tab W) (hS : ShAt 111 W M N p s rows) (hsk : wd r = 0 ∨ s.w < wd r) :
  Calls Tryz.prog 38 #[.pointer (some ⟨p, 0, none⟩), .int .i32 r] W (Ran W M N p s rows) := by
 have kb : Below W.heap.size W (W.alloc (.cells #[.pointer (some ⟨p, 0, none⟩)] 84)) := (Below.refl _ _).alloc (Nat.le_refl _) _
 have hx0 := heap_alloc_new W (.cells #[.pointer (some ⟨p, 0, none⟩)] 84)
 have HW := Txt.J3 r (W.alloc (.cells #[.pointer (some ⟨p, 0, none⟩)] 84)) (Grd.Tab.next hT kb)
 have HX0 : Hid _ := hx0
 have HKB : Hid _ := kb
 have HS : Hid (ShAt 111 W M N p s rows) := hS
 clear hx0 kb hS hT
 generalize wd r = k at *
 by_cases k0 : k = 0
 ·have q0 : (k == 0) = true := by rw [beq_iff_eq]; exact k0
  clear k0 hsk
  go_enter Tryz.func38, Tryz.ntmps38
  go_wp2_with fail
  refine HW.mono ?_
  rintro e W1 ⟨rfl, b1⟩
  have hw := qay HS.out HKB.out HX0.out b1 (k := k)
  clear HW b1 HX0 HKB
  go_upto_region 2 with fail
  generalize hB : W1.heap.size = Bw at *
  clear hB
  generalize (W1.alloc (.cells #[.int .i64 k] 3)) = X at *
  have HWY : Hid (Way W X M N p W.heap.size Bw k s rows) := hw
  obtain ⟨cp, cw⟩ := hw.cells
  clear hw HS
  go_region
  go_wp2_with fail
  refine bodyPost_ret (v := .tuple #[]) (results_none rfl _ _ _) rfl ?_
  exact ⟨rfl, HWY.out.drew.s, HWY.out.drew.b, HWY.out.drew.f⟩
 ·have q0 : (k == 0) = false := by rw [beq_eq_false_iff_ne]; exact k0
  have q1 : s.w < k := by omega
  clear k0 hsk
  go_enter Tryz.func38, Tryz.ntmps38
  go_wp2_with fail
  refine HW.mono ?_
  rintro e W1 ⟨rfl, b1⟩
  have hw := qay HS.out HKB.out HX0.out b1 (k := k)
  clear HW b1 HX0 HKB
  go_upto_region 2 with fail
  generalize hB : W1.heap.size = Bw at *
  clear hB
  generalize (W1.alloc (.cells #[.int .i64 k] 3)) = X at *
  have HWY : Hid (Way W X M N p W.heap.size Bw k s rows) := hw
  obtain ⟨cp, cw⟩ := hw.cells
  obtain ⟨c0, -⟩ := hw.s.words
  clear hw HS
  go_region
  go_wp2_with fail
  refine bodyPost_ret (v := .tuple #[]) (results_none rfl _ _ _) rfl ?_
  exact ⟨rfl, HWY.out.drew.s, HWY.out.drew.b, HWY.out.drew.f⟩
structure Fed (W : World) (M N p : Nat) (k : Int) (s s1 : Scr) (rows rows1 : List (List C)) : Prop where
 go : Kb s k = true → ∀ X, Below N W X → ShAt 111 X M N p { s with x := 0 } rows → Calls Tryz.prog 66 #[.pointer (some ⟨p, 0, none⟩)] X (Ran X M N p s1 rows1)
 no : Kb s k = false → s1 = s ∧ rows1 = rows
 w : s1.w = s.w
 x0 : 0 ≤ s1.x
 x1 : s1.x ≤ 120
set_option maxHeartbeats 8000000 in
theorem qhc (W : World) (M N p : Nat) (s s1 : Scr) (rows rows1 rows2 rows3 : List (List C)) (r : Int) (hT : Txt.Tab W) (hS : ShAt 111 W M N p s rows) (hk0 : wd r ≠ 0) (hkw : wd r ≤ s.w) (h0 : 0 ≤ s.x) (h1 : s.x ≤ 120) (w1 : 1 ≤ s.w) (w2 : s.w ≤ 120)
  (hF : Fed W M N p (wd r) s s1 rows rows1) (hft : Jg s1 (wd r) = true)
  (hR : hasB s1.modes 1 = true → ∀ X, Below N W X → ShAt 111 X M N p s1 rows1 → Calls Tryz.prog 67 #[.pointer (some ⟨p, 0, none⟩), .int .i64 (wd r)] X (Ran X M N p s1 rows2)) (hR2 : hasB s1.modes 1 = false → rows2 = rows1)
  (hW : ∀ X, Below N W X → ShAt 111 X M N p s1 rows2 → Calls Tryz.prog 68 #[.pointer (some ⟨p, 0, none⟩), .int .i32 r] X (Ran X M N p s1 rows3)) :
  Calls Tryz.prog 38 #[.pointer (some ⟨p, 0, none⟩), .int .i32 r] W (Ran W M N p { Ke s1 (wd r) with last := r } rows3) := by
 have kb : Below W.heap.size W (W.alloc (.cells #[.pointer (some ⟨p, 0, none⟩)] 84)) := (Below.refl _ _).alloc (Nat.le_refl _) _
 have hx0 := heap_alloc_new W (.cells #[.pointer (some ⟨p, 0, none⟩)] 84)
 have HW := Txt.J3 r (W.alloc (.cells #[.pointer (some ⟨p, 0, none⟩)] 84)) (Grd.Tab.next hT kb)
 have HX0 : Hid _ := hx0
 have HKB : Hid _ := kb
 have HS : Hid (ShAt 111 W M N p s rows) := hS
 have hkr := Txt.Vp r
 have HF : Hid (Fed W M N p (wd r) s s1 rows rows1) := hF
 have HFT : Hid (Jg s1 (wd r) = true) := hft
 have HR : Hid (hasB s1.modes 1 = true → ∀ X, Below N W X → ShAt 111 X M N p s1 rows1 → Calls Tryz.prog 67 #[.pointer (some ⟨p, 0, none⟩), .int .i64 (wd r)] X (Ran X M N p s1 rows2)) := hR
 have HR2 : Hid (hasB s1.modes 1 = false → rows2 = rows1) := hR2
 have HWT : Hid (∀ X, Below N W X → ShAt 111 X M N p s1 rows2 → Calls Tryz.prog 68 #[.pointer (some ⟨p, 0, none⟩), .int .i32 r] X (Ran X M N p s1 rows3)) := hW
 clear hx0 kb hS hT hF hft hR hR2 hW
 generalize wd r = k at *
 have q0 : (k == 0) = false := by rw [beq_eq_false_iff_ne]; exact hk0
 have q1 : ¬ s.w < k := by omega
 have hpf := qga
 unfold Plain at hpf
 go_enter Tryz.func38, Tryz.ntmps38
 go_wp2_with fail
 refine HW.mono ?_
 rintro e W1 ⟨rfl, b1⟩
 have hw := qay HS.out HKB.out HX0.out b1 (k := k)
 clear HW b1 HX0 HKB
 go_upto_region 2 with fail
 generalize hB : W1.heap.size = Bw at *
 clear hB
 generalize (W1.alloc (.cells #[.int .i64 k] 3)) = X at *
 have HWY : Hid (Way W X M N p W.heap.size Bw k s rows) := hw
 obtain ⟨cp, cw⟩ := hw.cells
 obtain ⟨c0, -⟩ := hw.s.words
 clear hw HS
 go_region
 have HW2 : Hid (Way W X.drew M N p W.heap.size Bw k s rows) := HWY.out.drew
 clear cp cw c0 HWY
 generalize X.drew = Y at *
 go_upto_region 4 with fail
 go_cut [34] from 6 to 34 (fun c wx => c = .bool (Kb s k) ∧ Way W wx M N p W.heap.size Bw k s rows)
 case first =>
  have hw := HW2.out
  obtain ⟨cp, cw⟩ := hw.cells
  obtain ⟨c0, -, c3, -, c5, -⟩ := hw.s.words
  have HH := Kh 4 Y hw.s
  have HFI := qcm Y M N p Bw W.heap.size s rows k hw.s cw cp h0 h1 w1 w2
  clear hw
  cases hl : s.late with
  | true =>
   have HB : Hid (Kb s k = true) := by unfold Hid Kb; rw [hl]; rfl
   rw [hl] at c5
   go_wp2_with fail
   go_meet
   exact ⟨by rw [HB.out], HW2.out⟩
  | false =>
   rw [hl] at c5
   cases hb : hasB s.modes 4 with
   | false =>
    have HB : Hid (Kb s k = false) := by unfold Hid Kb; rw [hl, hb]; rfl
    rw [hb] at HH
    go_wp2_with fail
    refine HH.mono ?_
    rintro e V ⟨rfl, hv⟩
    subst hv
    go_wp2_with fail
    go_meet
    exact ⟨by rw [HB.out], HW2.out⟩
   | true =>
    have HB : Hid (Kb s k = !Jg s k) := by unfold Hid Kb; rw [hl, hb]; rfl
    rw [hb] at HH
    generalize Jg s k = fb at *
    go_wp2_with fail
    refine HH.mono ?_
    rintro e V ⟨rfl, hv⟩
    subst hv
    go_wp2_with fail
    refine HFI.mono ?_
    rintro e V ⟨rfl, hv⟩
    subst hv
    go_wp2_with fail
    go_meet
    exact ⟨by rw [HB.out], HW2.out.drew⟩
 case rest =>
  obtain ⟨rfl, hw3⟩ := hcut
  have HW3 : Hid (Way W wc M N p W.heap.size Bw k s rows) := hw3
  clear hw3 HW2
  go_upto_if 34 with fail
  go_cut [] from 6 to 40 (fun wx => Way W wx M N p W.heap.size Bw k s1 rows1)
  case first =>
   cases hb : Kb s k with
   | true =>
    obtain ⟨cp, cw⟩ := HW3.out.cells
    obtain ⟨-, -, c3, -, -, -, -, -, -, f⟩ := HW3.out.s.words
    have f3 := f 3
    obtain ⟨hS4, hB4, hF4⟩ := HW3.out.s.put 3 (.int .i64 0) (s' := { s with x := 0 }) (fun _ _ _ _ => rfl) rfl rfl
    have HW4 : Hid (Way W (wc.setCell ⟨p, 3, none⟩ (.int .i64 0)) M N p W.heap.size Bw k { s with x := 0 } rows) := HW3.out.ran (e := .returned (.tuple #[])) ⟨rfl, hS4, hB4, hF4⟩
    have HFE := HF.out.go hb _ HW4.out.b HW4.out.s
    have d1 := HW4.out.cells.1
    clear hS4 hB4 hF4 f cw
    go_wp2_with fail
    refine HFE.mono ?_
    rintro e V hran
    have hrn := hran
    obtain ⟨rfl, -⟩ := hrn
    have HW5 : Hid (Way W V M N p W.heap.size Bw k s1 rows1) := HW4.out.ran hran
    clear hran cp c3 f3 d1
    go_wp2_with fail
    go_meet
    exact HW5.out
   | false =>
    obtain ⟨e1, e2⟩ := HF.out.no hb
    go_wp2_with fail
    go_meet
    rw [e1, e2]
    exact HW3.out
  case rest =>
   have HW5 : Hid (Way W wc M N p W.heap.size Bw k s1 rows1) := hcut
   clear hcut HW3
   have hw5 := HW5.out
   obtain ⟨cp, cw⟩ := hw5.cells
   have x0 := HF.out.x0
   have x1 := HF.out.x1
   have ew := HF.out.w
   have HEW : Hid (s1.w = s.w) := ew
   have HFI := qcm wc M N p Bw W.heap.size s1 rows1 k hw5.s cw cp x0 x1 (by omega) (by omega)
   rw [HFT.out] at HFI
   clear hw5 cp cw ew
   go_wp2_with fail
   refine HFI.mono ?_
   rintro e V ⟨rfl, hv⟩
   subst hv
   have HW6 : Hid (Way W wc.drew M N p W.heap.size Bw k s1 rows1) := HW5.out.drew
   clear HFI HW5
   generalize wc.drew = Z at *
   have hw6 := HW6.out
   obtain ⟨cp, cw⟩ := hw6.cells
   have HH := Kh 1 Z hw6.s
   clear hw6
   go_wp2_with fail
   refine HH.mono ?_
   rintro e V ⟨rfl, hv⟩
   subst hv
   clear HH
   go_upto_if 45 with fail
   go_cut [] from 6 to 48 (fun wx => Way W wx M N p W.heap.size Bw k s1 rows2)
   case first =>
    cases hb : hasB s1.modes 1 with
    | true =>
     have HRM := HR.out hb _ HW6.out.b HW6.out.s
     go_wp2_with fail
     refine HRM.mono ?_
     rintro e V hran
     have hrn := hran
     obtain ⟨rfl, -⟩ := hrn
     have HW7 : Hid (Way W V M N p W.heap.size Bw k s1 rows2) := HW6.out.ran hran
     clear hran
     go_wp2_with fail
     go_meet
     exact HW7.out
    | false =>
     go_wp2_with fail
     go_meet
     rw [HR2.out hb]
     exact HW6.out
   case rest =>
    have HW7 : Hid (Way W wc M N p W.heap.size Bw k s1 rows2) := hcut
    clear hcut HW6 cp cw
    obtain ⟨cp, cw⟩ := HW7.out.cells
    have HWR := HWT.out _ HW7.out.b HW7.out.s
    go_wp2_with fail
    refine HWR.mono ?_
    rintro e V hran
    have hrn := hran
    obtain ⟨rfl, -⟩ := hrn
    have HW8 : Hid (Way W V M N p W.heap.size Bw k s1 rows3) := HW7.out.ran hran
    clear hran HW7 HWR cp cw
    obtain ⟨cp, cw⟩ := HW8.out.cells
    have HAD := qls V M N p s1 rows3 k HW8.out.s x0 x1 (by omega) (by omega) (by have := HEW.out; omega) (by have := HEW.out; omega)
    go_wp2_with fail
    refine HAD.mono ?_
    rintro e V2 hran
    have hrn := hran
    obtain ⟨rfl, -⟩ := hrn
    have HW9 : Hid (Way W V2 M N p W.heap.size Bw k (Ke s1 k) rows3) := HW8.out.ran hran
    clear hran HW8 HAD cp cw
    obtain ⟨cp, cw⟩ := HW9.out.cells
    obtain ⟨-, -, -, -, -, -, -, -, c19, f⟩ := HW9.out.s.words
    have f19 := f 19
    obtain ⟨hS4, hB4, hF4⟩ := HW9.out.s.put 19 (.int .i32 r) (s' := { Ke s1 k with last := r }) (fun _ _ _ _ => rfl) rfl rfl
    have HWZ : Hid (Way W (V2.setCell ⟨p, 19, none⟩ (.int .i32 r)) M N p W.heap.size Bw k { Ke s1 k with last := r } rows3) := HW9.out.ran (e := .returned (.tuple #[])) ⟨rfl, hS4, hB4, hF4⟩
    clear hS4 hB4 hF4 f
    go_wp2_with fail
    go_end0
    exact ⟨rfl, HWZ.out.s, HWZ.out.b, HWZ.out.f⟩
set_option maxHeartbeats 8000000 in
theorem qpa (W : World) (M N p : Nat) (s s1 : Scr) (rows rows1 : List (List C)) (r : Int) (hT : Txt.Tab W) (hS : ShAt 111 W M N p s rows) (hk0 : wd r ≠ 0) (hkw : wd r ≤ s.w) (h0 : 0 ≤ s.x) (h1 : s.x ≤ 120) (w1 : 1 ≤ s.w) (w2 : s.w ≤ 120)
  (hF : Fed W M N p (wd r) s s1 rows rows1) (hft : Jg s1 (wd r) = false) :
  Calls Tryz.prog 38 #[.pointer (some ⟨p, 0, none⟩), .int .i32 r] W (Ran W M N p s1 rows1) := by
 have kb : Below W.heap.size W (W.alloc (.cells #[.pointer (some ⟨p, 0, none⟩)] 84)) := (Below.refl _ _).alloc (Nat.le_refl _) _
 have hx0 := heap_alloc_new W (.cells #[.pointer (some ⟨p, 0, none⟩)] 84)
 have HW := Txt.J3 r (W.alloc (.cells #[.pointer (some ⟨p, 0, none⟩)] 84)) (Grd.Tab.next hT kb)
 have HX0 : Hid _ := hx0
 have HKB : Hid _ := kb
 have HS : Hid (ShAt 111 W M N p s rows) := hS
 have hkr := Txt.Vp r
 have HF : Hid (Fed W M N p (wd r) s s1 rows rows1) := hF
 have HFT : Hid (Jg s1 (wd r) = false) := hft
 clear hx0 kb hS hT hF hft
 generalize wd r = k at *
 have q0 : (k == 0) = false := by rw [beq_eq_false_iff_ne]; exact hk0
 have q1 : ¬ s.w < k := by omega
 have hpf := qga
 unfold Plain at hpf
 go_enter Tryz.func38, Tryz.ntmps38
 go_wp2_with fail
 refine HW.mono ?_
 rintro e W1 ⟨rfl, b1⟩
 have hw := qay HS.out HKB.out HX0.out b1 (k := k)
 clear HW b1 HX0 HKB
 go_upto_region 2 with fail
 generalize hB : W1.heap.size = Bw at *
 clear hB
 generalize (W1.alloc (.cells #[.int .i64 k] 3)) = X at *
 have HWY : Hid (Way W X M N p W.heap.size Bw k s rows) := hw
 obtain ⟨cp, cw⟩ := hw.cells
 obtain ⟨c0, -⟩ := hw.s.words
 clear hw HS
 go_region
 have HW2 : Hid (Way W X.drew M N p W.heap.size Bw k s rows) := HWY.out.drew
 clear cp cw c0 HWY
 generalize X.drew = Y at *
 go_upto_region 4 with fail
 go_cut [34] from 6 to 34 (fun c wx => c = .bool (Kb s k) ∧ Way W wx M N p W.heap.size Bw k s rows)
 case first =>
  have hw := HW2.out
  obtain ⟨cp, cw⟩ := hw.cells
  obtain ⟨c0, -, c3, -, c5, -⟩ := hw.s.words
  have HH := Kh 4 Y hw.s
  have HFI := qcm Y M N p Bw W.heap.size s rows k hw.s cw cp h0 h1 w1 w2
  clear hw
  cases hl : s.late with
  | true =>
   have HB : Hid (Kb s k = true) := by unfold Hid Kb; rw [hl]; rfl
   rw [hl] at c5
   go_wp2_with fail
   go_meet
   exact ⟨by rw [HB.out], HW2.out⟩
  | false =>
   rw [hl] at c5
   cases hb : hasB s.modes 4 with
   | false =>
    have HB : Hid (Kb s k = false) := by unfold Hid Kb; rw [hl, hb]; rfl
    rw [hb] at HH
    go_wp2_with fail
    refine HH.mono ?_
    rintro e V ⟨rfl, hv⟩
    subst hv
    go_wp2_with fail
    go_meet
    exact ⟨by rw [HB.out], HW2.out⟩
   | true =>
    have HB : Hid (Kb s k = !Jg s k) := by unfold Hid Kb; rw [hl, hb]; rfl
    rw [hb] at HH
    generalize Jg s k = fb at *
    go_wp2_with fail
    refine HH.mono ?_
    rintro e V ⟨rfl, hv⟩
    subst hv
    go_wp2_with fail
    refine HFI.mono ?_
    rintro e V ⟨rfl, hv⟩
    subst hv
    go_wp2_with fail
    go_meet
    exact ⟨by rw [HB.out], HW2.out.drew⟩
 case rest =>
  obtain ⟨rfl, hw3⟩ := hcut
  have HW3 : Hid (Way W wc M N p W.heap.size Bw k s rows) := hw3
  clear hw3 HW2
  go_upto_if 34 with fail
  go_cut [] from 6 to 40 (fun wx => Way W wx M N p W.heap.size Bw k s1 rows1)
  case first =>
   cases hb : Kb s k with
   | true =>
    obtain ⟨cp, cw⟩ := HW3.out.cells
    obtain ⟨-, -, c3, -, -, -, -, -, -, f⟩ := HW3.out.s.words
    have f3 := f 3
    obtain ⟨hS4, hB4, hF4⟩ := HW3.out.s.put 3 (.int .i64 0) (s' := { s with x := 0 }) (fun _ _ _ _ => rfl) rfl rfl
    have HW4 : Hid (Way W (wc.setCell ⟨p, 3, none⟩ (.int .i64 0)) M N p W.heap.size Bw k { s with x := 0 } rows) := HW3.out.ran (e := .returned (.tuple #[])) ⟨rfl, hS4, hB4, hF4⟩
    have HFE := HF.out.go hb _ HW4.out.b HW4.out.s
    have d1 := HW4.out.cells.1
    clear hS4 hB4 hF4 f cw
    go_wp2_with fail
    refine HFE.mono ?_
    rintro e V hran
    have hrn := hran
    obtain ⟨rfl, -⟩ := hrn
    have HW5 : Hid (Way W V M N p W.heap.size Bw k s1 rows1) := HW4.out.ran hran
    clear hran cp c3 f3 d1
    go_wp2_with fail
    go_meet
    exact HW5.out
   | false =>
    obtain ⟨e1, e2⟩ := HF.out.no hb
    go_wp2_with fail
    go_meet
    rw [e1, e2]
    exact HW3.out
  case rest =>
   have HW5 : Hid (Way W wc M N p W.heap.size Bw k s1 rows1) := hcut
   clear hcut HW3
   have hw5 := HW5.out
   obtain ⟨cp, cw⟩ := hw5.cells
   have x0 := HF.out.x0
   have x1 := HF.out.x1
   have ew := HF.out.w
   have HEW : Hid (s1.w = s.w) := ew
   have HFI := qcm wc M N p Bw W.heap.size s1 rows1 k hw5.s cw cp x0 x1 (by omega) (by omega)
   rw [HFT.out] at HFI
   clear hw5 cp cw ew
   go_wp2_with fail
   refine HFI.mono ?_
   rintro e V ⟨rfl, hv⟩
   subst hv
   have HW6 : Hid (Way W wc.drew M N p W.heap.size Bw k s1 rows1) := HW5.out.drew
   clear HFI HW5
   go_wp2_with fail
   (try simp only [Exit.inBlock, Exit.then])
   exact bodyPost_ret (v := .tuple #[]) (results_none rfl _ _ _) rfl ⟨rfl, HW6.out.s, HW6.out.b, HW6.out.f⟩
end Put
namespace Put
open Grd (C SliceAt Qb Qf z0 Qx flat Qe Q8 Zr)
open Sty (Q3)
open Txt (wd)
structure PI (n hh : Nat) (s : Scr) (rows : List (List C)) : Prop where
 w : s.w = n
 h : s.h = hh
 n1 : 1 ≤ n
 n2 : n ≤ 120
 h1 : 1 ≤ hh
 h2 : hh ≤ 60
 x0 : 0 ≤ s.x
 x1 : s.x < n
 y0 : 0 ≤ s.y
 y1 : s.y < hh
 t0 : 0 ≤ s.top
 t1 : s.top ≤ s.bot
 t2 : s.bot < hh
 look : Q3 (s.sf, s.sb, s.sx) = true
 rl : rows.length = hh
 rr : Je n rows
 gl : s.gone.length ≤ 50
theorem PI.back {n hh : Nat} {s : Scr} {rows : List (List C)} (h : PI n hh s rows) : Q3 (0, s.sb, 0) = true := by
 have h2 := h.look
 simp only [Q3, decide_eq_true_eq] at h2 ⊢
 omega
def fedP (n : Nat) (s : Scr) (rows : List (List C)) : Scr × List (List C) :=
 if s.y = s.bot then (upS { s with x := 0, late := false } rows s.top.toNat, Zp rows n s.sb s.top.toNat s.bot.toNat) else (G6 { s with x := 0 }, rows)
theorem qf5 (s : Scr) (rows : List (List C)) (top : Nat) : (upS s rows top) = { s with gone := (upS s rows top).gone } := by
 unfold upS
 split <;> rfl
theorem q1a (s : Scr) (rows : List (List C)) (top : Nat) (h : s.gone.length ≤ 50) : (upS s rows top).gone.length ≤ 50 := by
 unfold upS
 split
 ·exact Ux _ _ h
 ·exact h
theorem PI.fed {n hh : Nat} {s : Scr} {rows : List (List C)} (h : PI n hh s rows) : PI n hh (fedP n s rows).1 (fedP n s rows).2 := by
 have n1 := h.n1
 have y0 := h.y0
 have y1 := h.y1
 have t0 := h.t0
 have t1 := h.t1
 have t2 := h.t2
 have rl := h.rl
 have eh := h.h
 unfold fedP
 by_cases hq : s.y = s.bot
 ·rw [if_pos hq]
  have e := qf5 { s with x := 0, late := false } rows s.top.toNat
  have g := q1a { s with x := 0, late := false } rows s.top.toNat h.gl
  have hr := Je.up h.rr s.sb h.back s.top.toNat s.bot.toNat (by omega) (by omega)
  have hl : (Zp rows n s.sb s.top.toNat s.bot.toNat).length = hh := by rw [Xj _ _ _ _ _ (by omega) (by omega), rl]
  generalize upS { s with x := 0, late := false } rows s.top.toNat = u at *
  dsimp only
  rw [e]
  exact ⟨h.w, h.h, h.n1, h.n2, h.h1, h.h2, by show (0 : Int) ≤ 0; omega, by show (0 : Int) < n; omega, h.y0, h.y1, h.t0, h.t1, h.t2, h.look, hl, hr, g⟩
 ·rw [if_neg hq]
  unfold G6
  dsimp only
  split
  ·rename_i hlt
   exact ⟨h.w, h.h, h.n1, h.n2, h.h1, h.h2, by show (0 : Int) ≤ 0; omega, by show (0 : Int) < n; omega, by show 0 ≤ s.y + 1; omega, by show s.y + 1 < hh; omega, h.t0, h.t1, h.t2, h.look, rl, h.rr, h.gl⟩
  ·exact ⟨h.w, h.h, h.n1, h.n2, h.h1, h.h2, by show (0 : Int) ≤ 0; omega, by show (0 : Int) < n; omega, h.y0, h.y1, h.t0, h.t1, h.t2, h.look, rl, h.rr, h.gl⟩
theorem qy8 {n hh : Nat} {s : Scr} {rows : List (List C)} (h : PI n hh s rows) (X : World) (M N p : Nat) (hS : ShAt 111 X M N p { s with x := 0 } rows) :
  Calls Tryz.prog 66 #[.pointer (some ⟨p, 0, none⟩)] X (Ran X M N p (fedP n s rows).1 (fedP n s rows).2) := by
 have y0 := h.y0
 have y1 := h.y1
 have t0 := h.t0
 have t1 := h.t1
 have t2 := h.t2
 have rl := h.rl
 have eh := h.h
 have h1 := h.h1
 have h2 := h.h2
 unfold fedP
 by_cases hq : s.y = s.bot
 ·rw [if_pos hq]
  exact qiz X M N p n { s with x := 0 } rows hS s.top.toNat s.bot.toNat (by show s.top = _; omega) (by show s.bot = _; omega) hq h.w h.n1 h.n2 (by omega) (by omega) (by omega) h.gl
 ·rw [if_neg hq]
  exact qbn X M N p { s with x := 0 } rows hS y0 (by show s.y ≤ 60; omega) (by show 1 ≤ s.h; omega) (by show s.h ≤ 60; omega) hq
def Xe (n : Nat) (s : Scr) (rows : List (List C)) (r : Int) : Scr × List (List C) := if Kb s (wd r) = true then fedP n s rows else (s, rows)
theorem PI.turn {n hh : Nat} {s : Scr} {rows : List (List C)} (h : PI n hh s rows) (r : Int) : PI n hh (Xe n s rows r).1 (Xe n s rows r).2 := by
 unfold Xe
 split
 ·exact h.fed
 ·exact h
theorem qwy {n hh : Nat} {s : Scr} {rows : List (List C)} (h : PI n hh s rows) (r : Int) (W : World) (M N p : Nat) : Fed W M N p (wd r) s (Xe n s rows r).1 rows (Xe n s rows r).2 := by
 have ht := h.turn r
 have n2 := h.n2
 refine ⟨fun hb X _ hX => ?_, fun hb => ?_, ht.w.trans h.w.symm, ht.x0, by have := ht.x1; omega⟩
 ·unfold Xe
  rw [if_pos hb]
  exact qy8 h X M N p hX
 ·unfold Xe
  rw [if_neg (by rw [hb]; simp)]
  exact ⟨rfl, rfl⟩
def qbj (s : Scr) (rows : List (List C)) (r : Int) : List (List C) := if hasB s.modes 1 = true then rows.set s.y.toNat (Zr (G7 (rows.getD s.y.toNat []) s.x.toNat (wd r).toNat s.sb)) else rows
def Ut (n : Nat) (s : Scr) (rows : List (List C)) (r : Int) : Scr × List (List C) :=
 if wd r = 0 ∨ s.w < wd r then (s, rows)
 else if Jg (Xe n s rows r).1 (wd r) = false then Xe n s rows r
 else ({ Ke (Xe n s rows r).1 (wd r) with last := r }, (qbj (Xe n s rows r).1 (Xe n s rows r).2 r).set (Xe n s rows r).1.y.toNat (F3 ((Xe n s rows r).1.sf, (Xe n s rows r).1.sb, (Xe n s rows r).1.sx) ((qbj (Xe n s rows r).1 (Xe n s rows r).2 r).getD (Xe n s rows r).1.y.toNat []) (Xe n s rows r).1.x.toNat r))
theorem qhg {n : Nat} {rows : List (List C)} (h : Je n rows) (y : Nat) (row : List C) (hl : row.length = n) (hr : Q8 row) : Je n (rows.set y row) := fun i hi => by
 rw [List.length_set] at hi
 by_cases e : y = i
 ·subst e
  have e2 : (rows.set y row).getD y [] = row := by simp [List.getD, hi]
  rw [e2]
  exact ⟨hl, hr⟩
 ·have e2 : (rows.set y row).getD i [] = rows.getD i [] := by simp [List.getD, List.getElem?_set_ne e]
  rw [e2]
  exact h i hi
theorem qse {n hh : Nat} {s : Scr} {rows : List (List C)} (h : PI n hh s rows) (r : Int) (hr : wd r ≠ 0) (hf : Jg s (wd r) = true) : Je n (qbj s rows r) ∧ (qbj s rows r).length = hh := by
 have hk := Txt.Vp r
 have x0 := h.x0
 have y0 := h.y0
 have y1 := h.y1
 have rl := h.rl
 have ew := h.w
 have hf' : wd r ≤ s.w - s.x := by simpa [Jg] using hf
 have hrow := h.rr s.y.toNat (by omega)
 unfold qbj
 split
 ·have hm := qdx hrow.2.1 s.x.toNat (wd r).toNat s.sb (by omega) (by rw [hrow.1]; omega) h.back
  exact ⟨qhg h.rr _ _ (by rw [Grd.V9, U7 _ _ _ _ (by rw [hrow.1]; omega), hrow.1]) (Grd.Gm _ hm), by rw [List.length_set, rl]⟩
 ·exact ⟨h.rr, rl⟩
theorem qte (s : Scr) (k : Int) : (Ke s k).w = s.w ∧ (Ke s k).h = s.h ∧ (Ke s k).y = s.y ∧ (Ke s k).top = s.top ∧ (Ke s k).bot = s.bot ∧ (Ke s k).sf = s.sf ∧ (Ke s k).sb = s.sb ∧ (Ke s k).sx = s.sx ∧ (Ke s k).gone = s.gone := by
 unfold Ke
 split <;> exact ⟨rfl, rfl, rfl, rfl, rfl, rfl, rfl, rfl, rfl⟩
theorem PI.print {n hh : Nat} {s : Scr} {rows : List (List C)} (h0 : PI n hh s rows) (r : Int) : PI n hh (Ut n s rows r).1 (Ut n s rows r).2 := by
 unfold Ut
 split
 ·exact h0
 ·rename_i hsk
  have h := h0.turn r
  generalize Xe n s rows r = t at *
  obtain ⟨s1, rows1⟩ := t
  dsimp only at h ⊢
  split
  ·exact h
  ·rename_i hft
   have hf : Jg s1 (wd r) = true := by simpa using hft
   have hf' : wd r ≤ s1.w - s1.x := by simpa [Jg] using hf
   have hw0 : wd r ≠ 0 := fun e => hsk (.inl e)
   have hk := Txt.Vp r
   have hq := qse h r hw0 hf
   have n1 := h.n1
   have x0 := h.x0
   have x1 := h.x1
   have y0 := h.y0
   have y1 := h.y1
   have ew := h.w
   have hrow := hq.1 s1.y.toNat (by rw [hq.2]; omega)
   obtain ⟨a1, a2, a3, a4, a5, a6, a7, a8, a9⟩ := qte s1 (wd r)
   have ax : 0 ≤ (Ke s1 (wd r)).x ∧ (Ke s1 (wd r)).x < n := by
    unfold Ke
    split
    ·exact ⟨by show 0 ≤ s1.w - 1; omega, by show s1.w - 1 < n; omega⟩
    ·exact ⟨by show 0 ≤ s1.x + wd r; omega, by show s1.x + wd r < n; omega⟩
   have hmn := Grd.qif (s1.sf, s1.sb, s1.sx) ((qbj s1 rows1 r).getD s1.y.toNat []) s1.x.toNat r hrow.2.1 h.look (by rw [hrow.1]; omega)
   refine ⟨a1.trans h.w, a2.trans h.h, h.n1, h.n2, h.h1, h.h2, ax.1, ax.2, by rw [← a3] at y0; exact y0, by rw [← a3] at y1; exact y1, by have := h.t0; rw [← a4] at this; exact this, by have := h.t1; rw [← a4, ← a5] at this; exact this, by have := h.t2; rw [← a5] at this; exact this, by have := h.look; rw [← a6, ← a7, ← a8] at this; exact this, by rw [List.length_set, hq.2], ?_, by have := h.gl; rw [← a9] at this; exact this⟩
   exact qhg hq.1 _ _ (by rw [qme, hrow.1]) (Grd.Gm _ hmn)
theorem Us {n hh : Nat} {s : Scr} {rows : List (List C)} (h0 : PI n hh s rows) (r : Int) (W : World) (M N p : Nat) (hT : Txt.Tab W) (hTN : 0 < N) (hS : ShAt 111 W M N p s rows) :
  Calls Tryz.prog 38 #[.pointer (some ⟨p, 0, none⟩), .int .i32 r] W (Ran W M N p (Ut n s rows r).1 (Ut n s rows r).2) := by
 have hx0 := h0.x0
 have hx1 := h0.x1
 have hn1 := h0.n1
 have hn2 := h0.n2
 have hew := h0.w
 unfold Ut
 by_cases hsk : wd r = 0 ∨ s.w < wd r
 ·rw [if_pos hsk]
  exact qpo W M N p s rows r hT hS hsk
 ·rw [if_neg hsk]
  have h := h0.turn r
  have hF := qwy h0 r W M N p
  generalize Xe n s rows r = t at *
  obtain ⟨s1, rows1⟩ := t
  dsimp only at h hF ⊢
  have hw0 : wd r ≠ 0 := fun e => hsk (.inl e)
  have hww : wd r ≤ s.w := by
   have : ¬ s.w < wd r := fun e => hsk (.inr e)
   omega
  by_cases hft : Jg s1 (wd r) = false
  ·rw [if_pos hft]
   exact qpa W M N p s s1 rows rows1 r hT hS hw0 hww hx0 (by omega) (by omega) (by omega) hF hft
  ·rw [if_neg hft]
   have hf : Jg s1 (wd r) = true := by simpa using hft
   have hf' : wd r ≤ s1.w - s1.x := by simpa [Jg] using hf
   have hk := Txt.Vp r
   have hq := qse h r hw0 hf
   have x0 := h.x0
   have x1 := h.x1
   have y0 := h.y0
   have y1 := h.y1
   have ew := h.w
   have rl := h.rl
   have hrow := h.rr s1.y.toNat (by omega)
   have hrow2 := hq.1 s1.y.toNat (by rw [hq.2]; omega)
   have htab : ∀ X, Below N W X → Txt.Tab X := fun X hb => hT.below hb hTN
   have ek : wd r = ((wd r).toNat : Int) := by omega
   refine qhc W M N p s s1 rows rows1 (qbj s1 rows1 r) _ r hT hS hw0 hww hx0 (by omega) (by omega) (by omega) hF hf (fun hi X hX hSX => ?_) (fun hi => ?_) (fun X hX hSX => ?_)
   ·have := qfi X M N p s1 rows1 hSX (htab X hX) s1.y.toNat s1.x.toNat (wd r).toNat (by omega) (by omega) (by omega) (by omega) (by rw [hrow.1]; omega) (by rw [hrow.1]; omega) hrow.2.1 h.back
    rw [← ek] at this
    unfold qbj
    rw [if_pos hi]
    exact this
   ·unfold qbj
    rw [if_neg (by rw [hi]; simp)]
   ·exact qib X M N p s1 (qbj s1 rows1 r) (htab X hX) hSX r n s1.x.toNat s1.y.toNat (by rw [hq.2]; omega) _ rfl h.w (by omega) (by omega) (by omega) hrow2.1 (qgx n _ h.n1 h.n2 hrow2.1 hrow2.2) h.look hw0 (by omega)
end Put
namespace Put
open Grd (C)
theorem ShAt.iter {t : TypeId} {W W' : World} {M N p k pos : Nat} {s : Scr} {rows : List (List C)} {str : ByteArray} (h : ShAt t W M N p s rows) (hk : W.heap[k]? = some (.stringIter str pos)) (hM : N ≤ k) (hoff : ∀ j, j ≠ k → W'.heap[j]? = W.heap[j]?) : ShAt t W' M N p s rows := by
 obtain ⟨cv, tv, gv, rv, gvs, vs, h⟩ := h
 have hne : ∀ {j : Nat} {A : Array Value} {u : TypeId} {f : Nat × Nat}, W.heap[j]? = some (.cells A u f) → W'.heap[j]? = W.heap[j]? := fun hj => hoff _ fun e => by
  rw [e, hk] at hj
  cases hj
 have how : ∀ {e : TypeId} {v : Value} {n : Nat} {xs : List Value}, W.ownsRow N e 1 v n xs → W'.ownsRow N e 1 v n xs := fun hw => Zd hw fun g hg => by
  obtain ⟨-, A, f, hA⟩ := Qm hw g hg
  exact hne hA
 have hK : Kept M W W' := fun j _ hS => by
  rcases hS with hS | ⟨A, f, hS⟩
  ·have := h.ml
   exact hoff j (by omega)
  ·exact hne hS
 exact ⟨cv, tv, gv, rv, gvs, vs, (hne h.blk).trans h.blk, h.lo, h.ml, h.cvs, how h.tabs, how h.gone, h.gin.keep hK, how h.rws, h.rin.keep hK, h.two⟩
theorem qw9 (W : World) (k j : Nat) (t : ByteArray) (pos : Nat) (h : j ≠ k) : (W.iterAt k t pos).heap[j]? = W.heap[j]? := by
 unfold World.iterAt
 simp [Ne.symm h]
theorem qq9 (t : ByteArray) (pos : Nat) : qre (.stringIter t pos) := fun A u f e => by cases e
set_option maxHeartbeats 2000000 in
theorem qp7 (t : ByteArray) (B M : Nat) (w : World) (st : Nat → Scr × List (List C)) (hB : w.cell? ⟨B, 0, none⟩ = some (.string t))
  (hstep : ∀ i, i < (Txt.runes t).length → ∀ X p, Below w.heap.size w X → ShAt 111 X M w.heap.size p (st i).1 (st i).2 → Calls Tryz.prog 38 #[.pointer (some ⟨p, 0, none⟩), .int .i32 ((Txt.runes t).getD i (0, 0)).1] X (Ran X M w.heap.size p (st (i + 1)).1 (st (i + 1)).2)) :
  Does 37 #[.pointer (some ⟨B, 0, none⟩)] M w (st 0).1 (st (Txt.runes t).length).1 (st 0).2 (st (Txt.runes t).length).2 := by
 intro W p hb hS
 have q0 := Qa hb hB
 have HS : Hid (ShAt 111 W M w.heap.size p (st 0).1 (st 0).2) := hS
 have HB : Hid (Below w.heap.size w W) := hb
 have HST : Hid (∀ i, i < (Txt.runes t).length → ∀ X p, Below w.heap.size w X → ShAt 111 X M w.heap.size p (st i).1 (st i).2 → Calls Tryz.prog 38 #[.pointer (some ⟨p, 0, none⟩), .int .i32 ((Txt.runes t).getD i (0, 0)).1] X (Ran X M w.heap.size p (st (i + 1)).1 (st (i + 1)).2)) := hstep
 have hNW : w.heap.size ≤ W.heap.size := hb.size
 have HRL : Hid (Txt.runes t = Txt.rs t t.size 0) := rfl
 clear hS hb hB hstep
 go_enter Tryz.func37, Tryz.ntmps37
 go_wp2
 go_loopw [] (fun wr => ∃ (pos f i : Nat), wr.heap[W.heap.size]? = some (.stringIter t pos) ∧ Below w.heap.size W wr ∧ ShAt 111 wr M w.heap.size p (st i).1 (st i).2 ∧ (Txt.runes t).drop i = Txt.rs t f pos ∧ t.size ≤ pos + f ∧ pos ≤ t.size ∧ i ≤ (Txt.runes t).length) (fun wr => t.size - wr.iterPos W.heap.size)
 case atStart =>
  exact ⟨0, t.size, 0, World.iter_heap W t 0, ((Below.refl _ W).alloc (Nat.le_refl _) _).mono hNW, HS.out.next ((Below.refl _ W).alloc (Nat.le_refl _) _), HRL.out, by omega, by omega, by omega⟩
 case round =>
  obtain ⟨pos, f, i, hit, hbw, hSi, hdr, hf, hps, hil⟩ := hrel
  have HDR : Hid ((Txt.runes t).drop i = Txt.rs t f pos) := hdr
  have HSI : Hid (ShAt 111 wr M w.heap.size p (st i).1 (st i).2) := hSi
  have HBW : Hid (Below w.heap.size W wr) := hbw
  clear hdr hSi hbw
  by_cases hp : pos < t.size
  ·have hnx : ∀ ty, (Instr.next (.pointer (some ⟨W.heap.size, 0, none⟩)) true ty).run Tryz.prog wr = _ := fun ty => Lib.run_next_any_at wr W.heap.size t pos ty hit hp
   have hwd := Txt.width_pos t pos hp
   have hfit := Txt.qd5 t pos hp
   obtain ⟨f, rfl⟩ : ∃ g, f = g + 1 := ⟨f - 1, by omega⟩
   have HR : Hid (Txt.rs t (f + 1) pos = (((Utf8.decode t pos).1 : Int), (Utf8.decode t pos).2) :: Txt.rs t f (pos + (Utf8.decode t pos).2)) := Txt.qj9 t f pos hp
   have hlt : i < (Txt.runes t).length := by
    have h := HDR.out
    rw [HR.out] at h
    have h2 := congrArg List.length h
    rw [List.length_drop, List.length_cons] at h2
    omega
   have hget : ((Txt.runes t).getD i (0, 0)) = (((Utf8.decode t pos).1 : Int), (Utf8.decode t pos).2) := by
    have h := HDR.out
    rw [HR.out, List.drop_eq_getElem_cons hlt] at h
    injection h with h _
    simp [List.getD, hlt, h]
   have hdr2 : (Txt.runes t).drop (i + 1) = Txt.rs t f (pos + (Utf8.decode t pos).2) := by
    have h := HDR.out
    rw [HR.out, List.drop_eq_getElem_cons hlt] at h
    injection h
   have HDR2 : Hid _ := hdr2
   have hbit := Lib.below_iterAt (Below.refl W.heap.size wr) (k := W.heap.size) (Nat.le_refl _) t (pos + (Utf8.decode t pos).2)
   have hit2 := Lib.iterAt_heap wr W.heap.size t pos (pos + (Utf8.decode t pos).2) hit
   have hS2 : ShAt 111 (wr.iterAt W.heap.size t (pos + (Utf8.decode t pos).2)) M w.heap.size p (st i).1 (st i).2 := HSI.out.iter hit hNW (fun j hj => qw9 wr _ j t _ hj)
   have hB2 : Below w.heap.size W (wr.iterAt W.heap.size t (pos + (Utf8.decode t pos).2)) := HBW.out.trans (hbit.mono hNW)
   have HI : Hid (wr.iterPos W.heap.size = pos) := by simp only [Hid, World.iterPos, hit]
   have HP := HST.out i hlt _ p (HB.out.trans hB2) hS2
   rw [hget] at HP
   have HIT2 : Hid _ := hit2
   have HB2 : Hid _ := hB2
   clear hit hS2 hB2 hbit hit2 hget hdr2
   generalize Utf8.decode t pos = d at *
   generalize wr.iterAt W.heap.size t (pos + d.2) = Y at *
   go_wp2_with fail
   refine HP.mono ?_
   rintro e V hran
   have hrn := hran
   obtain ⟨rfl, hSV, hBV, hFV⟩ := hrn
   have HITV : Hid (V.heap[W.heap.size]? = some (.stringIter t (pos + d.2))) := hFV _ _ HIT2.out (qq9 _ _)
   have HSV : Hid _ := hSV
   have HBV : Hid (Below w.heap.size W V) := HB2.out.trans hBV
   clear hran hSV hBV hFV HP
   go_wp2_with fail
   go_roundw
   case rel => exact ⟨pos + d.2, f, i + 1, HITV.out, HBV.out, HSV.out, HDR2.out, by omega, by omega, by omega⟩
   case measure =>
    rw [HI.out]
    simp only [World.iterPos, HITV.out]
    omega
  ·have hnx : ∀ ty, (Instr.next (.pointer (some ⟨W.heap.size, 0, none⟩)) true ty).run Tryz.prog wr = _ := fun ty => Lib.run_next_end_at wr W.heap.size t pos ty hit hp
   have hend : i = (Txt.runes t).length := by
    have h := HDR.out
    rw [Txt.qqh t f pos hp] at h
    have h2 := congrArg List.length h
    rw [List.length_drop, List.length_nil] at h2
    omega
   go_wp2_with fail
   go_end0
   rw [← hend]
   exact ⟨rfl, HSI.out, HBW.out⟩
end Put
end Go.Proofs.YtcnblcmpgmgbbaaGreatDoor
