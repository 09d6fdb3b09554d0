/- Plain mathematics: what is filled, written, laid or cut is a right grid; what was laid is there again. -/
import Derived.Test.YtinhmklpnkikgabDoorGridPartC
import Derived.Test.YtinhmklpnkikgabDoorGridWrite2
namespace Go.Proofs.YtinhmklpnkikgabDoor
namespace Grd
open Txt (wd)
open Sty (isSt)
theorem right_preF (n hh : Nat) (cs : List C) (f : Nat → List C → List C) (hs : isSize n hh = true) (hL : cs.length = n * hh) (hf : KeepLen n f) (h : ∀ y, y < hh → RightRow (f y (rowAt n cs y))) : gridErr n hh (preF n cs f hh) = 0 := by
  rw [gridErr_zero]
  refine ⟨hs, by rw [preF_len n hh cs f hL hf hh (Nat.le_refl _), Nat.mul_comm], fun y hy => ?_⟩
  rw [rowAt_preF n hh cs f hL hf y hh hy (Nat.le_refl _)]
  exact h y hy
theorem right_fill (n hh : Nat) (cs : List C) (rx ry rw rh : Int) (c : C) (hok : gridErr n hh cs = 0) (hw : wd c.1 = 1) (hs : isSt c.2 = true) : gridErr n hh (fillG n hh cs rx ry rw rh c) = 0 := by
  obtain ⟨h1, h2, h3⟩ := (gridErr_zero n hh cs).1 hok
  refine right_preF n hh cs _ h1 h2 (fillF_len n hh rx ry rw rh c) fun y hy => ?_
  unfold fillF
  split
  · exact mend_right _ (meant_fill _ _ c (h3 y hy).1 hw hs)
  · exact h3 y hy
theorem right_write (n hh : Nat) (cs : List C) (X Y : Nat) (l : List (Int × Nat)) (look : Int × Int × Int) (hok : gridErr n hh cs = 0) (hs : isSt look = true) : gridErr n hh (writeG n hh cs X Y l look) = 0 := by
  obtain ⟨h1, h2, h3⟩ := (gridErr_zero n hh cs).1 hok
  refine right_preF n hh cs _ h1 h2 (writeF_len n X Y l look) fun y hy => ?_
  unfold writeF
  split
  · exact mend_right _ (meant_write look hs l _ X (h3 y hy).1)
  · exact h3 y hy
theorem right_lay (n hh m p : Nat) (cs fs : List C) (X Y : Int) (hok : gridErr n hh cs = 0) (hok2 : gridErr m p fs = 0) : gridErr n hh (layG n hh cs m p fs X Y) = 0 := by
  obtain ⟨h1, h2, h3⟩ := (gridErr_zero n hh cs).1 hok
  obtain ⟨_, g2, g3⟩ := (gridErr_zero m p fs).1 hok2
  refine right_preF n hh cs _ h1 h2 (layFn_len n m p fs X Y) fun y hy => ?_
  unfold layFn
  split
  · rename_i hc
    have hq : ((y : Int) - Y).toNat < p := by omega
    have := meant_lay (rowAt n cs y) (rowAt m fs ((y : Int) - Y).toNat) X (h3 y hy).1 (g3 _ hq)
    rw [row_len m p fs _ g2 hq] at this
    exact mend_right _ this
  · exact h3 y hy
theorem right_new (n hh : Nat) (hs : isSize n hh = true) : gridErr n hh (newL n hh) = 0 := by
  rw [gridErr_zero]
  refine ⟨hs, newL_len n hh, fun y hy => ?_⟩
  unfold newL blank
  rw [rowAt_replicate n hh y _ hy]
  exact replicate_right n
theorem preF_rows (n : Nat) (cs ds : List C) (f : Nat → List C → List C) : ∀ k, (∀ y, y < k → f y (rowAt n cs y) = rowAt n ds y) → preF n cs f k = ds.take (k * n)
  | 0, _ => by simp [preF]
  | k + 1, h => by
    show preF n cs f k ++ f k (rowAt n cs k) = _
    rw [preF_rows n cs ds f k (fun y hy => h y (by omega)), h k (by omega), take_row]
/-- What was laid wholly within is there again. -/
theorem lay_back (n hh m p : Nat) (cs fs : List C) (X Y : Nat) (hok : gridErr n hh cs = 0) (hok2 : gridErr m p fs = 0) (hX : X + m ≤ n) (hY : Y + p ≤ hh) :
    layG m p (newL m p) n hh (layG n hh cs m p fs X Y) (-(X : Int)) (-(Y : Int)) = fs := by
  obtain ⟨h1, h2, h3⟩ := (gridErr_zero n hh cs).1 hok
  obtain ⟨g1, g2, g3⟩ := (gridErr_zero m p fs).1 hok2
  have hp := preF_rows m (newL m p) fs (layFn n hh (layG n hh cs m p fs X Y) (-(X : Int)) (-(Y : Int))) p (fun y hy => by
    have hfl := row_len m p fs y g2 hy
    have hnl := row_len m p (newL m p) y (newL_len m p) hy
    have hcl := row_len n hh cs (y + Y) h2 (by omega)
    obtain ⟨fm, fl⟩ := g3 y hy
    have hz : rowAt n (layG n hh cs m p fs X Y) (y + Y) = mendL (putRow (rowAt n cs (y + Y)) (layP m X) (layF (rowAt m fs y) X)) := by
      unfold layG
      rw [rowAt_preF n hh cs _ h2 (layFn_len n m p fs X Y) (y + Y) hh (by omega) (Nat.le_refl _)]
      unfold layFn
      rw [if_pos (by omega)]
      congr 3
      congr 1
      omega
    unfold layFn
    rw [if_pos (by omega)]
    have he : ((y : Int) - -(Y : Int)).toNat = y + Y := by omega
    rw [he, hz]
    generalize rowAt m fs y = fr at *
    generalize rowAt n cs (y + Y) = cr at *
    generalize rowAt m (newL m p) y = nr at *
    have hq : ∀ x, x < m → (putRow cr (layP m X) (layF fr X)).getD (X + x) z0 = fr.getD x z0 := fun x hx => by
      rw [putRow_at _ _ _ _ (by omega), if_pos (by unfold layP; rw [decide_eq_true_eq]; omega)]
      unfold layF
      congr 1
      omega
    have hlo : ∀ x, x < m → loose (putRow cr (layP m X) (layF fr X)) (X + x) = false := fun x hx => by
      have hf := fl x (by omega)
      unfold loose at hf ⊢
      rw [hq x hx, putRow_len, hcl]
      by_cases hr : (fr.getD x z0).1 = 0
      · rw [if_pos hr] at hf ⊢
        simp only [Bool.or_eq_false_iff, decide_eq_false_iff_not, Decidable.not_not] at hf ⊢
        have := hq (x - 1) (by omega)
        rw [show X + (x - 1) = X + x - 1 by omega] at this
        rw [this]
        exact ⟨by omega, hf.2⟩
      · rw [if_neg hr] at hf ⊢
        by_cases hw : wd (fr.getD x z0).1 = 2
        · simp only [hw, decide_true, Bool.true_and, Bool.or_eq_false_iff, decide_eq_false_iff_not, Decidable.not_not] at hf ⊢
          have := hq (x + 1) (by omega)
          rw [show X + (x + 1) = X + x + 1 by omega] at this
          rw [this]
          exact ⟨by omega, hf.2⟩
        · simp [hw, -List.getD_eq_getElem?_getD]
    have hput : putRow nr (layP n (-(X : Int))) (layF (mendL (putRow cr (layP m X) (layF fr X))) (-(X : Int))) = fr := by
      refine ext_getD _ _ (by rw [putRow_len, hnl, hfl]) fun x hx => ?_
      rw [putRow_len, hnl] at hx
      rw [putRow_at _ _ _ _ (by omega), if_pos (by unfold layP; rw [decide_eq_true_eq]; omega)]
      unfold layF
      have e : ((x : Int) - -(X : Int)).toNat = X + x := by omega
      rw [e, mendL_eq, mendM_at _ _ (by rw [putRow_len]; omega)]
      have hl2 := hlo x hx
      have hq2 := hq x hx
      unfold layF at hl2 hq2
      rw [hl2, hq2]
      rfl
    rw [hput]
    exact mendL_fix _ fl)
  show preF m (newL m p) (layFn n hh (layG n hh cs m p fs X Y) (-(X : Int)) (-(Y : Int))) p = fs
  rw [hp, List.take_of_length_le (by rw [g2, Nat.mul_comm]; exact Nat.le_refl _)]
end Grd
end Go.Proofs.YtinhmklpnkikgabDoor
