/- Package copying: Check. -/
import Derived.Test.YtlodmffiengnaaaDoorCpyAt
namespace Go.Proofs.YtlodmffiengnaaaDoor
open Go.ChangeShapes Go.WideShapes Go.ChangeAt Go.RowKit Go.Maps
namespace Cpy
set_option maxHeartbeats 1000000 in
set_option maxRecDepth 100000 in
theorem long_any (s : ByteArray) (w : World) :
    Calls Tryd.prog 29 #[.string s] w fun e w' => e = .returned (.bool (long s)) ∧ w' = w := by
  go_enter Tryd.func29, Tryd.ntmps29
  go_wp2_with fail
  go_ret
  exact ⟨ret_b (by unfold long; rw [decide_eq_decide]; omega), rfl⟩
set_option maxHeartbeats 4000000 in
set_option maxRecDepth 100000 in
theorem isPlace_any (a : Option Addr) (n c : Nat) (x y : Int) (w : World) :
    Calls Tryd.prog 30 #[.slice a n c, .agg #[.int .i64 x, .int .i64 y]] w fun e w' => e = .returned (.bool (okM n x y)) ∧ Below w.heap.size w w' := by
  have kb : Below w.heap.size w (w.alloc (.cells #[.int .i64 x, .int .i64 y] 24)) := (Below.refl _ _).alloc (Nat.le_refl _) _
  have HH : Hid (okM n x y = (decide (0 ≤ y) && decide (y < n) && decide (0 ≤ x) && decide (x ≤ 120))) := rfl
  go_enter Tryd.func30, Tryd.ntmps30
  cases h1 : decide (0 ≤ y)
  · rw [h1] at HH
    go_wp2_with fail
    go_ret
    exact ⟨ret_b (by rw [HH.out]; rfl), kb⟩
  cases h2 : decide (y < n)
  · rw [h1, h2] at HH
    go_wp2_with fail
    go_ret
    exact ⟨ret_b (by rw [HH.out]; rfl), kb⟩
  cases h3 : decide (0 ≤ x)
  · rw [h1, h2, h3] at HH
    go_wp2_with fail
    go_ret
    exact ⟨ret_b (by rw [HH.out]; rfl), kb⟩
  rw [h1, h2, h3] at HH
  go_wp2_with fail
  go_ret
  exact ⟨ret_b (by rw [HH.out]; simp), kb⟩
/-- Where a text that is too long stands first, from the i-th on; -1: nowhere. -/
def idxL : List ByteArray → Nat → Int
  | [], _ => -1
  | s :: t, i => if long s then (i : Int) else idxL t (i + 1)
theorem idxL_ge : ∀ (l : List ByteArray) (i : Nat), decide (0 ≤ idxL l i) = l.any long
  | [], _ => rfl
  | s :: t, i => by
    unfold idxL
    cases h : long s
    · rw [if_neg (by simp), idxL_ge t (i + 1)]; simp [h]
    · rw [if_pos rfl]; simp [h]
set_option maxHeartbeats 4000000 in
set_option maxRecDepth 100000 in
theorem idx_any (L : List ByteArray) (v : Value) (w : World) (hs : LsAt w v L) (hL : L.length ≤ 3000000) :
    Calls Tryd.prog 46 #[v, .func (.func 29) #[] #[]] w fun e w' => e = .returned (.int .i64 (idxL L 0)) ∧ Below w.heap.size w w' := by
  obtain ⟨R, hR⟩ : ∃ R, idxL L 0 = R := ⟨_, rfl⟩
  rw [hR]
  have HR : Hid (idxL L 0 = R) := hR
  clear hR
  obtain ⟨a, c, rfl, hcell⟩ := hs
  have HCC : Hid (L = [] ∨ ∃ b o, a = some ⟨b, o, none⟩ ∧ ∀ j x, L[j]? = some x → w.cell? ⟨b, o + j, none⟩ = some (.string x)) := hcell
  clear hcell
  go_enter Tryd.func46, Tryd.ntmps46
  go_wp2_with fail
  go_loopg [8] L.length (fun g u wr => ∃ i : Nat, u = .int .i64 (i : Int) ∧ i ≤ L.length ∧ L.length - i ≤ g ∧ idxL (L.drop i) i = R ∧ Below w.heap.size w wr)
  case atStart => exact ⟨0, rfl, Nat.zero_le _, Nat.le_refl _, HR.out, Below.refl _ _⟩
  case round =>
    obtain ⟨i, rfl, hi, hg, hix, hb⟩ := hrel
    have HX : Hid (idxL (L.drop i) i = R) := hix
    clear hix HR
    by_cases hil : i < L.length
    · have iin : (i : Int) < (L.length : Int) := by omega
      obtain ⟨b, o, rfl, hc⟩ := HCC.out.resolve_left (by intro h; rw [h] at hil; simp at hil)
      have q := (CK.below hb) _ _ _ (hc i L[i] (List.getElem?_eq_getElem hil))
      have hd : L.drop i = L[i] :: L.drop (i + 1) := List.drop_eq_getElem_cons hil
      have HXX := HX.out
      rw [hd, idxL] at HXX
      generalize L[i] = x at *
      cases hp : long x
      · rw [hp] at HXX
        simp only [Bool.false_eq_true, if_false] at HXX
        have HX2 : Hid (idxL (L.drop (i + 1)) (i + 1) = R) := HXX
        have HL := fun W => long_any x W
        rw [hp] at HL
        clear hd HX HXX hc HCC hp
        go_wp2_with fail
        refine (HL _).mono ?_
        rintro e W1 ⟨rfl, rfl⟩
        go_wp2_with fail
        go_roundg (L.length - (i + 1))
        case measure => omega
        case rel => exact ⟨i + 1, by go_num, by omega, Nat.le_refl _, HX2.out, hb⟩
      · rw [hp] at HXX
        simp only [if_true] at HXX
        have HL := fun W => long_any x W
        rw [hp] at HL
        subst HXX
        clear hd HX hc HCC hp
        go_wp2_with fail
        refine (HL _).mono ?_
        rintro e W1 ⟨rfl, rfl⟩
        go_wp2_with fail
        go_ret
        exact ⟨rfl, hb⟩
    · have iex : ¬ (i : Int) < (L.length : Int) := by omega
      have e : R = -1 := by
        rw [← HX.out, List.drop_of_length_le (by omega)]
        rfl
      subst e
      clear HX hil
      go_wp2_with fail
      go_ret
      exact ⟨rfl, hb⟩
set_option maxHeartbeats 4000000 in
set_option maxRecDepth 100000 in
theorem hasLong_any (L : List ByteArray) (v : Value) (w : World) (hs : LsAt w v L) (hL : L.length ≤ 3000000) :
    Calls Tryd.prog 28 #[v, .func (.func 29) #[] #[]] w fun e w' => e = .returned (.bool (L.any long)) ∧ Below w.heap.size w w' := by
  have HI := idx_any L v w hs hL
  rw [← idxL_ge L 0]
  generalize idxL L 0 = R at *
  clear hs
  go_enter Tryd.func28, Tryd.ntmps28
  go_wp2_with fail
  refine HI.mono ?_
  rintro e W ⟨rfl, bW⟩
  go_wp2_with fail
  go_ret
  exact ⟨rfl, bW⟩
set_option maxHeartbeats 4000000 in
set_option maxRecDepth 100000 in
/-- Check, of lines of any number and any length, and of any place. -/
theorem check_any (L : List ByteArray) (v : Value) (k : Cp) (w : World) (hs : LsAt w v L) :
    Calls Tryd.prog 10 #[v, .agg k.cells] w fun e w' => e = .returned (.int .i64 (chk L k)) ∧ Below w.heap.size w w' := by
  have kb : Below w.heap.size w (w.alloc (.cells k.cells 26)) := (Below.refl _ _).alloc (Nat.le_refl _) _
  have HS : Hid (LsAt w v L) := hs
  obtain ⟨a, c, rfl, _⟩ := hs
  obtain ⟨R, hR⟩ : ∃ R, chk L k = R := ⟨_, rfl⟩
  rw [hR]
  unfold chk okL at hR
  obtain ⟨x, y, fx, fy, on⟩ := k
  simp only [Cp.cells] at *
  have f0 : ∀ i, (w.alloc (.cells #[.int .i64 x, .int .i64 y, .int .i64 fx, .int .i64 fy, .bool on] 26)).cell? ⟨w.heap.size, i, none⟩ = (#[Value.int .i64 x, .int .i64 y, .int .i64 fx, .int .i64 fy, .bool on] : Array Value)[i]? := by
    intro i
    unfold World.cell?
    rw [heap_alloc_new]
    rfl
  have c0 := f0 0
  have c1 := f0 1
  have c2 := f0 2
  have c3 := f0 3
  simp only [List.getElem?_toArray, List.getElem?_cons_zero, List.getElem?_cons_succ] at c0 c1 c2 c3
  clear f0
  go_enter Tryd.func10, Tryd.ntmps10
  by_cases h1 : 1 ≤ L.length
  · by_cases h2 : L.length ≤ 110
    · have H := fun W (h : Below w.heap.size w W) => hasLong_any L _ W (HS.out.below h) (by omega)
      have i1 : ¬ (L.length : Int) < 1 := by omega
      have i2 : ¬ (110 : Int) < (L.length : Int) := by omega
      rw [decide_eq_true h1, decide_eq_true h2] at hR
      clear h1 h2
      cases h3 : L.any long
      · rw [h3] at H hR
        have P1 := fun W => isPlace_any a L.length c x y W
        have P2 := fun W => isPlace_any a L.length c fx fy W
        cases h4 : okM L.length x y
        · rw [h4] at P1 hR
          simp only [Bool.not_false, Bool.and_self, Bool.false_and, Bool.false_eq_true, if_true, if_false] at hR
          subst hR
          clear P2 h3 h4
          go_wp2_with fail
          refine (H _ kb).mono ?_
          rintro e W ⟨rfl, bW⟩
          have k2 := kb.trans (bW.mono kb.size)
          have d0 := (CK.below bW) _ _ _ c0
          have d1 := (CK.below bW) _ _ _ c1
          clear H c0 c1 c2 c3
          go_wp2_with fail
          refine (P1 _).mono ?_
          rintro e W1 ⟨rfl, bW1⟩
          have k3 := k2.trans (bW1.mono k2.size)
          go_wp2_with fail
          go_ret
          exact ⟨rfl, k3⟩
        · rw [h4] at P1 hR
          cases h5 : okM L.length fx fy
          all_goals
            rw [h5] at P2 hR
            simp only [Bool.not_false, Bool.and_self, Bool.and_false, Bool.false_eq_true, if_true, if_false] at hR
            subst hR
            clear h3 h4 h5
            go_wp2_with fail
            refine (H _ kb).mono ?_
            rintro e W ⟨rfl, bW⟩
            have k2 := kb.trans (bW.mono kb.size)
            have d0 := (CK.below bW) _ _ _ c0
            have d1 := (CK.below bW) _ _ _ c1
            have d2 := (CK.below bW) _ _ _ c2
            have d3 := (CK.below bW) _ _ _ c3
            clear H c0 c1 c2 c3
            go_wp2_with fail
            refine (P1 _).mono ?_
            rintro e W1 ⟨rfl, bW1⟩
            have k3 := k2.trans (bW1.mono k2.size)
            have d4 := (CK.below bW1) _ _ _ d2
            have d5 := (CK.below bW1) _ _ _ d3
            clear P1 d0 d1 d2 d3
            go_wp2_with fail
            refine (P2 _).mono ?_
            rintro e W2 ⟨rfl, bW2⟩
            have k4 := k3.trans (bW2.mono k3.size)
            go_wp2_with fail
            go_ret
            exact ⟨rfl, k4⟩
      · rw [h3] at H hR
        simp only [Bool.not_true, Bool.and_false, Bool.false_eq_true, if_false] at hR
        subst hR
        clear h3
        go_wp2_with fail
        refine (H _ kb).mono ?_
        rintro e W ⟨rfl, bW⟩
        have k2 := kb.trans (bW.mono kb.size)
        go_wp2_with fail
        go_ret
        exact ⟨rfl, k2⟩
    · have i1 : ¬ (L.length : Int) < 1 := by omega
      have i2 : (110 : Int) < (L.length : Int) := by omega
      rw [decide_eq_false h2] at hR
      simp only [Bool.and_false, Bool.false_and, Bool.false_eq_true, if_false] at hR
      subst hR
      go_wp2_with fail
      go_ret
      exact ⟨rfl, kb⟩
  · have i1 : (L.length : Int) < 1 := by omega
    rw [decide_eq_false h1] at hR
    simp only [Bool.false_and, Bool.false_eq_true, if_false] at hR
    subst hR
    go_wp2_with fail
    go_ret
    exact ⟨rfl, kb⟩
end Cpy
end Go.Proofs.YtlodmffiengnaaaDoor
