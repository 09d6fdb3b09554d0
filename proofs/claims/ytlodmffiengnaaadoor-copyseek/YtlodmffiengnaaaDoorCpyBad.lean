/- The reference's words for Check. -/
import Derived.Test.YtlodmffiengnaaaDoorCpyChange
namespace Go.Proofs.YtlodmffiengnaaaDoor
open Go.ChangeShapes Go.WideShapes Go.ChangeAt Go.RowKit Go.Maps
namespace Cpy
theorem any_drop (L : List ByteArray) (i : Nat) (h : i < L.length) : (L.drop i).any long = (long L[i] || (L.drop (i + 1)).any long) := by
  rw [List.drop_eq_getElem_cons h, List.any_cons]
theorem okM_false {n : Nat} {x y : Int} (h : okM n x y = false) : y < 0 ∨ (n : Int) ≤ y ∨ x < 0 ∨ 120 < x := by
  unfold okM at h
  simp only [Bool.and_eq_false_iff, decide_eq_false_iff_not] at h
  omega
theorem okM_true {n : Nat} {x y : Int} (h : okM n x y = true) : 0 ≤ y ∧ y < (n : Int) ∧ 0 ≤ x ∧ x ≤ 120 := by
  unfold okM at h
  simp only [Bool.and_eq_true, decide_eq_true_eq] at h
  omega
set_option maxHeartbeats 8000000 in
set_option maxRecDepth 100000 in
theorem bad_any (L : List ByteArray) (v : Value) (k : Cp) (w : World) (hs : LsAt w v L) :
    Calls Tryd.prog 8 #[v, .agg k.cells] w fun e w' => e = .returned (.int .i64 (chk L k)) ∧ Below w.heap.size w w' := by
  have kb : Below w.heap.size w (w.alloc (.cells k.cells 26)) := (Below.refl _ _).alloc (Nat.le_refl _) _
  have Y : BoxAt (w.alloc (.cells k.cells 26)) w.heap.size k := heap_alloc_new w (.cells k.cells 26)
  obtain ⟨a, c, rfl, hcell⟩ := hs
  have HCC : Hid (L = [] ∨ ∃ b o, a = some ⟨b, o, none⟩ ∧ ∀ j x, L[j]? = some x → w.cell? ⟨b, o + j, none⟩ = some (.string x)) := hcell
  obtain ⟨R, hR⟩ : ∃ R, chk L k = R := ⟨_, rfl⟩
  rw [hR]
  unfold chk okL at hR
  obtain ⟨⟨c0, c1, c2, c3, c4⟩, _⟩ := Y.cells
  obtain ⟨x, y, fx, fy, on⟩ := k
  simp only [Cp.cells] at kb Y c0 c1 c2 c3 c4 hR ⊢
  clear hcell
  by_cases h1 : 1 ≤ L.length
  · by_cases h2 : L.length ≤ 110
    · have i1 : ¬ (L.length : Int) < 1 := by omega
      have i2 : ¬ (110 : Int) < (L.length : Int) := by omega
      rw [decide_eq_true h1, decide_eq_true h2] at hR
      simp only [Bool.true_and] at hR
      have HR : Hid ((if (!L.any long) = true then (if (okM L.length x y && okM L.length fx fy) = true then (0 : Int) else 4) else 2) = R) := hR
      have HY : Hid (BoxAt (w.alloc (.cells #[.int .i64 x, .int .i64 y, .int .i64 fx, .int .i64 fy, .bool on] 26)) w.heap.size ⟨x, y, fx, fy, on⟩) := Y
      have HKB : Hid (Below w.heap.size w (w.alloc (.cells #[.int .i64 x, .int .i64 y, .int .i64 fx, .int .i64 fy, .bool on] 26))) := kb
      clear hR Y
      go_enter Tryd.func8, Tryd.ntmps8
      go_wp2_with fail
      go_loopg [19] L.length (fun g u wr => ∃ i : Nat, u = .int .i64 (i : Int) ∧ i ≤ L.length ∧ L.length - i ≤ g ∧ (L.drop i).any long = L.any long ∧ Below w.heap.size w wr ∧ BoxAt wr w.heap.size ⟨x, y, fx, fy, on⟩)
      case atStart => exact ⟨0, rfl, Nat.zero_le _, Nat.le_refl _, rfl, HKB.out, HY.out⟩
      case round =>
        obtain ⟨i, rfl, hi, hg, hany, kb, hbox⟩ := hrel
        clear HY HKB c0 c1 c2 c3 c4
        by_cases hil : i < L.length
        · have iin : (i : Int) < (L.length : Int) := by omega
          obtain ⟨b, o, rfl, hc⟩ := HCC.out.resolve_left (by intro h; rw [h] at hil; simp at hil)
          have q := (CK.below kb) _ _ _ (hc i L[i] (List.getElem?_eq_getElem hil))
          rw [any_drop L i hil] at hany
          generalize L[i] = s at *
          by_cases hl : 4000 < s.size
          · have hl1 : long s = true := decide_eq_true hl
            rw [hl1] at hany
            have hr := HR.out
            rw [← hany] at hr
            simp only [Bool.true_or, Bool.not_true, Bool.false_eq_true, if_false] at hr
            subst hr
            have is : (4000 : Int) < (s.size : Int) := by omega
            go_wp2_with fail
            go_ret
            exact ⟨rfl, kb⟩
          · have hl1 : long s = false := decide_eq_false hl
            rw [hl1, Bool.false_or] at hany
            have HA : Hid ((L.drop (i + 1)).any long = L.any long) := hany
            have is : ¬ (4000 : Int) < (s.size : Int) := by omega
            clear hany hl1
            go_wp2_with fail
            go_roundg (L.length - (i + 1))
            case measure => omega
            case rel => exact ⟨i + 1, by go_num, by omega, Nat.le_refl _, HA.out, kb, hbox⟩
        · have iex : ¬ (i : Int) < (L.length : Int) := by omega
          have hno : L.any long = false := by rw [← hany, List.drop_of_length_le (by omega)]; rfl
          have hr := HR.out
          rw [hno] at hr
          simp only [Bool.not_false, if_true] at hr
          have HR2 : Hid ((if (okM L.length x y && okM L.length fx fy) = true then (0 : Int) else 4) = R) := hr
          obtain ⟨⟨c0, c1, c2, c3, c4⟩, _⟩ := hbox.cells
          simp only [] at c0 c1 c2 c3 c4
          have kM : Below wr.heap.size wr (wr.alloc (.cells #[.int .i64 x, .int .i64 y, .int .i64 fx, .int .i64 fy] 24)) := (Below.refl _ _).alloc (Nat.le_refl _) _
          have k2 := kb.trans (kM.mono kb.size)
          have HM := heap_alloc_new wr (.cells #[.int .i64 x, .int .i64 y, .int .i64 fx, .int .i64 fy] 24)
          have HM2 : Hid ((wr.alloc (.cells #[.int .i64 x, .int .i64 y, .int .i64 fx, .int .i64 fy] 24)).heap[wr.heap.size]? = some (.cells #[.int .i64 x, .int .i64 y, .int .i64 fx, .int .i64 fy] 24 (0, 0))) := HM
          clear hany hr HR HM kM
          go_wp2_with fail
          generalize wr.alloc (.cells #[.int .i64 x, .int .i64 y, .int .i64 fx, .int .i64 fy] 24) = W2 at *
          generalize wr.heap.size = P at *
          go_loopg [33] 2 (fun g u wr => ∃ j : Nat, u = .int .i64 (j : Int) ∧ j ≤ 2 ∧ 2 - j ≤ g ∧ (1 ≤ j → okM L.length x y = true) ∧ (2 ≤ j → okM L.length fx fy = true) ∧ Below w.heap.size w wr ∧ wr.heap[P]? = some (.cells #[.int .i64 x, .int .i64 y, .int .i64 fx, .int .i64 fy] 24 (0, 0)))
          case atStart => exact ⟨0, rfl, by omega, by omega, by omega, by omega, k2, HM2.out⟩
          case round =>
            obtain ⟨j, rfl, hj, hg2, ho1, ho2, kz, hM⟩ := hrel
            have m0 : ∀ i : Nat, wr.cell? ⟨P, i, none⟩ = (#[Value.int .i64 x, .int .i64 y, .int .i64 fx, .int .i64 fy] : Array Value)[i]? := fun i => by unfold World.cell?; rw [hM]; rfl
            have m1 := m0 0
            have m2 := m0 1
            have m3 := m0 2
            have m4 := m0 3
            simp only [List.getElem?_toArray, List.getElem?_cons_zero, List.getElem?_cons_succ] at m1 m2 m3 m4
            clear m0
            have kQ : ∀ p q, Below wr.heap.size wr (wr.alloc (.cells #[.int .i64 p, .int .i64 q] 24)) := fun p q => (Below.refl _ _).alloc (Nat.le_refl _) _
            by_cases hj2 : j < 2
            · have jj : (j : Int) < 2 := by omega
              by_cases hj0 : j = 0
              · subst hj0
                have kq := kz.trans ((kQ x y).mono kz.size)
                have hM3 := kept hM (kQ x y)
                obtain ⟨p0, p1⟩ := cells2 (heap_alloc_new wr (.cells #[.int .i64 x, .int .i64 y] 24))
                cases ho : okM L.length x y
                · have e0 : R = 4 := by
                    have := HR2.out
                    rw [ho] at this
                    simpa using this.symm
                  subst e0
                  rcases okM_false ho with h | h | h | h
                  all_goals
                    clear ho
                    go_wp2_with fail
                    all_goals
                      go_ret
                      exact ⟨rfl, kq⟩
                · obtain ⟨g1, g2, g3, g4⟩ := okM_true ho
                  have n1 : ¬ y < 0 := by omega
                  have n2 : ¬ (L.length : Int) ≤ y := by omega
                  have n3 : ¬ x < 0 := by omega
                  have n4 : ¬ 120 < x := by omega
                  have HO : Hid (okM L.length x y = true) := ho
                  clear ho g1 g2 g3 g4
                  go_wp2_with fail
                  go_roundg 1
                  case measure => omega
                  case rel => exact ⟨1, by go_num, by omega, by omega, fun _ => HO.out, by omega, kq, hM3⟩
              · obtain rfl : j = 1 := by omega
                have kq := kz.trans ((kQ fx fy).mono kz.size)
                have hM3 := kept hM (kQ fx fy)
                obtain ⟨p0, p1⟩ := cells2 (heap_alloc_new wr (.cells #[.int .i64 fx, .int .i64 fy] 24))
                have ho0 := ho1 (Nat.le_refl 1)
                cases ho : okM L.length fx fy
                · have e0 : R = 4 := by
                    have := HR2.out
                    rw [ho, ho0] at this
                    simpa using this.symm
                  subst e0
                  rcases okM_false ho with h | h | h | h
                  all_goals
                    clear ho
                    go_wp2_with fail
                    all_goals
                      go_ret
                      exact ⟨rfl, kq⟩
                · obtain ⟨g1, g2, g3, g4⟩ := okM_true ho
                  have n1 : ¬ fy < 0 := by omega
                  have n2 : ¬ (L.length : Int) ≤ fy := by omega
                  have n3 : ¬ fx < 0 := by omega
                  have n4 : ¬ 120 < fx := by omega
                  have HO : Hid (okM L.length fx fy = true) := ho
                  have HO0 : Hid (okM L.length x y = true) := ho0
                  clear ho g1 g2 g3 g4 ho0
                  go_wp2_with fail
                  go_roundg 0
                  case measure => omega
                  case rel => exact ⟨2, by go_num, by omega, by omega, fun _ => HO0.out, fun _ => HO.out, kq, hM3⟩
            · obtain rfl : j = 2 := by omega
              have e0 : R = 0 := by
                have := HR2.out
                rw [ho1 (by omega), ho2 (by omega)] at this
                simpa using this.symm
              subst e0
              go_wp2_with fail
              go_ret
              exact ⟨rfl, kz⟩
    · have i1 : ¬ (L.length : Int) < 1 := by omega
      have i2 : (110 : Int) < (L.length : Int) := by omega
      rw [decide_eq_false h2] at hR
      simp only [Bool.and_false, Bool.false_and, Bool.false_eq_true, if_false] at hR
      subst hR
      go_enter Tryd.func8, Tryd.ntmps8
      go_wp2_with fail
      go_ret
      exact ⟨rfl, kb⟩
  · have i1 : (L.length : Int) < 1 := by omega
    rw [decide_eq_false h1] at hR
    simp only [Bool.false_and, Bool.false_eq_true, if_false] at hR
    subst hR
    go_enter Tryd.func8, Tryd.ntmps8
    go_wp2_with fail
    go_ret
    exact ⟨rfl, kb⟩
end Cpy
end Go.Proofs.YtlodmffiengnaaaDoor
