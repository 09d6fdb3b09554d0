/- Package copying: Take. -/
import Derived.Test.YtlodmffiengnaaaDoorCpyBet
import Derived.Test.YtlodmffiengnaaaDoorCpyMoveW
namespace Go.Proofs.YtlodmffiengnaaaDoor
open Go.ChangeShapes Go.WideShapes Go.ChangeAt Go.RowKit Go.Maps Go.Sort
namespace Cpy
open Txt (Tab)
def ahead (x y fx fy : Int) : Bool := decide (y < fy) || (decide (y = fy) && decide (x < fx))
set_option maxHeartbeats 4000000 in
set_option maxRecDepth 100000 in
theorem ahead_any (x y fx fy : Int) (w : World) :
    Calls Tryd.prog 34 #[.agg #[.int .i64 x, .int .i64 y], .agg #[.int .i64 fx, .int .i64 fy]] w fun e w' => e = .returned (.bool (ahead x y fx fy)) ∧ Below w.heap.size w w' := by
  have kb0 : Below w.heap.size w ((w.alloc (.cells #[.int .i64 x, .int .i64 y] 24)).alloc (.cells #[.int .i64 fx, .int .i64 fy] 24)) := ((Below.refl _ _).alloc (Nat.le_refl _) _).alloc (by rw [World.size_alloc]; omega) _
  have ZB := heap_alloc_new (w.alloc (.cells #[.int .i64 x, .int .i64 y] 24)) (.cells #[.int .i64 fx, .int .i64 fy] 24)
  have ZA := (heap_alloc_old (w.alloc (.cells #[.int .i64 x, .int .i64 y] 24)) (.cells #[.int .i64 fx, .int .i64 fy] 24) (r := w.heap.size) (by rw [World.size_alloc]; omega)).trans (heap_alloc_new w (.cells #[.int .i64 x, .int .i64 y] 24))
  rw [World.size_alloc] at ZB
  obtain ⟨a0, a1⟩ := cells2 ZA
  obtain ⟨b0, b1⟩ := cells2 ZB
  have HH : Hid (ahead x y fx fy = (decide (y < fy) || (decide (y = fy) && decide (x < fx)))) := rfl
  clear ZA ZB
  cases h1 : decide (y < fy)
  · cases h2 : decide (y = fy)
    · have j2 : (y == fy) = false := by rw [beq_eq_false_iff_ne]; exact of_decide_eq_false h2
      rw [h1, h2] at HH
      go_enter Tryd.func34, Tryd.ntmps34
      go_wp2_with fail
      go_ret
      exact ⟨ret_b (by rw [HH.out]; rfl), kb0⟩
    · have j2 : (y == fy) = true := by rw [beq_iff_eq]; exact of_decide_eq_true h2
      rw [h1, h2] at HH
      go_enter Tryd.func34, Tryd.ntmps34
      go_wp2_with fail
      go_ret
      exact ⟨ret_b (by rw [HH.out]; simp), kb0⟩
  · rw [h1] at HH
    go_enter Tryd.func34, Tryd.ntmps34
    go_wp2_with fail
    go_ret
    exact ⟨ret_b (by rw [HH.out]; rfl), kb0⟩
theorem ahead_false {x fx : Int} {y fy : Nat} (h : ahead x y fx fy = false) : fy ≤ y ∧ (fy = y → fx ≤ x) := by
  unfold ahead at h
  simp only [Bool.or_eq_false_iff, Bool.and_eq_false_iff, decide_eq_false_iff_not] at h
  omega
theorem ahead_true {x fx : Int} {y fy : Nat} (h : ahead x y fx fy = true) : y ≤ fy ∧ (y = fy → x ≤ fx) := by
  unfold ahead at h
  simp only [Bool.or_eq_true, Bool.and_eq_true, decide_eq_true_eq] at h
  omega
/-- What is taken. -/
def takeM (L : List ByteArray) (k : Cp) : ByteArray := if ahead k.x k.y k.fx k.fy then betM L k.x k.y.toNat k.fx k.fy.toNat else betM L k.fx k.fy.toNat k.x k.y.toNat
def takeE (L : List ByteArray) (k : Cp) : Int := if chk L k = 0 then (if k.on then (if 4000 < (takeM L k).size then 10 else 0) else 8) else chk L k
def takeT (L : List ByteArray) (k : Cp) : ByteArray := if takeE L k = 0 then takeM L k else ⟨#[]⟩
set_option maxHeartbeats 16000000 in
set_option maxRecDepth 100000 in
theorem take_any (L : List ByteArray) (v : Value) (k : Cp) (w : World) (h : LsAt w v L) (hT : Tab w) :
    Calls Tryd.prog 13 #[v, .agg k.cells] w fun e w' => e = .returned (.tuple #[.string (takeT L k), .int .i64 (takeE L k)]) ∧ Below w.heap.size w w' := by
  have kb : Below w.heap.size w (w.alloc (.cells k.cells 26)) := (Below.refl _ _).alloc (Nat.le_refl _) _
  have Y : BoxAt (w.alloc (.cells k.cells 26)) w.heap.size k := heap_alloc_new w (.cells k.cells 26)
  have HC := fun W (hW : Below w.heap.size w W) => check_any L v k W (h.below hW)
  have HLS : Hid (∀ V, Below w.heap.size w V → LsAt V v L) := fun V hV => h.below hV
  have HTB : Hid (∀ V, Below w.heap.size w V → Tab V) := fun V hV => hT.below hV hT.pos
  obtain ⟨a, c, rfl, _⟩ := h
  obtain ⟨⟨c0, c1, c2, c3, c4⟩, _⟩ := Y.cells
  obtain ⟨E0, hE⟩ : ∃ E0, takeE L k = E0 := ⟨_, rfl⟩
  obtain ⟨T0, hT0⟩ : ∃ T0, takeT L k = T0 := ⟨_, rfl⟩
  rw [hE, hT0]
  unfold takeT at hT0
  rw [hE] at hT0
  unfold takeE at hE
  have HK : Hid (chk L k = 0 → 1 ≤ L.length ∧ L.length ≤ 110 ∧ (∀ s ∈ L, s.size ≤ 4000) ∧ (0 ≤ k.y ∧ k.y < L.length ∧ 0 ≤ k.x ∧ k.x ≤ 120) ∧ (0 ≤ k.fy ∧ k.fy < L.length ∧ 0 ≤ k.fx ∧ k.fx ≤ 120)) := chk_zero
  have HM : Hid (takeM L k = if ahead k.x k.y k.fx k.fy then betM L k.x k.y.toNat k.fx k.fy.toNat else betM L k.fx k.fy.toNat k.x k.y.toNat) := rfl
  generalize takeM L k = M at *
  generalize chk L k = R at *
  obtain ⟨x, y, fx, fy, on⟩ := k
  simp only [Cp.cells] at Y kb HC c0 c1 c2 c3 c4 hE HK HM ⊢
  by_cases hR : R = 0
  · subst hR
    rw [if_pos rfl] at hE
    obtain ⟨n1, n2, n3, ⟨n4, n5, n6, n7⟩, ⟨n8, n9, n10, n11⟩⟩ := HK.out rfl
    obtain ⟨y, rfl⟩ := Int.eq_ofNat_of_zero_le n4
    obtain ⟨fy, rfl⟩ := Int.eq_ofNat_of_zero_le n8
    cases on
    · simp only [Bool.false_eq_true, if_false] at hE
      subst hE
      rw [if_neg (by decide)] at hT0
      subst hT0
      go_enter Tryd.func13, Tryd.ntmps13
      go_wp2_with fail
      refine (HC _ kb).mono ?_
      rintro e1 W1 ⟨rfl, b1⟩
      have k1 := kb.trans (b1.mono kb.size)
      obtain ⟨⟨d0, d1, d2, d3, d4⟩, _⟩ := (Y.below b1).cells
      simp only [] at d4
      clear HC c0 c1 c2 c3 c4
      go_wp2_with fail
      go_ret2
      exact ⟨rfl, k1⟩
    · simp only [if_true] at hE
      go_enter Tryd.func13, Tryd.ntmps13
      go_wp2_with fail
      refine (HC _ kb).mono ?_
      rintro e1 W1 ⟨rfl, b1⟩
      have k1 := kb.trans (b1.mono kb.size)
      obtain ⟨⟨d0, d1, d2, d3, d4⟩, _⟩ := (Y.below b1).cells
      simp only [] at d0 d1 d2 d3 d4
      clear HC c0 c1 c2 c3 c4 Y b1
      have kA : ∀ o, Below W1.heap.size W1 (W1.alloc o) := fun o => (Below.refl _ _).alloc (Nat.le_refl _) _
      have kB : ∀ o o', Below W1.heap.size W1 ((W1.alloc o).alloc o') := fun o o' => (kA o).alloc (by rw [World.size_alloc]; omega) _
      have e0 := fun o => CK.below (kA o) _ _ _ d0
      have e1 := fun o => CK.below (kA o) _ _ _ d1
      have e2 := fun o => CK.below (kA o) _ _ _ d2
      have e3 := fun o => CK.below (kA o) _ _ _ d3
      have g0 := fun o o' => CK.below (kB o o') _ _ _ d0
      have g1 := fun o o' => CK.below (kB o o') _ _ _ d1
      have g2 := fun o o' => CK.below (kB o o') _ _ _ d2
      have g3 := fun o o' => CK.below (kB o o') _ _ _ d3
      have HKB : Hid (∀ o o', Below W1.heap.size W1 ((W1.alloc o).alloc o')) := kB
      clear kA kB
      go_upto_region 6 with fail
      go_region
      · have kV : Below w.heap.size w ((W1.alloc (.cells #[.int .i64 fx, .int .i64 fy] 24)).alloc (.cells #[.int .i64 x, .int .i64 y] 24)).drew := (k1.trans ((HKB.out _ _).mono k1.size)).drew
        have h0 := k1.size
        have hB00 := heap_alloc_new (W1.alloc (.cells #[.int .i64 fx, .int .i64 fy] 24)) (.cells #[.int .i64 x, .int .i64 y] 24)
        rw [World.size_alloc] at hB00
        have hB0 : (((W1.alloc (.cells #[.int .i64 fx, .int .i64 fy] 24)).alloc (.cells #[.int .i64 x, .int .i64 y] 24)).drew).heap[W1.heap.size + 1]? = _ := hB00
        clear hB00
        have hA0 : (((W1.alloc (.cells #[.int .i64 fx, .int .i64 fy] 24)).alloc (.cells #[.int .i64 x, .int .i64 y] 24)).drew).heap[W1.heap.size]? = _ := (heap_alloc_old (W1.alloc (.cells #[.int .i64 fx, .int .i64 fy] 24)) (.cells #[.int .i64 x, .int .i64 y] 24) (r := W1.heap.size) (by rw [World.size_alloc]; omega)).trans (heap_alloc_new W1 (.cells #[.int .i64 fx, .int .i64 fy] 24))
        have hp9 : w.heap.size ≤ W1.heap.size := h0
        have hq9 : w.heap.size ≤ W1.heap.size + 1 := by omega
        have hpq : W1.heap.size ≠ W1.heap.size + 1 := by omega
        generalize ((W1.alloc (.cells #[.int .i64 fx, .int .i64 fy] 24)).alloc (.cells #[.int .i64 x, .int .i64 y] 24)).drew = V at *
        obtain ⟨p, hpe⟩ : ∃ z, W1.heap.size = z := ⟨_, rfl⟩
        obtain ⟨q, hqe⟩ : ∃ z, W1.heap.size + 1 = z := ⟨_, rfl⟩
        rw [hqe] at hB0 hpq hq9 ⊢
        rw [hpe] at hA0 hpq hp9 ⊢
        have hP := hA0
        have hQ := hB0
        have hpq2 := hpq.symm
        clear hqe hpe hA0 hB0 h0 k1
        clear HKB e0 e1 e2 e3 g0 g1 g2 g3 d0 d1 d2 d3 d4
        obtain ⟨p0, p1⟩ := cells2 hP
        obtain ⟨q0, q1⟩ := cells2 hQ
        have HAH := ahead_any x y fx fy
        cases hh : ahead x y fx fy
        · rw [hh] at HAH
          have hM : M = betM L fx fy x y := by rw [HM.out]; simp only [hh, Bool.false_eq_true, if_false, Int.toNat_natCast]
          obtain ⟨m1, m2⟩ := ahead_false hh
          have HB := fun W h t => between_any L (.slice a L.length c) fx fy x y W h t n3 n2 m1 (Int.ofNat_lt.1 n5) m2 n10
          rw [← hM] at HB
          clear hh hM HM
          go_wp2_with fail
          refine (HAH _).mono ?_
          rintro e2 W2 ⟨rfl, b2⟩
          have k2 := kV.trans (b2.mono kV.size)
          obtain ⟨p0, p1⟩ := cells2 (kept hP b2)
          obtain ⟨q0, q1⟩ := cells2 (kept hQ b2)
          clear hP hQ HAH kV b2
          go_wp2_with fail
          refine (HB _ (HLS.out _ k2) (HTB.out _ k2)).mono ?_
          rintro e3 W3 ⟨rfl, b3⟩
          have k3 := k2.trans (b3.mono k2.size)
          clear HB b3 p0 p1 q0 q1 n3
          by_cases hs : 4000 < M.size
          · rw [if_pos hs] at hE
            subst hE
            rw [if_neg (by decide)] at hT0
            subst hT0
            have is : (4000 : Int) < (M.size : Int) := Int.ofNat_lt.2 hs
            go_wp2_with fail
            go_ret2
            exact ⟨rfl, k3⟩
          · rw [if_neg hs] at hE
            subst hE
            rw [if_pos rfl] at hT0
            subst hT0
            have is : ¬ (4000 : Int) < (M.size : Int) := fun h => hs (Int.ofNat_lt.1 h)
            go_wp2_with fail
            go_ret2
            exact ⟨rfl, k3⟩
        · rw [hh] at HAH
          have hM : M = betM L x y fx fy := by rw [HM.out]; simp only [hh, if_true, Int.toNat_natCast]
          obtain ⟨m1, m2⟩ := ahead_true hh
          have HB := fun W h t => between_any L (.slice a L.length c) x y fx fy W h t n3 n2 m1 (Int.ofNat_lt.1 n9) m2 n6
          rw [← hM] at HB
          clear hh hM HM
          go_wp2_with fail
          refine (HAH _).mono ?_
          rintro e2 W2 ⟨rfl, b2⟩
          have k2 := kV.trans (b2.mono kV.size)
          have hP2 := kept hP b2
          have hQ2 := kept hQ b2
          obtain ⟨p0, p1⟩ := cells2 hP2
          obtain ⟨q0, q1⟩ := cells2 hQ2
          have fp : ∀ i, W2.frozen? ⟨p, i, none⟩ = false := fun i => by simp [World.frozen?, hP2]
          have fq : ∀ i, W2.frozen? ⟨q, i, none⟩ = false := fun i => by simp [World.frozen?, hQ2]
          have k3 : Below w.heap.size w ((((W2.setCell ⟨p, 0, none⟩ (.int .i64 x)).setCell ⟨p, 1, none⟩ (.int .i64 y)).setCell ⟨q, 0, none⟩ (.int .i64 fx)).setCell ⟨q, 1, none⟩ (.int .i64 fy)) := (((k2.setCell (p := ⟨p, 0, none⟩) hp9 _).setCell (p := ⟨p, 1, none⟩) hp9 _).setCell (p := ⟨q, 0, none⟩) hq9 _).setCell (p := ⟨q, 1, none⟩) hq9 _
          clear HAH kV b2 hP hQ
          go_wp2_with fail
          refine (HB _ (HLS.out _ k3) (HTB.out _ k3)).mono ?_
          rintro e3 W3 ⟨rfl, b3⟩
          have k4 := k3.trans (b3.mono k3.size)
          clear HB b3 p0 p1 q0 q1 n3 fp fq hP2 hQ2 k3
          by_cases hs : 4000 < M.size
          · rw [if_pos hs] at hE
            subst hE
            rw [if_neg (by decide)] at hT0
            subst hT0
            have is : (4000 : Int) < (M.size : Int) := Int.ofNat_lt.2 hs
            go_wp2_with fail
            go_ret2
            exact ⟨rfl, k4⟩
          · rw [if_neg hs] at hE
            subst hE
            rw [if_pos rfl] at hT0
            subst hT0
            have is : ¬ (4000 : Int) < (M.size : Int) := fun h => hs (Int.ofNat_lt.1 h)
            go_wp2_with fail
            go_ret2
            exact ⟨rfl, k4⟩
      · have kV : Below w.heap.size w ((W1.alloc (.cells #[.int .i64 x, .int .i64 y] 24)).alloc (.cells #[.int .i64 fx, .int .i64 fy] 24)).drew := (k1.trans ((HKB.out _ _).mono k1.size)).drew
        have h0 := k1.size
        have hB00 := heap_alloc_new (W1.alloc (.cells #[.int .i64 x, .int .i64 y] 24)) (.cells #[.int .i64 fx, .int .i64 fy] 24)
        rw [World.size_alloc] at hB00
        have hB0 : (((W1.alloc (.cells #[.int .i64 x, .int .i64 y] 24)).alloc (.cells #[.int .i64 fx, .int .i64 fy] 24)).drew).heap[W1.heap.size + 1]? = _ := hB00
        clear hB00
        have hA0 : (((W1.alloc (.cells #[.int .i64 x, .int .i64 y] 24)).alloc (.cells #[.int .i64 fx, .int .i64 fy] 24)).drew).heap[W1.heap.size]? = _ := (heap_alloc_old (W1.alloc (.cells #[.int .i64 x, .int .i64 y] 24)) (.cells #[.int .i64 fx, .int .i64 fy] 24) (r := W1.heap.size) (by rw [World.size_alloc]; omega)).trans (heap_alloc_new W1 (.cells #[.int .i64 x, .int .i64 y] 24))
        have hq9 : w.heap.size ≤ W1.heap.size := h0
        have hp9 : w.heap.size ≤ W1.heap.size + 1 := by omega
        have hpq : W1.heap.size ≠ W1.heap.size + 1 := by omega
        generalize ((W1.alloc (.cells #[.int .i64 x, .int .i64 y] 24)).alloc (.cells #[.int .i64 fx, .int .i64 fy] 24)).drew = V at *
        obtain ⟨q, hqe⟩ : ∃ z, W1.heap.size = z := ⟨_, rfl⟩
        obtain ⟨p, hpe⟩ : ∃ z, W1.heap.size + 1 = z := ⟨_, rfl⟩
        rw [hpe] at hB0 hpq hp9 ⊢
        rw [hqe] at hA0 hpq hq9 ⊢
        have hQ := hA0
        have hP := hB0
        have hpq2 := hpq.symm
        clear hpe hqe hA0 hB0 h0 k1
        clear HKB e0 e1 e2 e3 g0 g1 g2 g3 d0 d1 d2 d3 d4
        obtain ⟨p0, p1⟩ := cells2 hP
        obtain ⟨q0, q1⟩ := cells2 hQ
        have HAH := ahead_any x y fx fy
        cases hh : ahead x y fx fy
        · rw [hh] at HAH
          have hM : M = betM L fx fy x y := by rw [HM.out]; simp only [hh, Bool.false_eq_true, if_false, Int.toNat_natCast]
          obtain ⟨m1, m2⟩ := ahead_false hh
          have HB := fun W h t => between_any L (.slice a L.length c) fx fy x y W h t n3 n2 m1 (Int.ofNat_lt.1 n5) m2 n10
          rw [← hM] at HB
          clear hh hM HM
          go_wp2_with fail
          refine (HAH _).mono ?_
          rintro e2 W2 ⟨rfl, b2⟩
          have k2 := kV.trans (b2.mono kV.size)
          obtain ⟨p0, p1⟩ := cells2 (kept hP b2)
          obtain ⟨q0, q1⟩ := cells2 (kept hQ b2)
          clear hP hQ HAH kV b2
          go_wp2_with fail
          refine (HB _ (HLS.out _ k2) (HTB.out _ k2)).mono ?_
          rintro e3 W3 ⟨rfl, b3⟩
          have k3 := k2.trans (b3.mono k2.size)
          clear HB b3 p0 p1 q0 q1 n3
          by_cases hs : 4000 < M.size
          · rw [if_pos hs] at hE
            subst hE
            rw [if_neg (by decide)] at hT0
            subst hT0
            have is : (4000 : Int) < (M.size : Int) := Int.ofNat_lt.2 hs
            go_wp2_with fail
            go_ret2
            exact ⟨rfl, k3⟩
          · rw [if_neg hs] at hE
            subst hE
            rw [if_pos rfl] at hT0
            subst hT0
            have is : ¬ (4000 : Int) < (M.size : Int) := fun h => hs (Int.ofNat_lt.1 h)
            go_wp2_with fail
            go_ret2
            exact ⟨rfl, k3⟩
        · rw [hh] at HAH
          have hM : M = betM L x y fx fy := by rw [HM.out]; simp only [hh, if_true, Int.toNat_natCast]
          obtain ⟨m1, m2⟩ := ahead_true hh
          have HB := fun W h t => between_any L (.slice a L.length c) x y fx fy W h t n3 n2 m1 (Int.ofNat_lt.1 n9) m2 n6
          rw [← hM] at HB
          clear hh hM HM
          go_wp2_with fail
          refine (HAH _).mono ?_
          rintro e2 W2 ⟨rfl, b2⟩
          have k2 := kV.trans (b2.mono kV.size)
          have hP2 := kept hP b2
          have hQ2 := kept hQ b2
          obtain ⟨p0, p1⟩ := cells2 hP2
          obtain ⟨q0, q1⟩ := cells2 hQ2
          have fp : ∀ i, W2.frozen? ⟨p, i, none⟩ = false := fun i => by simp [World.frozen?, hP2]
          have fq : ∀ i, W2.frozen? ⟨q, i, none⟩ = false := fun i => by simp [World.frozen?, hQ2]
          have k3 : Below w.heap.size w ((((W2.setCell ⟨p, 0, none⟩ (.int .i64 x)).setCell ⟨p, 1, none⟩ (.int .i64 y)).setCell ⟨q, 0, none⟩ (.int .i64 fx)).setCell ⟨q, 1, none⟩ (.int .i64 fy)) := (((k2.setCell (p := ⟨p, 0, none⟩) hp9 _).setCell (p := ⟨p, 1, none⟩) hp9 _).setCell (p := ⟨q, 0, none⟩) hq9 _).setCell (p := ⟨q, 1, none⟩) hq9 _
          clear HAH kV b2 hP hQ
          go_wp2_with fail
          refine (HB _ (HLS.out _ k3) (HTB.out _ k3)).mono ?_
          rintro e3 W3 ⟨rfl, b3⟩
          have k4 := k3.trans (b3.mono k3.size)
          clear HB b3 p0 p1 q0 q1 n3 fp fq hP2 hQ2 k3
          by_cases hs : 4000 < M.size
          · rw [if_pos hs] at hE
            subst hE
            rw [if_neg (by decide)] at hT0
            subst hT0
            have is : (4000 : Int) < (M.size : Int) := Int.ofNat_lt.2 hs
            go_wp2_with fail
            go_ret2
            exact ⟨rfl, k4⟩
          · rw [if_neg hs] at hE
            subst hE
            rw [if_pos rfl] at hT0
            subst hT0
            have is : ¬ (4000 : Int) < (M.size : Int) := fun h => hs (Int.ofNat_lt.1 h)
            go_wp2_with fail
            go_ret2
            exact ⟨rfl, k4⟩
  · have jR : (R == 0) = false := by rw [beq_eq_false_iff_ne]; exact hR
    have jn : (R != 0) = true := by rw [bne, jR]; rfl
    rw [if_neg hR] at hE
    subst hE
    rw [if_neg hR] at hT0
    subst hT0
    go_enter Tryd.func13, Tryd.ntmps13
    go_wp2_with fail
    refine (HC _ kb).mono ?_
    rintro e1 W1 ⟨rfl, b1⟩
    have k1 := kb.trans (b1.mono kb.size)
    go_wp2_with fail
    go_ret2
    exact ⟨rfl, k1⟩
end Cpy
end Go.Proofs.YtlodmffiengnaaaDoor
