/- The reference's wentTo for a word: the walk. (Written by gen_cpywentw.py.) -/
import Derived.Test.YtlodmffiengnaaaDoorPartG
import Derived.Lib.SlicesS
import Derived.Test.YtlodmffiengnaaaDoorPartF
import Derived.Test.YtlodmffiengnaaaDoorPartE
namespace Go.Proofs.YtlodmffiengnaaaDoor
open Go.ChangeShapes Go.WideShapes Go.ChangeAt Go.RowKit Go.Maps Go.Sort
namespace Cpy
open Txt (Tab)
theorem step_cells {w : World} {base : Nat} {v : Value} {R : List (Bool × Int × Int)} (h : w.ownsRow base 64 3 v R.length (R.flatMap step3)) (h0 : 0 < R.length) :
    ∃ g c, v = .slice (some ⟨g, 0, none⟩) R.length c ∧ ∀ (i : Nat) (hi : i < R.length), w.cell? ⟨g, i * 3, none⟩ = some (.bool R[i].1) ∧ w.cell? ⟨g, i * 3 + 1, none⟩ = some (.int .i64 R[i].2.1) ∧ w.cell? ⟨g, i * 3 + 2, none⟩ = some (.int .i64 R[i].2.2) := by
  rcases h.2 with ⟨rfl, h1⟩ | ⟨g, cap, cur, rfl, hb, hh, hr⟩
  · omega
  · refine ⟨g, cap, rfl, fun i hi => ?_⟩
    obtain ⟨f1, f2, f3⟩ := flat_step R i hi
    exact ⟨(h.cellAt (i * 3) (by omega)).trans f1, (h.cellAt (i * 3 + 1) (by omega)).trans f2, (h.cellAt (i * 3 + 2) (by omega)).trans f3⟩
set_option maxHeartbeats 8000000 in
set_option maxRecDepth 100000 in
theorem went_word (L : List ByteArray) (v : Value) (x : Int) (y : Nat) (w : World) (h : LsAt w v L) (hy : y < L.length) (hn : L.length ≤ 110) (hL : ∀ s ∈ L, s.size ≤ 4000) :
    Calls Tryd.prog 11 #[v, .agg #[.int .i64 x, .int .i64 y], .string ⟨#[119, 111, 114, 100]⟩] w fun e w' => e = .returned (.tuple #[.agg #[.int .i64 (wordM L x y).1, .int .i64 (wordM L x y).2], .bool true]) ∧ Below w.heap.size w w' := by
  obtain ⟨R, hR⟩ : ∃ R, wordM L x y = R := ⟨_, rfl⟩
  rw [hR]
  have HR0 : Hid ((firstAt (stepsTo L y (max (atI (cols (ln L y)) x) 0).toNat (L.length - y)) 0).getD (lastM L) = R) := by
    show _ = _
    rw [← first_all L x y hy]
    exact hR
  clear hR
  have kb : Below w.heap.size w ((w.alloc (.cells #[.int .i64 x, .int .i64 y] 24)).alloc (.cells #[.int .i64 0, .int .i64 0] 24)) := ((Below.refl _ _).alloc (Nat.le_refl _) _).alloc (by rw [World.size_alloc]; omega) _
  have Z := heap_alloc_new (w.alloc (.cells #[.int .i64 x, .int .i64 y] 24)) (.cells #[.int .i64 0, .int .i64 0] 24)
  have Y := (heap_alloc_old (w.alloc (.cells #[.int .i64 x, .int .i64 y] 24)) (.cells #[.int .i64 0, .int .i64 0] 24) (r := w.heap.size) (by rw [World.size_alloc]; omega)).trans (heap_alloc_new w (.cells #[.int .i64 x, .int .i64 y] 24))
  rw [World.size_alloc] at Z
  have HLS : Hid (∀ V, Below w.heap.size w V → LsAt V v L) := fun V hV => h.below hV
  have HLL : Hid (∀ s ∈ L, s.size ≤ 4000) := hL
  obtain ⟨b, o, c, rfl, q⟩ := (h.below kb).get hy
  have hs := ln_size hL y
  have hsl := sp_len (ln L y)
  have HSP := fun V => Txt.spots_any (ln L y) V (by omega)
  rw [show Txt.spotsL (Txt.runes (ln L y)) 0 = sp (ln L y) from rfl] at HSP
  have HSA := fun base v V h => spotAt_any base v (sp (ln L y)) x V h (sp_lt _) (by omega)
  rw [show (sp (ln L y)).map (·.2) = cols (ln L y) from rfl] at HSA
  have iy : (y : Int) < (L.length : Int) := by omega
  have iy0 : (0 : Int) ≤ (y : Int) := by omega
  have a1 := atI_ge (cols (ln L y)) x
  have a2 := atI_lt (cols (ln L y)) x
  have hcl := cols_len (ln L y)
  have hS4 : (sp (ln L y)).length ≤ 4000 := Nat.le_trans hsl hs
  have hwl : wrap64 ((L.length : Int) - 1) = (L.length : Int) - 1 := w64_less (by omega)
  obtain ⟨y0, y1⟩ := cells2 Y
  have HCG : Hid (∀ (i : Nat) (hi : i < (sp (ln L y)).length), (cols (ln L y)).getD i 0 = (sp (ln L y))[i].2) := fun i hi => by
    unfold cols
    rw [List.getD_eq_getElem?_getD, List.getElem?_map, List.getElem?_eq_getElem hi]
    rfl
  generalize hsy : ln L y = s at *
  generalize atI (cols s) x = at9 at *
  have HSY : Hid (ln L y = s) := hsy
  clear hsl hs hsy
  go_enter Tryd.func11, Tryd.ntmps11
  go_wp2_with fail
  refine (HSP _).mono ?_
  rintro e W1 ⟨v1, rfl, hown, b1⟩
  obtain ⟨sa, sc, rfl, hsc⟩ := spot_cells hown
  have k1 := kb.trans (b1.mono kb.size)
  have z1 := kept Z b1
  have w1 := kept Y b1
  obtain ⟨y0, y1⟩ := cells2 w1
  clear HSP b1 Z Y kb q
  go_wp2_with fail
  refine (HSA _ _ _ hown).mono ?_
  rintro e W2 ⟨rfl, b2⟩
  have k2 := k1.trans (b2.mono k1.size)
  have z2 := kept z1 b2
  have w2 := kept w1 b2
  have HSC : Hid (sp s = [] ∨ ∃ g, sa = some ⟨g, 0, none⟩ ∧ ∀ (i : Nat) (hi : i < (sp s).length), W2.cell? ⟨g, i * 2 + 1, none⟩ = some (.int .i64 (sp s)[i].2)) := by
    rcases hsc with h | ⟨g, h1, h2⟩
    · exact .inl h
    · exact .inr ⟨g, h1, fun i hi => CK.below b2 _ _ _ (h2 i hi).2⟩
  have HW2 : Hid (W2.heap[w.heap.size]? = some (.cells #[.int .i64 x, .int .i64 y] 24 (0, 0))) := w2
  obtain ⟨y0, y1⟩ := cells2 w2
  obtain ⟨r0, r1⟩ := cells2 z2
  have fz : ∀ i, W2.frozen? ⟨w.heap.size + 1, i, none⟩ = false := fun i => by simp [World.frozen?, z2]
  clear HSA hown hsc b2 z1 w1 k1 w2
  obtain ⟨i0, hi, hzz⟩ := Option.map_eq_some_iff.1 info_step
  simp only [Prod.mk.injEq] at hzz
  obtain ⟨hz0, hz1, hz2⟩ := hzz
  obtain ⟨k0, hk0⟩ : ∃ k0 : Nat, (max at9 0).toNat = k0 := ⟨_, rfl⟩
  rw [hk0] at HR0
  have HK0 : Hid ((max at9 0).toNat = k0) := hk0
  have HI0 : Hid (WInv w x y (.slice none 0 0) (stepsTo L y k0 0) W2) := ⟨k2, HW2.out, z2, World.ownsRow_nil _ _ _ _⟩
  clear r0 r1 fz k2 z2 hk0 HSC HCG HW2 a1 a2 hcl hS4 HSY
  go_wp2_with fail
  clear y0 y1
  go_loopg [11, 12] (L.length - y) (fun g u11 u12 wr => ∃ n : Nat, u12 = .int .i64 ((y + n : Nat) : Int) ∧ y + n ≤ L.length ∧ L.length - (y + n) ≤ g ∧ WInv w x y u11 (stepsTo L y k0 n) wr)
  case atStart => exact ⟨0, rfl, by clear hwl; omega, by clear hwl; omega, HI0.out⟩
  case round =>
    obtain ⟨n, rfl, hn1, hg, hI⟩ := hrel
    have HI : Hid (WInv w x y u11 (stepsTo L y k0 n) wr) := hI
    obtain ⟨y0, y1⟩ := cells2 hI.P
    clear HI0
    by_cases hlt : y + n < L.length
    · have iy1 : ((y + n : Nat) : Int) ≤ (L.length : Int) - 1 := by clear hwl; omega
      have iyl : ((y + n : Nat) : Int) < (L.length : Int) := Int.ofNat_lt.2 hlt
      obtain ⟨b', o', c', hv, q9⟩ := (HLS.out _ hI.kb).get hlt
      injection hv with e1 e2 e3
      injection e1 with e1
      injection e1 with e1 e4
      subst e1 e4 e3
      have hs2 := ln_size HLL.out (y + n)
      have hsl2 := sp_len (ln L (y + n))
      have HSP2 := Txt.spots_any (ln L (y + n)) wr (by clear hwl; omega)
      rw [show Txt.spotsL (Txt.runes (ln L (y + n))) 0 = sp (ln L (y + n)) from rfl] at HSP2
      have HST : Hid (stepsTo L y k0 (n + 1) = stepsTo L y k0 n ++ stepsOf (y + n) (part k0 n (sp (ln L (y + n))) (sp (ln L (y + n))).length)) := by
        show _ = _
        rw [part_all]
        exact stepsTo_succ L y k0 n hlt
      have HLN : Hid ((stepsTo L y k0 n).length ≤ n * 4001) := stepsTo_len L y k0 HLL.out n (Nat.le_of_lt hlt)
      generalize sp (ln L (y + n)) = S at *
      have HS4 : Hid (S.length ≤ 4000) := Nat.le_trans hsl2 hs2
      have HNB : Hid (n ≤ 110) := by show n ≤ 110; clear hwl; omega
      generalize ln L (y + n) = s2 at *
      generalize hy9 : y + n = y9 at *
      have HY9 : Hid (y + n = y9) := hy9
      clear hs2 hsl2 hI hy9
      go_wp2_with fail
      refine HSP2.mono ?_
      rintro e W3 ⟨v3, rfl, hown, b3⟩
      obtain ⟨ta, tc, rfl, hsp⟩ := spot_b hown
      have HI3 : Hid (WInv w x y u11 (stepsTo L y k0 n) W3) := HI.out.below b3
      have HSP3 : Hid (SpB W3 ta S) := hsp
      clear HSP2 hown hsp b3 HI y0 y1 q9
      go_wp2_with fail
      go_loopg [11, 140] S.length (fun g u11 u140 wr => ∃ j : Nat, u140 = .int .i64 (j : Int) ∧ j ≤ S.length ∧ S.length - j ≤ g ∧ WInv w x y u11 (stepsTo L y k0 n ++ (part k0 n S j).map (stp y9)) wr ∧ SpB wr ta S)
      case atStart =>
        refine ⟨0, rfl, Nat.zero_le _, by clear hwl; omega, ?_, HSP3.out⟩
        have h0 : part k0 n S 0 = [] := by unfold part; split <;> simp
        rw [h0, List.map_nil, List.append_nil]
        exact HI3.out
      case round =>
        obtain ⟨j, rfl, hj1, hg2, hI2, hsb⟩ := hrel
        have HPL : Hid ((part k0 n S j).length ≤ S.length) := part_len k0 n S j
        have HLEN : Hid ((stepsTo L y k0 n ++ (part k0 n S j).map (stp y9)).length ≤ 500000) := by
          have h1 := HLN.out
          have h2 := HPL.out
          have h3 := HS4.out
          have h4 := HNB.out
          show _ ≤ _
          rw [List.length_append, List.length_map]
          clear hwl
          omega
        clear HI3 HSP3
        by_cases hj : j < S.length
        · have ij : (j : Int) < (S.length : Int) := Int.ofNat_lt.2 hj
          have hj4 : j < 4000 := Nat.lt_of_lt_of_le hj HS4.out
          obtain ⟨g1, rfl, q3, q4⟩ := hsb.cells hj
          have HPS : Hid (part k0 n S (j + 1) = part k0 n S j ++ (if 0 < n ∨ k0 ≤ j then [S[j]] else [])) := part_succ k0 n S j hj
          obtain ⟨rr, hrr⟩ : ∃ rr, S[j] = rr := ⟨_, rfl⟩
          rw [hrr] at q3 q4 HPS
          obtain ⟨r, cl⟩ := rr
          simp only [] at q3 q4
          have l2 := heap_alloc_new wr (.cells #[.int .i32 r, .int .i64 cl] 42)
          have kA : Below wr.heap.size wr (wr.alloc (.cells #[.int .i32 r, .int .i64 cl] 42)) := (Below.refl _ _).alloc (Nat.le_refl _) _
          have I3 := hI2.below kA
          have hsb3 := hsb.below kA
          clear hrr kA hI2 hsb
          go_upto_region 37 with fail
          generalize wr.alloc (.cells #[.int .i32 r, .int .i64 cl] 42) = W4 at *
          obtain ⟨y0, y1⟩ := cells2 I3.P
          obtain ⟨s0, s1⟩ := cells2 l2
          have HSZ : Hid (w.heap.size + 2 ≤ W4.heap.size) := I3.size
          have HOWN : Hid (W4.ownsRow (w.heap.size + 2) 64 3 u11 (stepsTo L y k0 n ++ (part k0 n S j).map (stp y9)).length ((stepsTo L y k0 n ++ (part k0 n S j).map (stp y9)).flatMap step3)) := I3.own
          have HI4 : Hid (WInv w x y u11 (stepsTo L y k0 n ++ (part k0 n S j).map (stp y9)) W4) := I3
          have HSB4 : Hid (SpB W4 (some ⟨g1, 0, none⟩) S) := hsb3
          clear I3 hsb3 l2 q3 q4
          by_cases hc : 0 < n ∨ k0 ≤ j
          · rw [if_pos hc] at HPS
            have HNX : Hid (stepsTo L y k0 n ++ (part k0 n S (j + 1)).map (stp y9) = (stepsTo L y k0 n ++ (part k0 n S j).map (stp y9)) ++ [(r == 32, cl, (y9 : Int))]) := by
              show _ = _
              rw [HPS, List.map_append, List.append_assoc]
              rfl
            by_cases hn0 : 0 < n
            · have jy : (y : Int) < (y9 : Int) := by
                have := HY9.out
                clear hwl
                omega
              have jyn : y < y9 := Int.ofNat_lt.1 jy
              go_wp2_with (first | (at_builtin; refine wpList_append_own _ rfl _ _ 62 rfl (w.heap.size + 2) 64 i0 (.agg #[.bool false, .int .i64 0, .int .i64 0]) 3 24 Tryd.underlying62 hi hz0 hz1 hz2 rfl (by decide) _ _ _ rfl (HOWN.out.alloc _) ⟨W4.heap.size, 0, none⟩ 1 1 [.bool (r == 32), .int .i64 cl, .int .i64 y9] rfl rfl (cell_three_new _ _ _ _ _) (by intro u hu; simp at hu; rcases hu with rfl | rfl | rfl <;> rfl) (by unfold maxLen; have := HLEN.out; omega) (by have := HLEN.out; omega) (by have := HSZ.out; simp; omega) ?_; intro v' w2 hown' hgrow hnil))
              have hI5 := HI4.out.step (s := (r == 32, cl, (y9 : Int))) hgrow hown'
              have hsb5 := HSB4.out.grown HI4.out hgrow
              rw [← HNX.out] at hI5
              have HI5 : Hid (WInv w x y v' (stepsTo L y k0 n ++ (part k0 n S (j + 1)).map (stp y9)) w2) := hI5
              have HSB5 : Hid (SpB w2 (some ⟨g1, 0, none⟩) S) := hsb5
              clear hwl hI5 hsb5
              go_roundg (S.length - (j + 1))
              case measure => omega
              case rel => exact ⟨j + 1, by go_num, by omega, Nat.le_refl _, HI5.out, HSB5.out⟩
            · have jy : ¬ (y : Int) < (y9 : Int) := by
                have := HY9.out
                clear hwl
                omega
              have jyn : ¬ y < y9 := fun h => jy (Int.ofNat_lt.2 h)
              have jk : at9 ≤ (j : Int) := by
                have := HK0.out
                clear hwl
                omega
              go_wp2_with (first | (at_builtin; refine wpList_append_own _ rfl _ _ 62 rfl (w.heap.size + 2) 64 i0 (.agg #[.bool false, .int .i64 0, .int .i64 0]) 3 24 Tryd.underlying62 hi hz0 hz1 hz2 rfl (by decide) _ _ _ rfl (HOWN.out.alloc _) ⟨W4.heap.size, 0, none⟩ 1 1 [.bool (r == 32), .int .i64 cl, .int .i64 y9] rfl rfl (cell_three_new _ _ _ _ _) (by intro u hu; simp at hu; rcases hu with rfl | rfl | rfl <;> rfl) (by unfold maxLen; have := HLEN.out; omega) (by have := HLEN.out; omega) (by have := HSZ.out; simp; omega) ?_; intro v' w2 hown' hgrow hnil))
              have hI5 := HI4.out.step (s := (r == 32, cl, (y9 : Int))) hgrow hown'
              have hsb5 := HSB4.out.grown HI4.out hgrow
              rw [← HNX.out] at hI5
              have HI5 : Hid (WInv w x y v' (stepsTo L y k0 n ++ (part k0 n S (j + 1)).map (stp y9)) w2) := hI5
              have HSB5 : Hid (SpB w2 (some ⟨g1, 0, none⟩) S) := hsb5
              clear hwl hI5 hsb5
              go_roundg (S.length - (j + 1))
              case measure => omega
              case rel => exact ⟨j + 1, by go_num, by omega, Nat.le_refl _, HI5.out, HSB5.out⟩
          · rw [if_neg hc] at HPS
            have jy : ¬ (y : Int) < (y9 : Int) := by
              have := HY9.out
              clear hwl
              omega
            have jyn : ¬ y < y9 := fun h => jy (Int.ofNat_lt.2 h)
            have jk : ¬ at9 ≤ (j : Int) := by
              have := HK0.out
              clear hwl
              omega
            clear hc
            go_wp2_with fail
            clear hwl
            go_roundg (S.length - (j + 1))
            case measure => omega
            case rel => exact ⟨j + 1, by go_num, by omega, Nat.le_refl _, by rw [HPS, List.append_nil]; exact HI4.out, HSB4.out⟩
        · obtain rfl : j = S.length := by clear hwl; omega
          have ij : ¬ (S.length : Int) < (S.length : Int) := Int.lt_irrefl _
          have HSZ : Hid (w.heap.size + 2 ≤ wr.heap.size) := hI2.size
          have HOWN : Hid (wr.ownsRow (w.heap.size + 2) 64 3 u11 (stepsTo L y k0 n ++ (part k0 n S S.length).map (stp y9)).length ((stepsTo L y k0 n ++ (part k0 n S S.length).map (stp y9)).flatMap step3)) := hI2.own
          have HI4 : Hid (WInv w x y u11 (stepsTo L y k0 n ++ (part k0 n S S.length).map (stp y9)) wr) := hI2
          clear hI2 hsb
          go_wp2_with (first | (at_builtin; refine wpList_append_own _ rfl _ _ 62 rfl (w.heap.size + 2) 64 i0 (.agg #[.bool false, .int .i64 0, .int .i64 0]) 3 24 Tryd.underlying62 hi hz0 hz1 hz2 rfl (by decide) _ _ _ rfl (HOWN.out.alloc _) ⟨wr.heap.size, 0, none⟩ 1 1 [.bool true, .int .i64 0, .int .i64 0] rfl rfl (cell_three_new _ _ _ _ _) (by intro u hu; simp at hu; rcases hu with rfl | rfl | rfl <;> rfl) (by unfold maxLen; have := HLEN.out; omega) (by have := HLEN.out; omega) (by have := HSZ.out; simp; omega) ?_; intro v' w2 hown' hgrow hnil))
          have hI5 := HI4.out.step (s := (true, 0, 0)) hgrow hown'
          have hnx : (stepsTo L y k0 n ++ (part k0 n S S.length).map (stp y9)) ++ [(true, 0, 0)] = stepsTo L y k0 (n + 1) := by
            rw [HST.out, List.append_assoc]
            rfl
          rw [hnx] at hI5
          have HI5 : Hid (WInv w x y v' (stepsTo L y k0 (n + 1)) w2) := hI5
          clear hwl hI5 hnx
          go_roundg (L.length - (y9 + 1))
          case measure => omega
          case rel =>
            refine ⟨n + 1, ?_, by have := HY9.out; omega, by have := HY9.out; omega, HI5.out⟩
            rw [show y + (n + 1) = y9 + 1 by have := HY9.out; omega]
            go_num
    · have iy1 : ¬ ((y + n : Nat) : Int) ≤ (L.length : Int) - 1 := by clear hwl; omega
      have hn9 : n = L.length - y := by clear hwl; omega
      have hr := HR0.out
      rw [← hn9] at hr
      have hlen := stepsTo_len L y k0 HLL.out n (by clear hwl; omega)
      have hpos : 0 < (stepsTo L y k0 n).length := by
        obtain ⟨m, rfl⟩ : ∃ m, n = m + 1 := ⟨n - 1, by clear hwl; omega⟩
        rw [stepsTo_succ L y k0 m (by clear hwl; omega), List.length_append]
        unfold stepsOf
        rw [List.length_append, List.length_singleton]
        clear hwl
        omega
      have hlen2 : (stepsTo L y k0 n).length ≤ 500000 := by clear hwl; omega
      generalize stepsTo L y k0 n = RS at *
      have HRR : Hid ((firstAt RS 0).getD (lastM L) = R) := hr
      have HI6 : Hid (WInv w x y u11 RS wr) := HI.out
      obtain ⟨g5, c5, hv5, _⟩ := step_cells hI.own hpos
      subst hv5
      clear hI HI y0 y1 HR0 hr hlen HK0
      go_wp2_with fail
      go_loopg [15] RS.length (fun g u15 wr => ∃ i : Nat, u15 = .int .i64 (i : Int) ∧ 1 ≤ i ∧ i ≤ RS.length ∧ RS.length - i < g ∧ firstAt RS (i - 1) = firstAt RS 0 ∧ WInv w x y (.slice (some ⟨g5, 0, none⟩) RS.length c5) RS wr)
      case atStart => exact ⟨1, rfl, Nat.le_refl _, hpos, by clear hwl; omega, rfl, HI6.out⟩
      case round =>
        obtain ⟨i, rfl, hi0, hi1, hg3, hf, hI⟩ := hrel
        obtain ⟨g6, c6, hv6, hcells⟩ := step_cells hI.own hpos
        injection hv6 with e1 e2 e3
        injection e1 with e1
        injection e1 with e1 e4
        subst e1 e3
        clear HI6
        obtain ⟨r0, r1⟩ := cells2 hI.Z
        have fz : ∀ i, wr.frozen? ⟨w.heap.size + 1, i, none⟩ = false := fun i => by simp [World.frozen?, hI.Z]
        by_cases hlt3 : i < RS.length
        · have ii : (i : Int) < (RS.length : Int) := Int.ofNat_lt.2 hlt3
          have iw : wrap64 ((i : Int) - 1) = ((i - 1 : Nat) : Int) := w64_last (by clear hwl; omega) hi0
          have iw2 : ((i - 1 : Nat) : Int) < (RS.length : Int) := by clear hwl iw; omega
          have hip : i - 1 + 1 = i := by clear hwl iw; omega
          have hstep := firstAt_step RS (i - 1) (by rw [hip]; exact hlt3)
          simp only [hip] at hstep
          rw [List.getD_eq_getElem?_getD, List.getElem?_eq_getElem (show i - 1 < RS.length by clear hwl iw; omega), Option.getD_some] at hstep
          obtain ⟨q1, _, _⟩ := hcells (i - 1) (by clear hwl iw; omega)
          obtain ⟨p1, p2, p3⟩ := hcells i hlt3
          rw [hf] at hstep
          obtain ⟨s1, hs1⟩ : ∃ s, RS[i - 1] = s := ⟨_, rfl⟩
          obtain ⟨s2, hs2⟩ : ∃ s, RS[i] = s := ⟨_, rfl⟩
          rw [hs1] at q1 hstep
          rw [hs2] at p1 p2 p3 hstep
          obtain ⟨b1, x1, z1⟩ := s1
          obtain ⟨b2, x2, z2⟩ := s2
          simp only [] at q1 p1 p2 p3 hstep
          have HFS : Hid (firstAt RS 0 = if b1 && !b2 then some (x2, z2) else firstAt RS i) := hstep
          have HII : Hid (WInv w x y (.slice (some ⟨g5, 0, none⟩) RS.length c5) RS wr) := hI
          have hi5 : i < 500000 := by clear hwl iw; omega
          clear hs1 hs2 hcells hf hstep hI
          cases hb1 : b1
          · subst hb1
            go_wp2_with fail
            clear hwl iw
            go_roundg (RS.length - i)
            case measure => omega
            case rel => exact ⟨i + 1, by go_num, by omega, by omega, by omega, by have := HFS.out; simpa using this.symm, HII.out⟩
          · subst hb1
            cases hb2 : b2
            · subst hb2
              have hr : (x2, z2) = R := by
                have h1 := HRR.out
                rw [HFS.out] at h1
                exact h1
              subst hr
              have z5 := HII.out.Z
              have k5 := HII.out.kb
              have kE := (k5.setCell (p := ⟨w.heap.size + 1, 0, none⟩) (show w.heap.size ≤ w.heap.size + 1 by clear hwl iw; omega) (.int .i64 x2)).setCell (p := ⟨w.heap.size + 1, 1, none⟩) (show w.heap.size ≤ w.heap.size + 1 by clear hwl iw; omega) (.int .i64 z2)
              go_wp2_with fail
              (try simp only [Exit.inBlock, Exit.then])
              refine bodyPost_ret (v := .tuple #[.agg #[.int .i64 x2, .int .i64 z2], .bool true]) ?_ rfl ⟨rfl, kE⟩
              refine results_row_tmp rfl _ _ (w.heap.size + 1) 24 _ (0, 0) _ rfl ?_ Tryd.underlying24 rfl (by kernel_rfl) _ rfl
              exact heap_setCell_same _ _ 1 _ _ _ (heap_setCell_same _ _ 0 _ _ _ z5)
            · subst hb2
              go_wp2_with fail
              clear hwl iw
              go_roundg (RS.length - i)
              case measure => omega
              case rel => exact ⟨i + 1, by go_num, by omega, by omega, by omega, by have := HFS.out; simpa using this.symm, HII.out⟩
        · have hie : i = RS.length := by clear hwl; omega
          have ii : ¬ (i : Int) < (RS.length : Int) := fun h => hlt3 (Int.ofNat_lt.1 h)
          have hr : lastM L = R := by
            have h1 := HRR.out
            rw [← hf, firstAt_end RS (i - 1) (by clear hwl; omega)] at h1
            exact h1
          have hr2 : (endI (cols (ln L (L.length - 1))), (L.length : Int) - 1) = R := hr
          have hl1 : L.length - 1 < L.length := by clear hwl; omega
          have z5 := hI.Z
          have k5 := hI.kb
          obtain ⟨b', o', c', hv, q9⟩ := (HLS.out _ hI.kb).get hl1
          injection hv with e1 e2 e3
          injection e1 with e1
          injection e1 with e1 e4
          subst e1 e4 e3
          have il1 : (L.length : Int) - 1 < (L.length : Int) := by clear hwl; omega
          have il0 : (0 : Int) ≤ (L.length : Int) - 1 := by clear hwl; omega
          have tl : ((L.length : Int) - 1).toNat = L.length - 1 := by clear hwl; omega
          have hs5 := ln_size HLL.out (L.length - 1)
          have HEO := fun V => endOf_any (ln L (L.length - 1)) V hs5
          generalize endI (cols (ln L (L.length - 1))) = em at *
          subst hr2
          clear hcells hI hr HRR
          go_wp2_with fail
          refine (HEO _).mono ?_
          rintro e V ⟨rfl, bv⟩
          have k6 := k5.trans (bv.mono k5.size)
          have z6 := kept z5 bv
          obtain ⟨r0, r1⟩ := cells2 z6
          have fz : ∀ i, V.frozen? ⟨w.heap.size + 1, i, none⟩ = false := fun i => by simp [World.frozen?, z6]
          have kE := (k6.setCell (p := ⟨w.heap.size + 1, 0, none⟩) (show w.heap.size ≤ w.heap.size + 1 by clear hwl; omega) (.int .i64 em)).setCell (p := ⟨w.heap.size + 1, 1, none⟩) (show w.heap.size ≤ w.heap.size + 1 by clear hwl; omega) (.int .i64 ((L.length : Int) - 1))
          go_wp2_with fail
          (try simp only [Exit.inBlock, Exit.then])
          refine bodyPost_ret (v := .tuple #[.agg #[.int .i64 em, .int .i64 ((L.length : Int) - 1)], .bool true]) ?_ rfl ⟨rfl, kE⟩
          refine results_row_tmp rfl _ _ (w.heap.size + 1) 24 _ (0, 0) _ rfl ?_ Tryd.underlying24 rfl (by kernel_rfl) _ rfl
          exact heap_setCell_same _ _ 1 _ _ _ (heap_setCell_same _ _ 0 _ _ _ z6)
end Cpy
end Go.Proofs.YtlodmffiengnaaaDoor

/- Package copying: Move, of any word. -/
namespace Go.Proofs.YtlodmffiengnaaaDoor
open Go.ChangeShapes Go.WideShapes Go.ChangeAt Go.RowKit Go.Maps
namespace Cpy
open Txt (Tab)
def nUp : ByteArray := ⟨#[117, 112]⟩
def nDown : ByteArray := ⟨#[100, 111, 119, 110]⟩
def nLeft : ByteArray := ⟨#[108, 101, 102, 116]⟩
def nRight : ByteArray := ⟨#[114, 105, 103, 104, 116]⟩
def nStart : ByteArray := ⟨#[115, 116, 97, 114, 116]⟩
def nEnd : ByteArray := ⟨#[101, 110, 100]⟩
def nTop : ByteArray := ⟨#[116, 111, 112]⟩
def nBottom : ByteArray := ⟨#[98, 111, 116, 116, 111, 109]⟩
def nWord : ByteArray := ⟨#[119, 111, 114, 100]⟩
/-- Where one goes. -/
def moveK (L : List ByteArray) (k : Cp) (s : ByteArray) : Cp :=
  if s = nUp then { k with y := max (k.y - 1) 0 } else if s = nDown then { k with y := min (k.y + 1) ((L.length : Int) - 1) } else if s = nLeft then leftK L k else if s = nRight then rightK L k
  else if s = nStart then { k with x := 0 } else if s = nEnd then endK L k else if s = nTop then { k with x := 0, y := 0 } else if s = nBottom then { k with x := 0, y := (L.length : Int) - 1 } else if s = nWord then wordK L k else k
def moveE (s : ByteArray) : Int :=
  if s = nUp then 0 else if s = nDown then 0 else if s = nLeft then 0 else if s = nRight then 0 else if s = nStart then 0 else if s = nEnd then 0 else if s = nTop then 0 else if s = nBottom then 0 else if s = nWord then 0 else 6
theorem str_ne {s b : ByteArray} {l : List UInt8} (hb : b.data.toList = l) (h : s ≠ b) : (s.toList == l) = false := by
  rw [← hb, ← Lib.toList_data]
  exact (Lib.bytes_beq_false_iff s b).2 h
set_option maxHeartbeats 8000000 in
set_option maxRecDepth 100000 in
theorem no_how (L : List ByteArray) (v : Value) (k : Cp) (s : ByteArray) (w : World) (g1 : s ≠ nUp) (g2 : s ≠ nDown) (g3 : s ≠ nLeft) (g4 : s ≠ nRight) (g5 : s ≠ nStart) (g6 : s ≠ nEnd) (g7 : s ≠ nTop) (g8 : s ≠ nBottom) (g9 : s ≠ nWord) : HowS 21 w L v s k 6 k := by
  intro W A B kA hA hB cA cB hls W2 C kb hC hbox
  have dA := CK.below kb _ _ _ cA
  have dB := CK.below kb _ _ _ cB
  have b2 := But.refl C W2
  have e1 := str_ne (b := nUp) (l := [117, 112]) rfl g1
  have e2 := str_ne (b := nDown) (l := [100, 111, 119, 110]) rfl g2
  have e3 := str_ne (b := nLeft) (l := [108, 101, 102, 116]) rfl g3
  have e4 := str_ne (b := nRight) (l := [114, 105, 103, 104, 116]) rfl g4
  have e5 := str_ne (b := nStart) (l := [115, 116, 97, 114, 116]) rfl g5
  have e6 := str_ne (b := nEnd) (l := [101, 110, 100]) rfl g6
  have e7 := str_ne (b := nTop) (l := [116, 111, 112]) rfl g7
  have e8 := str_ne (b := nBottom) (l := [98, 111, 116, 116, 111, 109]) rfl g8
  have e9 := str_ne (b := nWord) (l := [119, 111, 114, 100]) rfl g9
  clear g1 g2 g3 g4 g5 g6 g7 g8 g9 hls kA kb cA cB
  go_enter Tryd.func21, Tryd.ntmps21
  go_wp2_with fail
  go_ret
  exact ⟨rfl, hbox, b2⟩
theorem move_how (L : List ByteArray) (v : Value) (k : Cp) (s : ByteArray) (w : World) (hT : Tab w) (hk : chk L k = 0) : HowS 21 w L v s k (moveE s) (moveK L k s) := by
  unfold moveE moveK
  by_cases g1 : s = nUp
  · subst g1; simp only [if_true]; exact up_how L v k w hT hk
  by_cases g2 : s = nDown
  · subst g2; simp only [if_neg g1, if_true]; exact down_how L v k w hT hk
  by_cases g3 : s = nLeft
  · subst g3; simp only [if_neg g1, if_neg g2, if_true]; exact left_how L v k w hT hk
  by_cases g4 : s = nRight
  · subst g4; simp only [if_neg g1, if_neg g2, if_neg g3, if_true]; exact right_how L v k w hT hk
  by_cases g5 : s = nStart
  · subst g5; simp only [if_neg g1, if_neg g2, if_neg g3, if_neg g4, if_true]; exact start_how L v k w hT hk
  by_cases g6 : s = nEnd
  · subst g6; simp only [if_neg g1, if_neg g2, if_neg g3, if_neg g4, if_neg g5, if_true]; exact end_how L v k w hT hk
  by_cases g7 : s = nTop
  · subst g7; simp only [if_neg g1, if_neg g2, if_neg g3, if_neg g4, if_neg g5, if_neg g6, if_true]; exact top_how L v k w hT hk
  by_cases g8 : s = nBottom
  · subst g8; simp only [if_neg g1, if_neg g2, if_neg g3, if_neg g4, if_neg g5, if_neg g6, if_neg g7, if_true]; exact bottom_how L v k w hT hk
  by_cases g9 : s = nWord
  · subst g9; simp only [if_neg g1, if_neg g2, if_neg g3, if_neg g4, if_neg g5, if_neg g6, if_neg g7, if_neg g8, if_true]; exact word_how L v k w hT hk
  simp only [if_neg g1, if_neg g2, if_neg g3, if_neg g4, if_neg g5, if_neg g6, if_neg g7, if_neg g8, if_neg g9]
  exact no_how L v k s w g1 g2 g3 g4 g5 g6 g7 g8 g9
/-- Move, of any lines, any place and any word. -/
theorem moves_any (L : List ByteArray) (v : Value) (k : Cp) (s : ByteArray) (w : World) (h : LsAt w v L) (hT : Tab w) :
    Calls Tryd.prog 6 #[v, .agg k.cells, .string s] w fun er w' => er = .returned (.tuple #[.agg (chgK (chk L k) (moveE s) (moveK L k s)).cells, .int .i64 (chgE (chk L k) (moveE s))]) ∧ Below w.heap.size w w' :=
  move_any L v k (moveK L k s) s (moveE s) w h (fun hc => move_how L v k s w hT hc)
end Cpy
end Go.Proofs.YtlodmffiengnaaaDoor

/- The reference's wentTo, of any word. -/
namespace Go.Proofs.YtlodmffiengnaaaDoor
open Go.ChangeShapes Go.WideShapes Go.ChangeAt Go.RowKit Go.Maps Go.Sort
namespace Cpy
open Txt (Tab)
set_option maxHeartbeats 8000000 in
set_option maxRecDepth 100000 in
theorem went_none (L : List ByteArray) (v : Value) (x : Int) (y : Nat) (s : ByteArray) (w : World) (h : LsAt w v L) (hy : y < L.length) (hn : L.length ≤ 110) (hL : ∀ s ∈ L, s.size ≤ 4000) (g1 : s ≠ nUp) (g2 : s ≠ nDown) (g3 : s ≠ nLeft) (g4 : s ≠ nRight) (g5 : s ≠ nStart) (g6 : s ≠ nEnd) (g7 : s ≠ nTop) (g8 : s ≠ nBottom) (g9 : s ≠ nWord) :
    Calls Tryd.prog 11 #[v, .agg #[.int .i64 x, .int .i64 y], .string s] w fun e w' => e = .returned (.tuple #[.agg #[.int .i64 x, .int .i64 y], .bool false]) ∧ Below w.heap.size w w' := by
  have kb : Below w.heap.size w ((w.alloc (.cells #[.int .i64 x, .int .i64 y] 24)).alloc (.cells #[.int .i64 0, .int .i64 0] 24)) := ((Below.refl _ _).alloc (Nat.le_refl _) _).alloc (by rw [World.size_alloc]; omega) _
  have Z := heap_alloc_new (w.alloc (.cells #[.int .i64 x, .int .i64 y] 24)) (.cells #[.int .i64 0, .int .i64 0] 24)
  have Y := (heap_alloc_old (w.alloc (.cells #[.int .i64 x, .int .i64 y] 24)) (.cells #[.int .i64 0, .int .i64 0] 24) (r := w.heap.size) (by rw [World.size_alloc]; omega)).trans (heap_alloc_new w (.cells #[.int .i64 x, .int .i64 y] 24))
  rw [World.size_alloc] at Z
  have HLS : Hid (∀ V, Below w.heap.size w V → LsAt V v L) := fun V hV => h.below hV
  have HLL : Hid (∀ s ∈ L, s.size ≤ 4000) := hL
  obtain ⟨b, o, c, rfl, q⟩ := (h.below kb).get hy
  have hs := ln_size hL y
  have hsl := sp_len (ln L y)
  have HSP := fun V => Txt.spots_any (ln L y) V (by omega)
  rw [show Txt.spotsL (Txt.runes (ln L y)) 0 = sp (ln L y) from rfl] at HSP
  have HSA := fun base v V h => spotAt_any base v (sp (ln L y)) x V h (sp_lt _) (by omega)
  rw [show (sp (ln L y)).map (·.2) = cols (ln L y) from rfl] at HSA
  have iy : (y : Int) < (L.length : Int) := by omega
  have iy0 : (0 : Int) ≤ (y : Int) := by omega
  have a1 := atI_ge (cols (ln L y)) x
  have a2 := atI_lt (cols (ln L y)) x
  have hcl := cols_len (ln L y)
  have hS4 : (sp (ln L y)).length ≤ 4000 := Nat.le_trans hsl hs
  have hwl : wrap64 ((L.length : Int) - 1) = (L.length : Int) - 1 := w64_less (by omega)
  obtain ⟨y0, y1⟩ := cells2 Y
  have HCG : Hid (∀ (i : Nat) (hi : i < (sp (ln L y)).length), (cols (ln L y)).getD i 0 = (sp (ln L y))[i].2) := fun i hi => by
    unfold cols
    rw [List.getD_eq_getElem?_getD, List.getElem?_map, List.getElem?_eq_getElem hi]
    rfl
  generalize hsy : ln L y = s0 at *
  generalize atI (cols s0) x = at9 at *
  have HSY : Hid (ln L y = s0) := hsy
  clear hsl hs hsy
  go_enter Tryd.func11, Tryd.ntmps11
  go_wp2_with fail
  refine (HSP _).mono ?_
  rintro e W1 ⟨v1, rfl, hown, b1⟩
  obtain ⟨sa, sc, rfl, hsc⟩ := spot_cells hown
  have k1 := kb.trans (b1.mono kb.size)
  have z1 := kept Z b1
  have w1 := kept Y b1
  obtain ⟨y0, y1⟩ := cells2 w1
  clear HSP b1 Z Y kb q
  go_wp2_with fail
  refine (HSA _ _ _ hown).mono ?_
  rintro e W2 ⟨rfl, b2⟩
  have k2 := k1.trans (b2.mono k1.size)
  have z2 := kept z1 b2
  have w2 := kept w1 b2
  have HSC : Hid (sp s0 = [] ∨ ∃ g, sa = some ⟨g, 0, none⟩ ∧ ∀ (i : Nat) (hi : i < (sp s0).length), W2.cell? ⟨g, i * 2 + 1, none⟩ = some (.int .i64 (sp s0)[i].2)) := by
    rcases hsc with h | ⟨g, h1, h2⟩
    · exact .inl h
    · exact .inr ⟨g, h1, fun i hi => CK.below b2 _ _ _ (h2 i hi).2⟩
  have HW2 : Hid (W2.heap[w.heap.size]? = some (.cells #[.int .i64 x, .int .i64 y] 24 (0, 0))) := w2
  obtain ⟨y0, y1⟩ := cells2 w2
  obtain ⟨r0, r1⟩ := cells2 z2
  have fz : ∀ i, W2.frozen? ⟨w.heap.size + 1, i, none⟩ = false := fun i => by simp [World.frozen?, z2]
  clear HSA hown hsc b2 z1 w1 k1 w2
  have e1 := str_ne (b := nUp) (l := [117, 112]) rfl g1
  have e2 := str_ne (b := nDown) (l := [100, 111, 119, 110]) rfl g2
  have e3 := str_ne (b := nLeft) (l := [108, 101, 102, 116]) rfl g3
  have e4 := str_ne (b := nRight) (l := [114, 105, 103, 104, 116]) rfl g4
  have e5 := str_ne (b := nStart) (l := [115, 116, 97, 114, 116]) rfl g5
  have e6 := str_ne (b := nEnd) (l := [101, 110, 100]) rfl g6
  have e7 := str_ne (b := nTop) (l := [116, 111, 112]) rfl g7
  have e8 := str_ne (b := nBottom) (l := [98, 111, 116, 116, 111, 109]) rfl g8
  have e9 := str_ne (b := nWord) (l := [119, 111, 114, 100]) rfl g9
  clear g1 g2 g3 g4 g5 g6 g7 g8 g9
  have zD : (W2).drew.heap[w.heap.size + 1]? = _ := z2
  have kE := ((k2).setCell (p := ⟨w.heap.size + 1, 0, none⟩) (show w.heap.size ≤ w.heap.size + 1 by omega) (.int .i64 (x))).setCell (p := ⟨w.heap.size + 1, 1, none⟩) (show w.heap.size ≤ w.heap.size + 1 by omega) (.int .i64 ((y : Int)))
  have kF := ((Below.drew (k2)).setCell (p := ⟨w.heap.size + 1, 0, none⟩) (show w.heap.size ≤ w.heap.size + 1 by omega) (.int .i64 (x))).setCell (p := ⟨w.heap.size + 1, 1, none⟩) (show w.heap.size ≤ w.heap.size + 1 by omega) (.int .i64 ((y : Int)))
  go_wp2_with fail
  (try simp only [Exit.inBlock, Exit.then])
  refine bodyPost_ret (v := .tuple #[.agg #[.int .i64 (x), .int .i64 ((y : Int))], .bool false]) ?_ rfl ⟨rfl, by first | exact kE | exact kF | exact Below.drew kE⟩
  refine results_row_tmp rfl _ _ (w.heap.size + 1) 24 _ (0, 0) _ rfl ?_ Tryd.underlying24 rfl (by kernel_rfl) _ rfl
  first | exact heap_setCell_same _ _ 1 _ _ _ (heap_setCell_same _ _ 0 _ _ _ z2) | exact heap_setCell_same _ _ 1 _ _ _ (heap_setCell_same _ _ 0 _ _ _ zD)
theorem went_any (L : List ByteArray) (v : Value) (k : Cp) (s : ByteArray) (w : World) (h : LsAt w v L) (hk : chk L k = 0) :
    Calls Tryd.prog 11 #[v, .agg #[.int .i64 k.x, .int .i64 k.y], .string s] w fun e w' => e = .returned (.tuple #[.agg #[.int .i64 (moveK L k s).x, .int .i64 (moveK L k s).y], .bool (moveE s == 0)]) ∧ Below w.heap.size w w' := by
  obtain ⟨h1, h2, h3, ⟨h4, h5, _, _⟩, _⟩ := chk_zero hk
  obtain ⟨x, y, fx, fy, on⟩ := k
  simp only [] at h4 h5 ⊢
  obtain ⟨y, rfl⟩ := Int.eq_ofNat_of_zero_le h4
  have hy : y < L.length := Int.ofNat_lt.1 h5
  unfold moveE moveK
  by_cases g1 : s = nUp
  · subst g1; simp only [if_true]; exact went_up L v x y w h hy h2 h3
  by_cases g2 : s = nDown
  · subst g2; simp only [if_neg g1, if_true]; exact went_down L v x y w h hy h2 h3
  by_cases g3 : s = nLeft
  · subst g3; simp only [if_neg g1, if_neg g2, if_true]; exact went_left L v x y w h hy h2 h3
  by_cases g4 : s = nRight
  · subst g4; simp only [if_neg g1, if_neg g2, if_neg g3, if_true]; exact went_right L v x y w h hy h2 h3
  by_cases g5 : s = nStart
  · subst g5; simp only [if_neg g1, if_neg g2, if_neg g3, if_neg g4, if_true]; exact went_start L v x y w h hy h2 h3
  by_cases g6 : s = nEnd
  · subst g6; simp only [if_neg g1, if_neg g2, if_neg g3, if_neg g4, if_neg g5, if_true]; exact went_end L v x y w h hy h2 h3
  by_cases g7 : s = nTop
  · subst g7; simp only [if_neg g1, if_neg g2, if_neg g3, if_neg g4, if_neg g5, if_neg g6, if_true]; exact went_top L v x y w h hy h2 h3
  by_cases g8 : s = nBottom
  · subst g8; simp only [if_neg g1, if_neg g2, if_neg g3, if_neg g4, if_neg g5, if_neg g6, if_neg g7, if_true]; exact went_bottom L v x y w h hy h2 h3
  by_cases g9 : s = nWord
  · subst g9; simp only [if_neg g1, if_neg g2, if_neg g3, if_neg g4, if_neg g5, if_neg g6, if_neg g7, if_neg g8, if_true]; exact went_word L v x y w h hy h2 h3
  simp only [if_neg g1, if_neg g2, if_neg g3, if_neg g4, if_neg g5, if_neg g6, if_neg g7, if_neg g8, if_neg g9]
  exact went_none L v x y s w h hy h2 h3 g1 g2 g3 g4 g5 g6 g7 g8 g9
/-- What a move leaves alone. -/
theorem moveK_rest (L : List ByteArray) (k : Cp) (s : ByteArray) : (moveK L k s).fx = k.fx ∧ (moveK L k s).fy = k.fy ∧ (moveK L k s).on = k.on := by
  unfold moveK leftK rightK endK wordK
  repeat' split
  all_goals exact ⟨rfl, rfl, rfl⟩
theorem moveE_cases (s : ByteArray) : moveE s = 0 ∨ moveE s = 6 := by
  unfold moveE
  repeat' split
  all_goals simp
end Cpy
end Go.Proofs.YtlodmffiengnaaaDoor

/- Package copying: Begin. -/
namespace Go.Proofs.YtlodmffiengnaaaDoor
open Go.ChangeShapes Go.WideShapes Go.ChangeAt Go.RowKit Go.Maps
namespace Cpy
theorem enters_begin : ∀ args w, (callFunc 27 args).run Tryd.prog w = .ok (.enter 27 args) w := enters_of Tryd.func27 (by kernel_rfl) rfl
def beginK (L : List ByteArray) (k : Cp) : Cp := { k with x := 0, y := (L.length : Int) - 1 }
set_option maxHeartbeats 4000000 in
set_option maxRecDepth 100000 in
theorem begin_how (A : Nat) (L : List ByteArray) (v : Value) (k : Cp) (w : World) (hA : w.cell? ⟨A, 0, none⟩ = some v) (hls : LsAt w v L) (hn : L.length ≤ 1000000) : How 27 #[.pointer (some ⟨A, 0, none⟩)] w k 0 (beginK L k) := by
  intro W C kb hC hbox
  have dA := CK.below kb _ _ _ hA
  have HB := bottom_any L v W (hls.below kb) hn
  obtain ⟨⟨c0, c1, c2, c3, c4⟩, hf⟩ := hbox.cells
  clear hls hA kb
  go_enter Tryd.func27, Tryd.ntmps27
  go_wp2_with fail
  refine HB.mono ?_
  rintro e V ⟨rfl, bv⟩
  have hbv := hbox.below bv
  obtain ⟨⟨e0, e1, e2, e3, e4⟩, hf2⟩ := hbv.cells
  have g0 := hf2 0
  have g1 := hf2 1
  have y2 := (hbv.setX 0).setY ((L.length : Int) - 1)
  have b2 := ((But.of_below (M := C) bv).setCell (i := 0) (.int .i64 0)).setCell (i := 1) (.int .i64 ((L.length : Int) - 1))
  go_wp2_with fail
  go_ret
  exact ⟨rfl, y2, b2⟩
set_option maxHeartbeats 4000000 in
set_option maxRecDepth 100000 in
/-- Begin, of any lines. -/
theorem begin_any (L : List ByteArray) (v : Value) (w : World) (h : LsAt w v L) :
    Calls Tryd.prog 7 #[v] w fun er w' => er = .returned (.tuple #[.agg (chgK (chk L zCp) 0 (beginK L zCp)).cells, .int .i64 (chgE (chk L zCp) 0)]) ∧ Below w.heap.size w w' := by
  obtain ⟨a, c, rfl, hl⟩ := h
  have h : LsAt w (.slice a L.length c) L := ⟨a, c, rfl, hl⟩
  have kb : Below w.heap.size w ((w.alloc (.cells #[.slice a L.length c] 22)).alloc (.cells zCp.cells 26)) := ((Below.refl _ _).alloc (Nat.le_refl _) _).alloc (by simp only [World.size_alloc]; omega) _
  have Z := heap_alloc_new (w.alloc (.cells #[.slice a L.length c] 22)) (.cells zCp.cells 26)
  have V := (heap_alloc_old (w.alloc (.cells #[.slice a L.length c] 22)) (.cells zCp.cells 26) (r := w.heap.size) (by simp only [World.size_alloc]; omega)).trans (heap_alloc_new w (.cells #[.slice a L.length c] 22))
  simp only [World.size_alloc] at Z
  have cV := one_box V
  have HC := change_any L _ zCp (beginK L zCp) 0 27 #[.pointer (some ⟨w.heap.size, 0, none⟩)] _ (h.below kb) enters_begin (fun hc => begin_how w.heap.size L _ zCp _ cV (h.below kb) (Nat.le_trans (chk_zero hc).2.1 (by decide)))
  generalize hk' : chgK (chk L zCp) 0 (beginK L zCp) = rk at *
  generalize chgE (chk L zCp) 0 = re at *
  clear hk' h hl V
  simp only [zero_cells] at HC Z kb cV
  obtain ⟨rx, ry, rfx, rfy, ron⟩ := rk
  simp only [Cp.cells] at Z kb HC cV ⊢
  go_enter Tryd.func7, Tryd.ntmps7
  go_wp2_with fail
  refine HC.mono ?_
  rintro e1 W1 ⟨rfl, b1⟩
  have k1 := kb.trans (b1.mono kb.size)
  have z1 := kept Z b1
  clear HC kb Z b1 cV
  go_wp2_with (refine wpList_store_row rfl 26 (.tmp 2) (.tmp 8) rfl (w.heap.size + 1) #[.int .i64 rx, .int .i64 ry, .int .i64 rfx, .int .i64 rfy, .bool ron] rfl rfl _ _ z1 (by kernel_rfl) rfl (oneCp ⟨_, _, _, _, _⟩) ?_)
  (try simp only [Exit.inBlock, Exit.then])
  refine bodyPost_ret (v := .tuple #[.agg #[.int .i64 rx, .int .i64 ry, .int .i64 rfx, .int .i64 rfy, .bool ron], .int .i64 re]) ?_ rfl ⟨rfl, below_setRow k1 (by omega) _⟩
  exact results_row_tmp rfl _ _ (w.heap.size + 1) _ _ _ _ rfl (setRow_heap _ _ _ _ _ _ z1) Tryd.underlying26 rfl (by kernel_rfl) _ rfl
end Cpy
end Go.Proofs.YtlodmffiengnaaaDoor

/- The reference's words for Check. -/
namespace Go.Proofs.YtlodmffiengnaaaDoor
open Go.ChangeShapes Go.WideShapes Go.ChangeAt Go.RowKit Go.Maps
namespace Cpy
theorem any_drop (L : List ByteArray) (i : Nat) (h : i < L.length) : (L.drop i).any long = (long L[i] || (L.drop (i + 1)).any long) := by
  rw [List.drop_eq_getElem_cons h, List.any_cons]
theorem okM_false {n : Nat} {x y : Int} (h : okM n x y = false) : y < 0 ∨ (n : Int) ≤ y ∨ x < 0 ∨ 120 < x := by
  unfold okM at h
  simp only [Bool.and_eq_false_iff, decide_eq_false_iff_not] at h
  omega
theorem okM_true {n : Nat} {x y : Int} (h : okM n x y = true) : 0 ≤ y ∧ y < (n : Int) ∧ 0 ≤ x ∧ x ≤ 120 := by
  unfold okM at h
  simp only [Bool.and_eq_true, decide_eq_true_eq] at h
  omega
set_option maxHeartbeats 8000000 in
set_option maxRecDepth 100000 in
theorem bad_any (L : List ByteArray) (v : Value) (k : Cp) (w : World) (hs : LsAt w v L) :
    Calls Tryd.prog 8 #[v, .agg k.cells] w fun e w' => e = .returned (.int .i64 (chk L k)) ∧ Below w.heap.size w w' := by
  have kb : Below w.heap.size w (w.alloc (.cells k.cells 26)) := (Below.refl _ _).alloc (Nat.le_refl _) _
  have Y : BoxAt (w.alloc (.cells k.cells 26)) w.heap.size k := heap_alloc_new w (.cells k.cells 26)
  obtain ⟨a, c, rfl, hcell⟩ := hs
  have HCC : Hid (L = [] ∨ ∃ b o, a = some ⟨b, o, none⟩ ∧ ∀ j x, L[j]? = some x → w.cell? ⟨b, o + j, none⟩ = some (.string x)) := hcell
  obtain ⟨R, hR⟩ : ∃ R, chk L k = R := ⟨_, rfl⟩
  rw [hR]
  unfold chk okL at hR
  obtain ⟨⟨c0, c1, c2, c3, c4⟩, _⟩ := Y.cells
  obtain ⟨x, y, fx, fy, on⟩ := k
  simp only [Cp.cells] at kb Y c0 c1 c2 c3 c4 hR ⊢
  clear hcell
  by_cases h1 : 1 ≤ L.length
  · by_cases h2 : L.length ≤ 110
    · have i1 : ¬ (L.length : Int) < 1 := by omega
      have i2 : ¬ (110 : Int) < (L.length : Int) := by omega
      rw [decide_eq_true h1, decide_eq_true h2] at hR
      simp only [Bool.true_and] at hR
      have HR : Hid ((if (!L.any long) = true then (if (okM L.length x y && okM L.length fx fy) = true then (0 : Int) else 4) else 2) = R) := hR
      have HY : Hid (BoxAt (w.alloc (.cells #[.int .i64 x, .int .i64 y, .int .i64 fx, .int .i64 fy, .bool on] 26)) w.heap.size ⟨x, y, fx, fy, on⟩) := Y
      have HKB : Hid (Below w.heap.size w (w.alloc (.cells #[.int .i64 x, .int .i64 y, .int .i64 fx, .int .i64 fy, .bool on] 26))) := kb
      clear hR Y
      go_enter Tryd.func8, Tryd.ntmps8
      go_wp2_with fail
      go_loopg [19] L.length (fun g u wr => ∃ i : Nat, u = .int .i64 (i : Int) ∧ i ≤ L.length ∧ L.length - i ≤ g ∧ (L.drop i).any long = L.any long ∧ Below w.heap.size w wr ∧ BoxAt wr w.heap.size ⟨x, y, fx, fy, on⟩)
      case atStart => exact ⟨0, rfl, Nat.zero_le _, Nat.le_refl _, rfl, HKB.out, HY.out⟩
      case round =>
        obtain ⟨i, rfl, hi, hg, hany, kb, hbox⟩ := hrel
        clear HY HKB c0 c1 c2 c3 c4
        by_cases hil : i < L.length
        · have iin : (i : Int) < (L.length : Int) := by omega
          obtain ⟨b, o, rfl, hc⟩ := HCC.out.resolve_left (by intro h; rw [h] at hil; simp at hil)
          have q := (CK.below kb) _ _ _ (hc i L[i] (List.getElem?_eq_getElem hil))
          rw [any_drop L i hil] at hany
          generalize L[i] = s at *
          by_cases hl : 4000 < s.size
          · have hl1 : long s = true := decide_eq_true hl
            rw [hl1] at hany
            have hr := HR.out
            rw [← hany] at hr
            simp only [Bool.true_or, Bool.not_true, Bool.false_eq_true, if_false] at hr
            subst hr
            have is : (4000 : Int) < (s.size : Int) := by omega
            go_wp2_with fail
            go_ret
            exact ⟨rfl, kb⟩
          · have hl1 : long s = false := decide_eq_false hl
            rw [hl1, Bool.false_or] at hany
            have HA : Hid ((L.drop (i + 1)).any long = L.any long) := hany
            have is : ¬ (4000 : Int) < (s.size : Int) := by omega
            clear hany hl1
            go_wp2_with fail
            go_roundg (L.length - (i + 1))
            case measure => omega
            case rel => exact ⟨i + 1, by go_num, by omega, Nat.le_refl _, HA.out, kb, hbox⟩
        · have iex : ¬ (i : Int) < (L.length : Int) := by omega
          have hno : L.any long = false := by rw [← hany, List.drop_of_length_le (by omega)]; rfl
          have hr := HR.out
          rw [hno] at hr
          simp only [Bool.not_false, if_true] at hr
          have HR2 : Hid ((if (okM L.length x y && okM L.length fx fy) = true then (0 : Int) else 4) = R) := hr
          obtain ⟨⟨c0, c1, c2, c3, c4⟩, _⟩ := hbox.cells
          simp only [] at c0 c1 c2 c3 c4
          have kM : Below wr.heap.size wr (wr.alloc (.cells #[.int .i64 x, .int .i64 y, .int .i64 fx, .int .i64 fy] 24)) := (Below.refl _ _).alloc (Nat.le_refl _) _
          have k2 := kb.trans (kM.mono kb.size)
          have HM := heap_alloc_new wr (.cells #[.int .i64 x, .int .i64 y, .int .i64 fx, .int .i64 fy] 24)
          have HM2 : Hid ((wr.alloc (.cells #[.int .i64 x, .int .i64 y, .int .i64 fx, .int .i64 fy] 24)).heap[wr.heap.size]? = some (.cells #[.int .i64 x, .int .i64 y, .int .i64 fx, .int .i64 fy] 24 (0, 0))) := HM
          clear hany hr HR HM kM
          go_wp2_with fail
          generalize wr.alloc (.cells #[.int .i64 x, .int .i64 y, .int .i64 fx, .int .i64 fy] 24) = W2 at *
          generalize wr.heap.size = P at *
          go_loopg [33] 2 (fun g u wr => ∃ j : Nat, u = .int .i64 (j : Int) ∧ j ≤ 2 ∧ 2 - j ≤ g ∧ (1 ≤ j → okM L.length x y = true) ∧ (2 ≤ j → okM L.length fx fy = true) ∧ Below w.heap.size w wr ∧ wr.heap[P]? = some (.cells #[.int .i64 x, .int .i64 y, .int .i64 fx, .int .i64 fy] 24 (0, 0)))
          case atStart => exact ⟨0, rfl, by omega, by omega, by omega, by omega, k2, HM2.out⟩
          case round =>
            obtain ⟨j, rfl, hj, hg2, ho1, ho2, kz, hM⟩ := hrel
            have m0 : ∀ i : Nat, wr.cell? ⟨P, i, none⟩ = (#[Value.int .i64 x, .int .i64 y, .int .i64 fx, .int .i64 fy] : Array Value)[i]? := fun i => by unfold World.cell?; rw [hM]; rfl
            have m1 := m0 0
            have m2 := m0 1
            have m3 := m0 2
            have m4 := m0 3
            simp only [List.getElem?_toArray, List.getElem?_cons_zero, List.getElem?_cons_succ] at m1 m2 m3 m4
            clear m0
            have kQ : ∀ p q, Below wr.heap.size wr (wr.alloc (.cells #[.int .i64 p, .int .i64 q] 24)) := fun p q => (Below.refl _ _).alloc (Nat.le_refl _) _
            by_cases hj2 : j < 2
            · have jj : (j : Int) < 2 := by omega
              by_cases hj0 : j = 0
              · subst hj0
                have kq := kz.trans ((kQ x y).mono kz.size)
                have hM3 := kept hM (kQ x y)
                obtain ⟨p0, p1⟩ := cells2 (heap_alloc_new wr (.cells #[.int .i64 x, .int .i64 y] 24))
                cases ho : okM L.length x y
                · have e0 : R = 4 := by
                    have := HR2.out
                    rw [ho] at this
                    simpa using this.symm
                  subst e0
                  rcases okM_false ho with h | h | h | h
                  all_goals
                    clear ho
                    go_wp2_with fail
                    all_goals
                      go_ret
                      exact ⟨rfl, kq⟩
                · obtain ⟨g1, g2, g3, g4⟩ := okM_true ho
                  have n1 : ¬ y < 0 := by omega
                  have n2 : ¬ (L.length : Int) ≤ y := by omega
                  have n3 : ¬ x < 0 := by omega
                  have n4 : ¬ 120 < x := by omega
                  have HO : Hid (okM L.length x y = true) := ho
                  clear ho g1 g2 g3 g4
                  go_wp2_with fail
                  go_roundg 1
                  case measure => omega
                  case rel => exact ⟨1, by go_num, by omega, by omega, fun _ => HO.out, by omega, kq, hM3⟩
              · obtain rfl : j = 1 := by omega
                have kq := kz.trans ((kQ fx fy).mono kz.size)
                have hM3 := kept hM (kQ fx fy)
                obtain ⟨p0, p1⟩ := cells2 (heap_alloc_new wr (.cells #[.int .i64 fx, .int .i64 fy] 24))
                have ho0 := ho1 (Nat.le_refl 1)
                cases ho : okM L.length fx fy
                · have e0 : R = 4 := by
                    have := HR2.out
                    rw [ho, ho0] at this
                    simpa using this.symm
                  subst e0
                  rcases okM_false ho with h | h | h | h
                  all_goals
                    clear ho
                    go_wp2_with fail
                    all_goals
                      go_ret
                      exact ⟨rfl, kq⟩
                · obtain ⟨g1, g2, g3, g4⟩ := okM_true ho
                  have n1 : ¬ fy < 0 := by omega
                  have n2 : ¬ (L.length : Int) ≤ fy := by omega
                  have n3 : ¬ fx < 0 := by omega
                  have n4 : ¬ 120 < fx := by omega
                  have HO : Hid (okM L.length fx fy = true) := ho
                  have HO0 : Hid (okM L.length x y = true) := ho0
                  clear ho g1 g2 g3 g4 ho0
                  go_wp2_with fail
                  go_roundg 0
                  case measure => omega
                  case rel => exact ⟨2, by go_num, by omega, by omega, fun _ => HO0.out, fun _ => HO.out, kq, hM3⟩
            · obtain rfl : j = 2 := by omega
              have e0 : R = 0 := by
                have := HR2.out
                rw [ho1 (by omega), ho2 (by omega)] at this
                simpa using this.symm
              subst e0
              go_wp2_with fail
              go_ret
              exact ⟨rfl, kz⟩
    · have i1 : ¬ (L.length : Int) < 1 := by omega
      have i2 : (110 : Int) < (L.length : Int) := by omega
      rw [decide_eq_false h2] at hR
      simp only [Bool.and_false, Bool.false_and, Bool.false_eq_true, if_false] at hR
      subst hR
      go_enter Tryd.func8, Tryd.ntmps8
      go_wp2_with fail
      go_ret
      exact ⟨rfl, kb⟩
  · have i1 : (L.length : Int) < 1 := by omega
    rw [decide_eq_false h1] at hR
    simp only [Bool.false_and, Bool.false_eq_true, if_false] at hR
    subst hR
    go_enter Tryd.func8, Tryd.ntmps8
    go_wp2_with fail
    go_ret
    exact ⟨rfl, kb⟩
end Cpy
end Go.Proofs.YtlodmffiengnaaaDoor

/- Package copying: seek. -/
namespace Go.Proofs.YtlodmffiengnaaaDoor
open Go.ChangeShapes Go.WideShapes Go.ChangeAt Go.RowKit Go.Maps
namespace Cpy
open Txt (runes rn wd spotsL colsL cleanL bs okRune Tab)
def seekG (L : List ByteArray) (ws : List Int) (y : Nat) : Nat → Nat → Nat → Option (Int × Int)
  | 0, _, _ => none
  | g + 1, i, fr => if 0 ≤ findM (sp (ln L ((y + i) % L.length))) ws fr then some (findM (sp (ln L ((y + i) % L.length))) ws fr, (((y + i) % L.length : Nat) : Int)) else seekG L ws y g (i + 1) 0
/-- Where runes stand next. -/
def seekM (L : List ByteArray) (x : Int) (y : Nat) (ws : List Int) : Option (Int × Int) := seekG L ws y (L.length + 1) 0 (atI (cols (ln L y)) x + 1).toNat
def seekE : Option (Int × Int) → Int
  | none => 8
  | some _ => 0
def seekK (k : Cp) : Option (Int × Int) → Cp
  | none => k
  | some m => { k with x := m.1, y := m.2 }
theorem w64_sum {a b : Nat} (h : a + b ≤ 1000000) : wrap64 ((a : Int) + (b : Int)) = (a : Int) + (b : Int) := by unfold wrap64; omega
set_option maxHeartbeats 8000000 in
set_option maxRecDepth 100000 in
theorem seek_in (L : List ByteArray) (v : Value) (C : Nat) (x : Int) (y : Nat) (fx fy : Int) (on : Bool) (sub : ByteArray) (ws : List Int) (w : World) (h : LsAt w v L) (hT : Tab w) (hM : MaxAt w) (hbox : BoxAt w C ⟨x, y, fx, fy, on⟩)
    (hy : y < L.length) (hn : L.length ≤ 110) (hL : ∀ s ∈ L, s.size ≤ 4000) (hsub : sub.data.toList = E ws) (hws : ws ≠ []) (hok : ∀ r ∈ ws, okRune r) :
    Calls Tryd.prog 41 #[v, .pointer (some ⟨C, 0, none⟩), .string sub] w fun e w' => e = .returned (.int .i64 (seekE (seekM L x y ws))) ∧ BoxAt w' C (seekK ⟨x, y, fx, fy, on⟩ (seekM L x y ws)) ∧ But C w w' := by
  obtain ⟨R, hR⟩ : ∃ R, seekM L x y ws = R := ⟨_, rfl⟩
  rw [hR]
  unfold seekM at hR
  have HLS : Hid (∀ V, Below w.heap.size w V → LsAt V v L) := fun V hV => h.below hV
  have HTB : Hid (∀ V, Below w.heap.size w V → Tab V) := fun V hV => hT.below hV hT.pos
  have HMB : Hid (∀ V, Below w.heap.size w V → MaxAt V) := fun V hV => hM.below hV
  obtain ⟨b, o, c, rfl, q⟩ := h.get hy
  have hs := ln_size hL y
  have HL := fun W (hW : Below w.heap.size w W) => lineOf_any (ln L y) W (hT.below hW hT.pos) (by omega)
  have hsl := sp_len (ln L y)
  have HA := fun rv cv W (h : LnAt W rv cv (sp (ln L y))) => at_any rv cv (sp (ln L y)) x W h (sp_lt _) (by omega)
  have iy : (y : Int) < (L.length : Int) := by omega
  have iy0 : (0 : Int) ≤ (y : Int) := by omega
  rw [show (sp (ln L y)).map (·.2) = cols (ln L y) from rfl] at HA
  have HLL : Hid (∀ s ∈ L, s.size ≤ 4000) := hL
  have a1 := atI_ge (cols (ln L y)) x
  have a2 := atI_lt (cols (ln L y)) x
  rw [cols_len] at a2
  obtain ⟨n, hn2⟩ : ∃ n : Nat, atI (cols (ln L y)) x + 1 = (n : Int) := ⟨(atI (cols (ln L y)) x + 1).toNat, by omega⟩
  have hnl : n ≤ (sp (ln L y)).length := by omega
  rw [hn2, Int.toNat_natCast] at hR
  have HR : Hid (seekG L ws y (L.length + 1) 0 n = R) := hR
  have HNL : Hid (n ≤ (sp (ln L y)).length) := hnl
  have HBX : Hid (BoxAt w C ⟨x, y, fx, fy, on⟩) := hbox
  have HWS : Hid (sub.data.toList = E ws ∧ ws ≠ [] ∧ ∀ r ∈ ws, okRune r) := ⟨hsub, hws, hok⟩
  have hwa : wrap64 (atI (cols (ln L y)) x + 1) = (n : Int) := by rw [hn2]; unfold wrap64; omega
  obtain ⟨⟨c0, c1, _⟩, _⟩ := hbox.cells
  simp only [] at c0 c1
  have hnn : n ≤ 4000 := by omega
  generalize atI (cols (ln L y)) x = a at *
  generalize hsn : ln L y = s at *
  have HSN : Hid (ln L y = s) := hsn
  clear h hT hM hL hR a1 a2 hsl hs hbox hnl hsub hws hok hsn
  go_enter Tryd.func41, Tryd.ntmps41
  go_upto_region 1 with fail
  have kd : Below w.heap.size w w.drew := (Below.refl _ _).drew
  have d0 : w.drew.cell? ⟨C, 0, none⟩ = some (.int .i64 x) := c0
  go_region_with (first
    | (go_at_call 43; refine (HL _ kd).mono ?_; rintro e W1 ⟨rv, cv, rfl, hln, b1⟩; have cx1 := CK.below b1 _ _ _ d0)
    | (go_at_call 44; refine (HA _ _ _ hln).mono ?_; rintro e W2 ⟨rfl, b2⟩))
  all_goals
    have k1 := (kd.trans (b1.mono kd.size)).trans (b2.mono (kd.trans (b1.mono kd.size)).size)
    have HY : Hid (y < L.length) := hy
    clear b1 b2 cx1 hln d0 kd c0 c1 HA HL q hy
    go_wp2_with fail
    clear hwa
    go_loopg [7, 28] (L.length + 1) (fun g u7 u28 wr => ∃ (i fr : Nat), u7 = .int .i64 (fr : Int) ∧ u28 = .int .i64 (i : Int) ∧ i ≤ L.length + 1 ∧ L.length + 1 - i ≤ g ∧ fr ≤ (sp (ln L ((y + i) % L.length))).length ∧ seekG L ws y (L.length + 1 - i) i fr = R ∧ Below w.heap.size w wr)
    case atStart => exact ⟨0, n, rfl, rfl, by omega, by omega, by rw [Nat.add_zero, Nat.mod_eq_of_lt HY.out, HSN.out]; exact HNL.out, HR.out, k1⟩
    case round =>
      obtain ⟨i, fr, rfl, rfl, hi, hg, hfr, hse, kb⟩ := hrel
      have HSE : Hid (seekG L ws y (L.length + 1 - i) i fr = R) := hse
      have hbw := HBX.out.below kb
      obtain ⟨⟨c0, c1, _⟩, hf⟩ := hbw.cells
      simp only [] at c0 c1
      have f0 := hf 0
      have f1 := hf 1
      clear hse hf HR k1 HNL
      by_cases hlt : i < L.length + 1
      · have ii : (i : Int) < (L.length : Int) + 1 := by omega
        have hyy : (y + i) % L.length < L.length := Nat.mod_lt _ (by omega)
        obtain ⟨b', o', c', hv, q⟩ := (HLS.out _ kb).get hyy
        injection hv with e1 e2 e3
        injection e1 with e1
        injection e1 with e1 e4
        subst e1 e4 e3
        have hs := ln_size HLL.out ((y + i) % L.length)
        have HL := lineOf_any (ln L ((y + i) % L.length)) wr (HTB.out _ kb) (by omega)
        have hsl := sp_len (ln L ((y + i) % L.length))
        have HF := fun rv cv V (hl : LnAt V rv cv (sp (ln L ((y + i) % L.length)))) (hM : MaxAt V) => find_any rv cv (sp (ln L ((y + i) % L.length))) sub ws fr V hl hM (by omega) hfr HWS.out.1 HWS.out.2.1 HWS.out.2.2 (sp_ok _)
        have hse : seekG L ws y (L.length + 1 - i) i fr = R := HSE.out
        rw [show L.length + 1 - i = (L.length - i) + 1 by omega, seekG] at hse
        have hrem : Int.tmod ((y : Int) + (i : Int)) (L.length : Int) = (((y + i) % L.length : Nat) : Int) := by
          rw [← Int.natCast_add]
          exact (Int.ofNat_tmod _ _).symm
        have hyi : (((y + i) % L.length : Nat) : Int) < (L.length : Int) := Int.ofNat_lt.2 hyy
        generalize findM (sp (ln L ((y + i) % L.length))) ws fr = F at *
        generalize hS : sp (ln L ((y + i) % L.length)) = S at *
        generalize hs2 : ln L ((y + i) % L.length) = s2 at *
        have hwa2 := w64_sum (a := y) (b := i) (by omega)
        generalize hyn : (y + i) % L.length = yy at *
        clear hS hs2 hs hsl HSE hyn
        go_wp2_with fail
        refine HL.mono ?_
        rintro e W1 ⟨rv, cv, rfl, hln, b1⟩
        have k2 := kb.trans (b1.mono kb.size)
        clear hwa2 HL
        go_wp2_with fail
        refine (HF _ _ _ hln (HMB.out _ k2)).mono ?_
        rintro e W2 ⟨rfl, b2⟩
        have k3 := k2.trans (b2.mono k2.size)
        have hbw2 := HBX.out.below k3
        obtain ⟨⟨d0, d1, _⟩, hf2⟩ := hbw2.cells
        simp only [] at d0 d1
        have g0 := hf2 0
        have g1 := hf2 1
        clear HF b1 b2 hln k2 kb hbw c0 c1 f0 f1 q hf2
        by_cases hF : 0 ≤ F
        · rw [if_pos hF] at hse
          subst hse
          have y2 := (hbw2.setX F).setY yy
          have b2 := ((But.of_below (M := C) k3).setCell (i := 0) (.int .i64 F)).setCell (i := 1) (.int .i64 yy)
          go_wp2_with fail
          go_ret
          exact ⟨rfl, y2, b2⟩
        · rw [if_neg hF] at hse
          have HSE2 : Hid (seekG L ws y (L.length - i) (i + 1) 0 = R) := hse
          clear hse hrem
          go_wp2_with fail
          go_roundg (L.length - i)
          case measure => omega
          case rel => exact ⟨i + 1, 0, rfl, by go_num, by omega, by omega, Nat.zero_le _, by rw [show L.length + 1 - (i + 1) = L.length - i by omega]; exact HSE2.out, k3⟩
      · have ii : ¬ (i : Int) < (L.length : Int) + 1 := by omega
        have e0 : R = none := by
          have := HSE.out
          rw [show L.length + 1 - i = 0 by omega, seekG] at this
          exact this.symm
        subst e0
        have b2 := But.of_below (M := C) kb
        go_wp2_with fail
        go_ret
        exact ⟨rfl, hbw, b2⟩
end Cpy
end Go.Proofs.YtlodmffiengnaaaDoor

/- Package copying: Seek's closure. -/
namespace Go.Proofs.YtlodmffiengnaaaDoor
open Go.ChangeShapes Go.WideShapes Go.ChangeAt Go.RowKit Go.Maps
namespace Cpy
open Txt (runes rn wd spotsL colsL cleanL bs okRune Tab)
/-- The runes of what is sought. -/
def what (s : ByteArray) : List Int := (sp s).map (·.1)
theorem clean_spots : ∀ (l : List (Int × Nat)) (c : Int), cleanL l = E ((spotsL l c).map (·.1))
  | [], _ => rfl
  | x :: t, c => by
    unfold cleanL spotsL
    by_cases hw : 0 < wd x.1
    · rw [if_pos hw, if_pos hw, List.map_cons, E_cons, clean_spots t (c + wd x.1)]
    · rw [if_neg hw, if_neg hw, List.nil_append, clean_spots t c]
theorem clean_E (s : ByteArray) : cleanL (runes s) = E (what s) := clean_spots _ 0
def seekCE (L : List ByteArray) (k : Cp) (s : ByteArray) : Int := if 4000 < s.size ∨ what s = [] then 1 else seekE (seekM L k.x k.y.toNat (what s))
def seekCK (L : List ByteArray) (k : Cp) (s : ByteArray) : Cp := if 4000 < s.size ∨ what s = [] then k else seekK k (seekM L k.x k.y.toNat (what s))
set_option maxHeartbeats 8000000 in
set_option maxRecDepth 100000 in
theorem seek_how (L : List ByteArray) (v : Value) (k : Cp) (s : ByteArray) (w : World) (hT : Tab w) (hM : MaxAt w) (hk : chk L k = 0) : HowS 39 w L v s k (seekCE L k s) (seekCK L k s) := by
  obtain ⟨h1, h2, h3, ⟨h4, h5, _, _⟩, _⟩ := chk_zero hk
  intro W A B kA hA hB cA cB hls W2 C kb hC hbox
  have hneB : B ≠ C := by have := lt_of_cell cB; omega
  have hneA : A ≠ C := by have := lt_of_cell cA; omega
  have dA := CK.below kb _ _ _ cA
  have dB := CK.below kb _ _ _ cB
  have hls2 := hls.below kb
  have hT2 : Tab W2 := (hT.below kA hT.pos).below kb (Nat.lt_of_lt_of_le hT.pos kA.size)
  have hM2 : MaxAt W2 := (hM.below kA).below kb
  unfold seekCE seekCK
  by_cases hs : 4000 < s.size
  · rw [if_pos (.inl hs), if_pos (.inl hs)]
    have is : (4000 : Int) < (s.size : Int) := by omega
    have b2 := But.refl C W2
    clear hls hls2 hT hM hT2 hM2 kA kb cA cB
    go_enter Tryd.func39, Tryd.ntmps39
    go_wp2_with fail
    go_ret
    exact ⟨rfl, hbox, b2⟩
  · have is : ¬ (4000 : Int) < (s.size : Int) := by omega
    have HC := Txt.clean_any s W2 hT2 (by omega)
    rw [clean_E] at HC
    by_cases hw : what s = []
    · rw [if_pos (.inr hw), if_pos (.inr hw)]
      rw [hw] at HC
      have e0 : bs (E []) = ⟨#[]⟩ := rfl
      rw [e0] at HC
      clear hls hls2 hT hM hT2 hM2 kA kb cA cB hs hw e0
      go_enter Tryd.func39, Tryd.ntmps39
      go_wp2_with fail
      refine HC.mono ?_
      rintro e W3 ⟨rfl, b3⟩
      have y3 := hbox.below b3
      have b4 := But.of_below (M := C) b3
      go_wp2_with fail
      go_ret
      exact ⟨rfl, y3, b4⟩
    · rw [if_neg (by rintro (h | h); exact hs h; exact hw h), if_neg (by rintro (h | h); exact hs h; exact hw h)]
      obtain ⟨x, y, fx, fy, on⟩ := k
      simp only [] at h4 h5 ⊢
      obtain ⟨y, rfl⟩ := Int.eq_ofNat_of_zero_le h4
      rw [Int.toNat_natCast]
      have hokw : ∀ r ∈ what s, okRune r := by
        intro r hr
        obtain ⟨z, hz, rfl⟩ := List.mem_map.1 hr
        exact sp_ok s z hz
      have hyl : y < L.length := by omega
      have HSK := fun V (hl : LsAt V v L) (ht : Tab V) (hm : MaxAt V) (hb : BoxAt V C ⟨x, y, fx, fy, on⟩) => seek_in L v C x y fx fy on (bs (E (what s))) (what s) V hl ht hm hb hyl h2 h3 (bs_data _) hw hokw
      have hne2 : ((bs (E (what s))).toList == []) = false := by
        rw [beq_eq_false_iff_ne, Lib.toList_data, bs_data]
        exact E_ne hw
      generalize seekM L x y (what s) = R at *
      generalize bs (E (what s)) = u at *
      have HBX : Hid (BoxAt W2 C ⟨x, y, fx, fy, on⟩) := hbox
      have HEN : Hid (LsAt W2 v L ∧ Tab W2 ∧ MaxAt W2) := ⟨hls2, hT2, hM2⟩
      clear hls hls2 hT hM hT2 hM2 kA kb cA cB hs hw hbox hokw hk
      go_enter Tryd.func39, Tryd.ntmps39
      go_wp2_with fail
      refine HC.mono ?_
      rintro e W3 ⟨rfl, b3⟩
      have dA3 := CK.below b3 _ _ _ dA
      clear HC dA dB
      go_upto_region 6 with fail
      have bD : Below W3.heap.size W3 W3.drew := (Below.refl _ _).drew
      have l3 := ((HEN.out.1.below b3).below bD)
      have t3 := ((HEN.out.2.1.below b3 HEN.out.2.1.pos).below bD (HEN.out.2.1.below b3 HEN.out.2.1.pos).pos)
      have m3 := ((HEN.out.2.2.below b3).below bD)
      have x3 : BoxAt W3.drew C ⟨x, y, fx, fy, on⟩ := (HBX.out.below b3).below bD
      have H3 := HSK _ l3 t3 m3 x3
      have b5 := (But.of_below (M := C) b3).trans (But.of_below (M := C) bD)
      have HB5 : Hid (But C W2 W3.drew) := b5
      clear l3 t3 m3 x3 HSK b5 bD b3
      go_region_with (go_at_call 41; refine H3.mono ?_; rintro e V ⟨rfl, yv, bv⟩)
      all_goals
        have b6 := HB5.out.trans bv
        go_wp2_with fail
        go_ret
        exact ⟨rfl, yv, b6⟩
end Cpy
end Go.Proofs.YtlodmffiengnaaaDoor
