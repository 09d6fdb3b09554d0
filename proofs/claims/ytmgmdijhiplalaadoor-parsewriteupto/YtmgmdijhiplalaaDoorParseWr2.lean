/- bytesOf. -/
import Derived.Test.YtmgmdijhiplalaaDoorParseWr1
import Derived.Lib.QuietBelow
import Derived.BigQuiet
namespace Go.Proofs.YtmgmdijhiplalaaDoor
open Go.ChangeShapes Go.WideShapes Go.ChangeAt Go.RowKit Go.Sort
namespace Prs
theorem encode_eq (r : Int) : Utf8.encode r = bs (Lib.encodeRune r) := by
  by_cases h1 : 0 ≤ r ∧ r ≤ 127
  · have hv : Utf8.valid r = true := by simp [Utf8.valid]; omega
    simp only [Utf8.encode, hv, if_true]
    rw [if_pos (by omega)]
    unfold Lib.encodeRune
    rw [Lib.encodeRuneZ_one h1.1 h1.2]
    rfl
  · by_cases h2 : 128 ≤ r ∧ r ≤ 2047
    · have hv : Utf8.valid r = true := by simp [Utf8.valid]; omega
      simp only [Utf8.encode, hv, if_true]
      rw [if_neg (by omega), if_pos (by omega)]
      unfold Lib.encodeRune
      rw [Lib.encodeRuneZ_two h2.1 h2.2, show 0xC0 + r.toNat / 64 = (192 + r / 64).toNat by omega, show 0x80 + r.toNat % 64 = (128 + r % 64).toNat by omega]
      rfl
    · by_cases h3 : (2048 ≤ r ∧ r < 55296) ∨ (57343 < r ∧ r ≤ 65535)
      · have hv : Utf8.valid r = true := by simp [Utf8.valid]; omega
        simp only [Utf8.encode, hv, if_true]
        rw [if_neg (by omega), if_neg (by omega), if_pos (by omega)]
        unfold Lib.encodeRune
        rw [Lib.encodeRuneZ_three h3, show 0xE0 + r.toNat / 4096 = (224 + r / 4096).toNat by omega, show 0x80 + r.toNat / 64 % 64 = (128 + r / 64 % 64).toNat by omega, show 0x80 + r.toNat % 64 = (128 + r % 64).toNat by omega]
        rfl
      · by_cases h4 : 65536 ≤ r ∧ r ≤ 1114111
        · have hv : Utf8.valid r = true := by simp [Utf8.valid]; omega
          simp only [Utf8.encode, hv, if_true]
          rw [if_neg (by omega), if_neg (by omega), if_neg (by omega)]
          unfold Lib.encodeRune
          rw [Lib.encodeRuneZ_four h4.1 h4.2, show 0xF0 + r.toNat / 262144 = (240 + r / 262144).toNat by omega, show 0x80 + r.toNat / 4096 % 64 = (128 + r / 4096 % 64).toNat by omega, show 0x80 + r.toNat / 64 % 64 = (128 + r / 64 % 64).toNat by omega, show 0x80 + r.toNat % 64 = (128 + r % 64).toNat by omega]
          rfl
        · have hv : Utf8.valid r = false := by simp [Utf8.valid]; omega
          unfold Lib.encodeRune
          rw [Lib.encodeRuneZ_bad (by omega)]
          simp only [Utf8.encode, hv, Utf8.runeError, Bool.false_eq_true, if_false]
          decide
/-- What an event is to be like so that its bytes can be reckoned. -/
structure Fine (e : Ev) : Prop where
  f0 : 0 ≤ e.fin
  f1 : e.fin ≤ 255
  m0 : 0 ≤ e.mark
  m1 : e.mark ≤ 255
  pl : e.ps.length ≤ 1048576
  pw : ∀ x ∈ e.ps, -9223372036854775808 ≤ x ∧ x ≤ 9223372036854775807
  ml : e.mid.size ≤ 1048576
  tl : e.txt.size ≤ 1048576
theorem ps_len : ∀ (l : List Int) (b : Bool), (∀ x ∈ l, -9223372036854775808 ≤ x ∧ x ≤ 9223372036854775807) → (psL b l).length ≤ 22 * l.length
  | [], b, _ => by cases b <;> simp [psL]
  | y :: l, true, h => by
    have h1 := num_len y (h y (by simp)).1 (h y (by simp)).2
    have h2 := ps_len l false (fun z hz => h z (by simp [hz]))
    simp only [psL, List.length_append, List.length_cons]
    omega
  | y :: l, false, h => by
    have h1 := num_len y (h y (by simp)).1 (h y (by simp)).2
    have h2 := ps_len l false (fun z hz => h z (by simp [hz]))
    simp only [psL, List.length_append, List.length_cons]
    omega
set_option maxHeartbeats 8000000 in
set_option maxRecDepth 100000 in
theorem bytesOf_any (e : Ev) (pa : Option Addr) (pc : Nat) (w : World) (hP : P10 w) (hI : IntsV w (.slice pa e.ps.length pc) e.ps) (hf : Fine e) :
    Calls Tryd.prog 31 #[.agg #[.int .i64 e.kind, .int .i32 e.r, .int .u8 e.fin, .int .u8 e.mark, .string e.mid, .slice pa e.ps.length pc, .string e.txt]] w fun r w' => r = .returned (.string (bs (evB e))) ∧ Below w.heap.size w w' := by
  have x0 := heap_alloc_new w (.cells #[.int .i64 e.kind, .int .i32 e.r, .int .u8 e.fin, .int .u8 e.mark, .string e.mid, .slice pa e.ps.length pc, .string e.txt] 37)
  have kb : Below w.heap.size w (w.alloc (.cells #[.int .i64 e.kind, .int .i32 e.r, .int .u8 e.fin, .int .u8 e.mark, .string e.mid, .slice pa e.ps.length pc, .string e.txt] 37)) := (Below.refl _ _).alloc (Nat.le_refl _) _
  obtain ⟨c0, c1, c2, c3, c4, c5, c6, cf⟩ := cells7 x0
  have HKB : Hid _ := kb
  have HX0 : Hid _ := x0
  have HPP : Hid (P10 w) := hP
  have HII : Hid (IntsV w (.slice pa e.ps.length pc) e.ps) := hI
  have HF : Hid (Fine e) := hf
  have HE : Hid (evB e = if e.kind = 1 then Lib.encodeRune e.r else if e.kind = 2 then [(e.r % 256).toNat.toUInt8] else if e.kind = 3 then 27 :: (e.mid.data.toList ++ [e.fin.toNat.toUInt8]) else if e.kind = 4 then 27 :: 91 :: (markL e.mark ++ psL true e.ps ++ e.mid.data.toList ++ [e.fin.toNat.toUInt8]) else if e.kind = 5 then 27 :: 93 :: (e.txt.data.toList ++ [7]) else []) := rfl
  generalize evB e = res at HE ⊢
  clear x0 kb hP hI hf cf
  by_cases k1 : e.kind = 1
  · have b1 : (e.kind == 1) = true := by rw [beq_iff_eq]; exact k1
    have K1 : Hid (e.kind = 1) := k1
    clear k1
    go_enter Tryd.func31, Tryd.ntmps31
    go_wp2_with fail
    go_ret
    refine ⟨?_, HKB.out⟩
    rw [HE.out, if_pos K1.out, ← encode_eq]
    rfl
  · have b1 : (e.kind == 1) = false := by rw [beq_eq_false_iff_ne]; exact k1
    have K1 : Hid (¬ e.kind = 1) := k1
    clear k1
    by_cases k2 : e.kind = 2
    · have b2 : (e.kind == 2) = true := by rw [beq_iff_eq]; exact k2
      have K2 : Hid (e.kind = 2) := k2
      clear k2
      have HA := asText_any (e.r % 256).toNat.toUInt8 (w.alloc (.cells #[.int .i64 e.kind, .int .i32 e.r, .int .u8 e.fin, .int .u8 e.mark, .string e.mid, .slice pa e.ps.length pc, .string e.txt] 37))
      rw [byteN _ (by omega), Int.toNat_of_nonneg (by omega)] at HA
      go_enter Tryd.func31, Tryd.ntmps31
      go_wp2_with fail
      refine HA.mono ?_
      rintro q W1 ⟨rfl, d1⟩
      go_wp2_with fail
      go_ret
      refine ⟨?_, HKB.out.trans (d1.mono HKB.out.size)⟩
      rw [HE.out, if_neg K1.out, if_pos K2.out]
      rfl
    · have b2 : (e.kind == 2) = false := by rw [beq_eq_false_iff_ne]; exact k2
      have K2 : Hid (¬ e.kind = 2) := k2
      clear k2
      by_cases k3 : e.kind = 3
      · have b3 : (e.kind == 3) = true := by rw [beq_iff_eq]; exact k3
        have K3 : Hid (e.kind = 3) := k3
        clear k3
        obtain ⟨W0, hW0⟩ : ∃ W0, w.alloc (.cells #[.int .i64 e.kind, .int .i32 e.r, .int .u8 e.fin, .int .u8 e.mark, .string e.mid, .slice pa e.ps.length pc, .string e.txt] 37) = W0 := ⟨_, rfl⟩
        have HW0 : Hid (w.alloc (.cells #[.int .i64 e.kind, .int .i32 e.r, .int .u8 e.fin, .int .u8 e.mark, .string e.mid, .slice pa e.ps.length pc, .string e.txt] 37) = W0) := hW0
        rw [hW0] at HKB HX0
        have y2 := c2
        have y3 := c3
        have y4 := c4
        have y5 := c5
        rw [hW0] at y2 y3 y4 y5
        have z2 : ∀ d os, (grow (redrawn W0 d) os).cell? ⟨w.heap.size, 2, none⟩ = some (.int .u8 e.fin) := fun d os => cell_regrown y2 d os
        have z4 : ∀ d os, (grow (redrawn W0 d) os).cell? ⟨w.heap.size, 4, none⟩ = some (.string e.mid) := fun d os => cell_regrown y4 d os
        clear hW0
        have HA : Hid (∀ d os, Calls Tryd.prog 57 #[.int .u8 e.fin] (grow (redrawn W0 d) os) fun r w'' => r = .returned (.string (one e.fin.toNat.toUInt8)) ∧ ∃ p : Regrown, w'' = grow (redrawn W0 p.d) p.os) := fun d os => Calls.regrown_of (by
          have h := asText_any e.fin.toNat.toUInt8 (grow (redrawn W0 d) os)
          rw [byteN _ (by have := HF.out.f0; have := HF.out.f1; omega), Int.toNat_of_nonneg HF.out.f0] at h
          exact h)
        have hs1 : ¬ 9223372036854775807 < (bs [27]).size + e.mid.size := by have := HF.out.ml; rw [bs_size]; simp; omega
        have hs2 : ¬ 9223372036854775807 < (bs [27] ++ e.mid).size + (one e.fin.toNat.toUInt8).size := by
          have := HF.out.ml
          rw [ByteArray.size_append, bs_size, show (one e.fin.toNat.toUInt8).size = 1 from rfl]
          simp
          omega
        have HR : Hid (bs [27] ++ e.mid ++ one e.fin.toNat.toUInt8 = bs res) := by
          unfold Hid
          rw [HE.out, if_neg K1.out, if_neg K2.out, if_pos K3.out, show one e.fin.toNat.toUInt8 = bs [e.fin.toNat.toUInt8] from rfl]
          conv => lhs; rw [← bs_self e.mid]
          rw [bs_append, bs_append]
          simp
        rw [show bs [27] = ⟨#[27]⟩ from rfl] at hs1 hs2 HR
        have hs0 : ¬ 9223372036854775807 < 1 + e.mid.size := hs1
        have hs3 : ¬ 9223372036854775807 < 1 + e.mid.size + (one e.fin.toNat.toUInt8).size := by
          have := HF.out.ml
          rw [show (one e.fin.toNat.toUInt8).size = 1 from rfl]
          omega
        clear hs1 hs2
        go_enter Tryd.func31, Tryd.ntmps31
        go_wp2_with fail
        rw [HW0.out]
        clear c0 c1 c2 c3 c4 c5 c6
        refine wp_region_quiet_below (by kernel_rfl) (by kernel_rfl) ?_
        repeat (first | go_big_quiet_skip | quiet_step (first | (go_at_call 57; exact HA.out _ _)))
        refine wpQuiet_nil ?_
        intro _ hw'
        obtain ⟨⟨dq, os⟩, hw''⟩ := hw'
        subst hw''
        have kR := below_regrown W0 dq os
        have kw := HKB.out.trans (kR.mono HKB.out.size)
        clear z2 z4 HA kR
        generalize grow (redrawn W0 dq) os = V at *
        go_wp2_with fail
        go_ret
        exact ⟨by rw [← HR.out]; rfl, kw⟩
      · have b3 : (e.kind == 3) = false := by rw [beq_eq_false_iff_ne]; exact k3
        have K3 : Hid (¬ e.kind = 3) := k3
        clear k3
        by_cases k4 : e.kind = 4
        · have b4 : (e.kind == 4) = true := by rw [beq_iff_eq]; exact k4
          have K4 : Hid (e.kind = 4) := k4
          clear k4
          obtain ⟨W0, hW0⟩ : ∃ W0, w.alloc (.cells #[.int .i64 e.kind, .int .i32 e.r, .int .u8 e.fin, .int .u8 e.mark, .string e.mid, .slice pa e.ps.length pc, .string e.txt] 37) = W0 := ⟨_, rfl⟩
          have HW0 : Hid (w.alloc (.cells #[.int .i64 e.kind, .int .i32 e.r, .int .u8 e.fin, .int .u8 e.mark, .string e.mid, .slice pa e.ps.length pc, .string e.txt] 37) = W0) := hW0
          rw [hW0] at HKB HX0
          have y2 := c2
          have y3 := c3
          have y4 := c4
          have y5 := c5
          rw [hW0] at y2 y3 y4 y5
          have z2 : ∀ d os, (grow (redrawn W0 d) os).cell? ⟨w.heap.size, 2, none⟩ = some (.int .u8 e.fin) := fun d os => cell_regrown y2 d os
          have z3 : ∀ d os, (grow (redrawn W0 d) os).cell? ⟨w.heap.size, 3, none⟩ = some (.int .u8 e.mark) := fun d os => cell_regrown y3 d os
          have z4 : ∀ d os, (grow (redrawn W0 d) os).cell? ⟨w.heap.size, 4, none⟩ = some (.string e.mid) := fun d os => cell_regrown y4 d os
          have z5 : ∀ d os, (grow (redrawn W0 d) os).cell? ⟨w.heap.size, 5, none⟩ = some (.slice pa e.ps.length pc) := fun d os => cell_regrown y5 d os
          clear hW0
          have HA : Hid (∀ d os, Calls Tryd.prog 57 #[.int .u8 e.fin] (grow (redrawn W0 d) os) fun r w'' => r = .returned (.string (one e.fin.toNat.toUInt8)) ∧ ∃ p : Regrown, w'' = grow (redrawn W0 p.d) p.os) := fun d os => Calls.regrown_of (by
            have h := asText_any e.fin.toNat.toUInt8 (grow (redrawn W0 d) os)
            rw [byteN _ (by have := HF.out.f0; have := HF.out.f1; omega), Int.toNat_of_nonneg HF.out.f0] at h
            exact h)
          have HM : Hid (∀ d os, Calls Tryd.prog 58 #[.int .u8 e.mark] (grow (redrawn W0 d) os) fun r w'' => r = .returned (.string (bs (markL e.mark))) ∧ ∃ p : Regrown, w'' = grow (redrawn W0 p.d) p.os) := fun d os => Calls.regrown_of (markText_any e.mark _ HF.out.m0 HF.out.m1)
          have HPT : Hid (∀ d os, Calls Tryd.prog 59 #[.slice pa e.ps.length pc] (grow (redrawn W0 d) os) fun r w'' => r = .returned (.string (bs (psL true e.ps))) ∧ ∃ p : Regrown, w'' = grow (redrawn W0 p.d) p.os) := fun d os => Calls.regrown_of (by
            have k := HKB.out.trans ((below_regrown W0 d os).mono HKB.out.size)
            exact paramsText_any e.ps _ _ (HPP.out.below k) (HII.out.next k) (by have := HF.out.pl; omega) HF.out.pw)
          have hml : (markL e.mark).length ≤ 1 := by unfold markL; split <;> simp
          have hpl := ps_len e.ps true HF.out.pw
          have hpn := HF.out.pl
          have hmn := HF.out.ml
          have hs1 : ¬ 9223372036854775807 < 2 + (bs (markL e.mark)).size := by rw [bs_size]; omega
          have hs2 : ¬ 9223372036854775807 < 2 + (bs (markL e.mark)).size + (bs (psL true e.ps)).size := by rw [bs_size, bs_size]; omega
          have hs3 : ¬ 9223372036854775807 < 2 + (bs (markL e.mark)).size + (bs (psL true e.ps)).size + e.mid.size := by rw [bs_size, bs_size]; omega
          have hs4 : ¬ 9223372036854775807 < 2 + (bs (markL e.mark)).size + (bs (psL true e.ps)).size + e.mid.size + (one e.fin.toNat.toUInt8).size := by
            rw [bs_size, bs_size, show (one e.fin.toNat.toUInt8).size = 1 from rfl]
            omega
          have HR : Hid (bs [27, 91] ++ bs (markL e.mark) ++ bs (psL true e.ps) ++ e.mid ++ one e.fin.toNat.toUInt8 = bs res) := by
            unfold Hid
            rw [HE.out, if_neg K1.out, if_neg K2.out, if_neg K3.out, if_pos K4.out, show one e.fin.toNat.toUInt8 = bs [e.fin.toNat.toUInt8] from rfl]
            conv => lhs; rw [← bs_self e.mid]
            rw [bs_append, bs_append, bs_append, bs_append]
            simp
          generalize bs (markL e.mark) = tm at *
          generalize bs (psL true e.ps) = tp at *
          clear hml hpl hpn hmn
          rw [show bs [27, 91] = ⟨#[27, 91]⟩ from rfl] at HR
          go_enter Tryd.func31, Tryd.ntmps31
          go_wp2_with fail
          rw [HW0.out]
          clear c0 c1 c2 c3 c4 c5 c6
          refine wp_region_quiet_below (by kernel_rfl) (by kernel_rfl) ?_
          repeat (first | go_big_quiet_skip | quiet_step (first | (go_at_call 57; exact HA.out _ _) | (go_at_call 58; exact HM.out _ _) | (go_at_call 59; exact HPT.out _ _)))
          refine wpQuiet_nil ?_
          intro _ hw'
          obtain ⟨⟨dq, os⟩, hw''⟩ := hw'
          subst hw''
          have kR := below_regrown W0 dq os
          have kw := HKB.out.trans (kR.mono HKB.out.size)
          clear z2 z3 z4 z5 HA HM HPT kR
          generalize grow (redrawn W0 dq) os = V at *
          go_wp2_with fail
          go_ret
          exact ⟨by rw [← HR.out]; rfl, kw⟩
        · have b4 : (e.kind == 4) = false := by rw [beq_eq_false_iff_ne]; exact k4
          have K4 : Hid (¬ e.kind = 4) := k4
          clear k4
          by_cases k5 : e.kind = 5
          · have b5 : (e.kind == 5) = true := by rw [beq_iff_eq]; exact k5
            have K5 : Hid (e.kind = 5) := k5
            clear k5
            have htn := HF.out.tl
            have hs1 : ¬ 9223372036854775807 < 2 + e.txt.size := by omega
            have hs2 : ¬ 9223372036854775807 < 2 + e.txt.size + 1 := by omega
            have HR : Hid (bs [27, 93] ++ e.txt ++ bs [7] = bs res) := by
              unfold Hid
              rw [HE.out, if_neg K1.out, if_neg K2.out, if_neg K3.out, if_neg K4.out, if_pos K5.out]
              conv => lhs; rw [← bs_self e.txt]
              rw [bs_append, bs_append]
              simp
            rw [show bs [27, 93] = ⟨#[27, 93]⟩ from rfl, show bs [7] = ⟨#[7]⟩ from rfl] at HR
            clear htn
            go_enter Tryd.func31, Tryd.ntmps31
            go_wp2_with fail
            go_ret
            exact ⟨by rw [← HR.out]; rfl, HKB.out⟩
          · have b5 : (e.kind == 5) = false := by rw [beq_eq_false_iff_ne]; exact k5
            have K5 : Hid (¬ e.kind = 5) := k5
            clear k5
            go_enter Tryd.func31, Tryd.ntmps31
            go_wp2_with fail
            go_ret
            refine ⟨?_, HKB.out⟩
            rw [HE.out, if_neg K1.out, if_neg K2.out, if_neg K3.out, if_neg K4.out, if_neg K5.out]
            rfl
end Prs
end Go.Proofs.YtmgmdijhiplalaaDoor
