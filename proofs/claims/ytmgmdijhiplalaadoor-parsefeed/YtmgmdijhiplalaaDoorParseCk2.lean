/- The reference's Check of a state, walked: commands and other states. (Written by gen_parseck.py.) -/
import Derived.Test.YtmgmdijhiplalaaDoorParseCk1
namespace Go.Proofs.YtmgmdijhiplalaaDoor
open Go.ChangeShapes Go.WideShapes Go.ChangeAt Go.RowKit
namespace Prs
set_option maxHeartbeats 8000000 in
set_option maxRecDepth 100000 in
theorem check_three (mark : Int) (mid : ByteArray) (ps : List Int) (txt left : ByteArray) (late : Bool) (pa : Option Addr) (pc : Nat) (w : World) (hm : mid.size ≤ 9223372036854775807) (hI : IntsV w (.slice pa ps.length pc) ps) (hmk : 0 ≤ mark ∧ mark ≤ 255) (hpl : ps.length ≤ 9223372036854775807) :
    Calls Tryd.prog 7 #[.agg #[.int .i64 3, .int .u8 mark, .string mid, .slice pa ps.length pc, .string txt, .string left, .bool late]] w fun e w' => e = .returned (.bool (chk ⟨3, mark, mid, ps, txt, left, late⟩)) ∧ Below w.heap.size w w' := by
  have x0 := heap_alloc_new w (.cells #[.int .i64 3, .int .u8 mark, .string mid, .slice pa ps.length pc, .string txt, .string left, .bool late] 24)
  have kb : Below w.heap.size w (w.alloc (.cells #[.int .i64 3, .int .u8 mark, .string mid, .slice pa ps.length pc, .string txt, .string left, .bool late] 24)) := (Below.refl _ _).alloc (Nat.le_refl _) _
  have HTR := trim_any mid (w.alloc (.cells #[.int .i64 3, .int .u8 mark, .string mid, .slice pa ps.length pc, .string txt, .string left, .bool late] 24)) hm
  have hmo : midOk ⟨3, mark, mid, ps, txt, left, late⟩ = (decide (mid.size ≤ 2) && (⟨(Lib.trimS mid.data.toList midSet).toArray⟩ : ByteArray).toList.isEmpty) := by rw [trim_empty]; rfl
  obtain ⟨c0, c1, c2, c3, c4, c5, c6, cf⟩ := cells7 x0
  have HMO : Hid _ := hmo
  have HKB : Hid _ := kb
  have HX0 : Hid _ := x0
  clear x0 kb cf hmo
  have HI : Hid (IntsV w (.slice pa ps.length pc) ps) := hI
  have HMK : Hid (0 ≤ mark ∧ mark ≤ 255) := hmk
  clear hI hmk
  generalize hC : chk ⟨3, mark, mid, ps, txt, left, late⟩ = C at *
  have HC : Hid (chk ⟨3, mark, mid, ps, txt, left, late⟩ = C) := hC
  clear hC
  by_cases hm2 : mid.size ≤ 2
  · have hm3 : (mid.size : Int) ≤ 2 := by omega
    generalize (⟨(Lib.trimS mid.data.toList midSet).toArray⟩ : ByteArray) = tm at HTR HMO
    have HM2 : Hid (midOk ⟨3, mark, mid, ps, txt, left, late⟩ = tm.toList.isEmpty) := by unfold Hid; rw [HMO.out, decide_eq_true hm2, Bool.true_and]
    go_enter Tryd.func7, Tryd.ntmps7
    go_wp2_with fail
    refine HTR.mono ?_
    rintro e W1 ⟨rfl, b1⟩
    have HB1 : Hid (Below w.heap.size w W1) := HKB.out.trans (b1.mono HKB.out.size)
    have HX1 : Hid (W1.heap[w.heap.size]? = _) := stay HX0.out b1
    obtain ⟨d0, d1, d2, d3, d4, d5, d6, df⟩ := cells7 (stay HX0.out b1)
    clear HTR c0 c1 c2 c3 c4 c5 c6 df b1
    go_upto_region 14 with fail
    go_loopg [117] ps.length (fun q i wr => ∃ k : Nat, k ≤ ps.length ∧ ps.length - k ≤ q ∧ i = .int .i64 k ∧ wr = W1 ∧ anyNo (ps.drop k) = anyNo ps)
    case atStart => exact ⟨0, by omega, by omega, rfl, rfl, rfl⟩
    case round =>
      obtain ⟨k, hk, hq, rfl, rfl, hz⟩ := hrel
      have HZ0 : Hid (anyNo (ps.drop k) = anyNo ps) := hz
      clear hz
      by_cases hlt : k < ps.length
      · have lt1 : ((k : Int) < (ps.length : Int)) := by omega
        rcases HI.out with ⟨he, -⟩ | ⟨b, o, c, hvv, hc⟩
        · rw [he] at hlt
          exact absurd hlt (by simp)
        injection hvv with hvv1 hvv2 hvv3
        subst hvv1 hvv3
        have q0 : wr.cell? ⟨b, o + k, none⟩ = some (.int .i64 (ps.getD k 0)) := cell_stay HB1.out (ints_cell hc k hlt)
        have HD : Hid (ps.drop k = ps.getD k 0 :: ps.drop (k + 1)) := drop_consC ps k hlt
        generalize ps.getD k 0 = y at *
        have HY : Hid (anyNo ps = (noParam y || anyNo (ps.drop (k + 1)))) := by
          unfold Hid
          rw [← HZ0.out, HD.out]
          rfl
        clear hc
        by_cases y0 : y < -1
        · have HR : Hid (false = C) := by
            unfold Hid
            rw [← HC.out]
            have : anyNo ps = true := by rw [HY.out]; simp [noParam, y0]
            simp [chk, this]
          go_wp2_with fail
          go_ret
          exact ⟨ret_bool HR.out, HB1.out⟩
        · by_cases y1 : 9999 < y
          · have HR : Hid (false = C) := by
              unfold Hid
              rw [← HC.out]
              have : anyNo ps = true := by rw [HY.out]; simp [noParam, y1]
              simp [chk, this]
            go_wp2_with fail
            go_ret
            exact ⟨ret_bool HR.out, HB1.out⟩
          · have HY2 : Hid (anyNo (ps.drop (k + 1)) = anyNo ps) := by
              unfold Hid
              rw [HY.out, show noParam y = false by unfold noParam; rw [decide_eq_false y0, decide_eq_false y1]; rfl, Bool.false_or]
            clear HY
            go_wp2_with fail
            go_roundg (ps.length - (k + 1))
            case measure => omega
            case rel => exact ⟨k + 1, by omega, by omega, by go_num, rfl, HY2.out⟩
      · have lt1 : ¬ ((k : Int) < (ps.length : Int)) := by omega
        have HNO : Hid (anyNo ps = false) := by
          unfold Hid
          rw [← HZ0.out, List.drop_eq_nil_of_le (by omega)]
          rfl
        cases hb : tm.toList.isEmpty with
        | false =>
          rw [hb] at HM2
          have HR : Hid (false = C) := by
            unfold Hid
            rw [← HC.out]
            simp [chk, HM2.out, HNO.out]
          go_wp2_with fail
          go_ret
          exact ⟨ret_bool HR.out, HB1.out⟩
        | true =>
          rw [hb] at HM2
          by_cases hl16 : ps.length ≤ 16
          · have hl17 : (ps.length : Int) ≤ 16 := by omega
            have hcv := byte_convC mark HMK.out.1 HMK.out.2 wr
            have HCT := Tryd.strings_Contains_one ⟨#[0, 60, 61, 62, 63]⟩ mark.toNat.toUInt8 (wr.alloc (.cells #[.int .u8 mark] 5))
            rw [show (ByteArray.data ⟨#[0, 60, 61, 62, 63]⟩).toList = [0, 60, 61, 62, 63] from rfl, mark_in mark HMK.out.1 HMK.out.2] at HCT
            have hon : one mark.toNat.toUInt8 = ⟨#[mark.toNat.toUInt8]⟩ := rfl
            rw [hon] at hcv
            clear hon
            obtain ⟨e0, e1, e2, e3, e4, e5, e6, ef⟩ := cells7 (heap_box wr (.cells #[.int .u8 mark] 5) HX1.out)
            have HZ := zero_new [.s txt, .t late, .s left] (wr.alloc (.cells #[.int .u8 mark] 5)) 3 rfl (by omega)
            simp only [List.map, Zv.v, World.size_alloc] at HZ
            cases hmk : (decide (mark = 0) || isMark mark) with
            | false =>
              rw [hmk] at HCT
              have HR : Hid (false = C) := by
                unfold Hid
                rw [← HC.out]
                simp only [chk]
                rw [hmk]
                simp
              go_wp2_with fail
              refine HCT.mono ?_
              rintro e W2 ⟨rfl, e3'⟩
              rw [e3']
              clear e3' W2
              go_wp2_with fail
              go_ret
              exact ⟨ret_bool HR.out, HB1.out.alloc HB1.out.size _⟩
            | true =>
              rw [hmk] at HCT
              have HR : Hid (([.s txt, .t late, .s left] : List Zv).all Zv.z = C) := by
                unfold Hid
                rw [← HC.out]
                simp only [chk]
                rw [hmk]
                simp [Zv.z, HNO.out, HM2.out, hl16]
              generalize ([.s txt, .t late, .s left] : List Zv).all Zv.z = zb at HZ HR
              go_wp2_with fail
              refine HCT.mono ?_
              rintro e W2 ⟨rfl, e3'⟩
              rw [e3']
              clear e3' W2
              go_wp2_with fail
              refine HZ.mono ?_
              rintro e W2 ⟨rfl, b2⟩
              clear HZ d0 d1 d2 d3 d4 d5 d6 e0 e1 e2 e3 e4 e5 e6
              go_wp2_with fail
              go_ret
              exact ⟨ret_bool HR.out, (HB1.out.alloc HB1.out.size _).trans (b2.mono (by have := HB1.out.size; omega))⟩
          · have hl17 : ¬ (ps.length : Int) ≤ 16 := by omega
            have HR : Hid (false = C) := by
              unfold Hid
              rw [← HC.out]
              simp [chk, HM2.out, HNO.out, hl16]
            go_wp2_with fail
            go_ret
            exact ⟨ret_bool HR.out, HB1.out⟩
  · have hm3 : ¬ (mid.size : Int) ≤ 2 := by omega
    have HM2 : Hid (midOk ⟨3, mark, mid, ps, txt, left, late⟩ = false) := by unfold Hid; rw [HMO.out, decide_eq_false hm2, Bool.false_and]
    obtain ⟨d0, d1, d2, d3, d4, d5, d6, df⟩ := cells7 HX0.out
    clear HTR c0 c1 c2 c3 c4 c5 c6 df
    go_enter Tryd.func7, Tryd.ntmps7
    go_upto_region 3 with fail
    obtain ⟨W1, hW1⟩ : ∃ W1, w.alloc (.cells #[.int .i64 3, .int .u8 mark, .string mid, .slice pa ps.length pc, .string txt, .string left, .bool late] 24) = W1 := ⟨_, rfl⟩
    rw [hW1] at HKB HX0 d0 d1 d2 d3 d4 d5 d6
    have HB1 : Hid (Below w.heap.size w W1) := HKB.out
    have HX1 : Hid (W1.heap[w.heap.size]? = _) := HX0.out
    have HW1 : Hid (_ = W1) := hW1
    rw [hW1]
    clear hW1 HKB HX0
    go_upto_region 14 with fail
    go_loopg [117] ps.length (fun q i wr => ∃ k : Nat, k ≤ ps.length ∧ ps.length - k ≤ q ∧ i = .int .i64 k ∧ wr = W1 ∧ anyNo (ps.drop k) = anyNo ps)
    case atStart => exact ⟨0, by omega, by omega, rfl, rfl, rfl⟩
    case round =>
      obtain ⟨k, hk, hq, rfl, rfl, hz⟩ := hrel
      have HZ0 : Hid (anyNo (ps.drop k) = anyNo ps) := hz
      clear hz
      by_cases hlt : k < ps.length
      · have lt1 : ((k : Int) < (ps.length : Int)) := by omega
        rcases HI.out with ⟨he, -⟩ | ⟨b, o, c, hvv, hc⟩
        · rw [he] at hlt
          exact absurd hlt (by simp)
        injection hvv with hvv1 hvv2 hvv3
        subst hvv1 hvv3
        have q0 : wr.cell? ⟨b, o + k, none⟩ = some (.int .i64 (ps.getD k 0)) := cell_stay HB1.out (ints_cell hc k hlt)
        have HD : Hid (ps.drop k = ps.getD k 0 :: ps.drop (k + 1)) := drop_consC ps k hlt
        generalize ps.getD k 0 = y at *
        have HY : Hid (anyNo ps = (noParam y || anyNo (ps.drop (k + 1)))) := by
          unfold Hid
          rw [← HZ0.out, HD.out]
          rfl
        clear hc
        by_cases y0 : y < -1
        · have HR : Hid (false = C) := by
            unfold Hid
            rw [← HC.out]
            have : anyNo ps = true := by rw [HY.out]; simp [noParam, y0]
            simp [chk, this]
          go_wp2_with fail
          go_ret
          exact ⟨ret_bool HR.out, HB1.out⟩
        · by_cases y1 : 9999 < y
          · have HR : Hid (false = C) := by
              unfold Hid
              rw [← HC.out]
              have : anyNo ps = true := by rw [HY.out]; simp [noParam, y1]
              simp [chk, this]
            go_wp2_with fail
            go_ret
            exact ⟨ret_bool HR.out, HB1.out⟩
          · have HY2 : Hid (anyNo (ps.drop (k + 1)) = anyNo ps) := by
              unfold Hid
              rw [HY.out, show noParam y = false by unfold noParam; rw [decide_eq_false y0, decide_eq_false y1]; rfl, Bool.false_or]
            clear HY
            go_wp2_with fail
            go_roundg (ps.length - (k + 1))
            case measure => omega
            case rel => exact ⟨k + 1, by omega, by omega, by go_num, rfl, HY2.out⟩
      · have lt1 : ¬ ((k : Int) < (ps.length : Int)) := by omega
        have HNO : Hid (anyNo ps = false) := by
          unfold Hid
          rw [← HZ0.out, List.drop_eq_nil_of_le (by omega)]
          rfl
        have HR : Hid (false = C) := by
          unfold Hid
          rw [← HC.out]
          simp [chk, HM2.out, HNO.out]
        go_wp2_with fail
        go_ret
        exact ⟨ret_bool HR.out, HB1.out⟩
set_option maxHeartbeats 8000000 in
set_option maxRecDepth 100000 in
theorem check_other (mark : Int) (mid : ByteArray) (ps : List Int) (txt left : ByteArray) (late : Bool) (pa : Option Addr) (pc : Nat) (w : World) (hm : mid.size ≤ 9223372036854775807) (a : Int) (ha : a < 0 ∨ 5 < a) :
    Calls Tryd.prog 7 #[.agg #[.int .i64 a, .int .u8 mark, .string mid, .slice pa ps.length pc, .string txt, .string left, .bool late]] w fun e w' => e = .returned (.bool (chk ⟨a, mark, mid, ps, txt, left, late⟩)) ∧ Below w.heap.size w w' := by
  have x0 := heap_alloc_new w (.cells #[.int .i64 a, .int .u8 mark, .string mid, .slice pa ps.length pc, .string txt, .string left, .bool late] 24)
  have kb : Below w.heap.size w (w.alloc (.cells #[.int .i64 a, .int .u8 mark, .string mid, .slice pa ps.length pc, .string txt, .string left, .bool late] 24)) := (Below.refl _ _).alloc (Nat.le_refl _) _
  have HTR := trim_any mid (w.alloc (.cells #[.int .i64 a, .int .u8 mark, .string mid, .slice pa ps.length pc, .string txt, .string left, .bool late] 24)) hm
  have hmo : midOk ⟨a, mark, mid, ps, txt, left, late⟩ = (decide (mid.size ≤ 2) && (⟨(Lib.trimS mid.data.toList midSet).toArray⟩ : ByteArray).toList.isEmpty) := by rw [trim_empty]; rfl
  obtain ⟨c0, c1, c2, c3, c4, c5, c6, cf⟩ := cells7 x0
  have HMO : Hid _ := hmo
  have HKB : Hid _ := kb
  have HX0 : Hid _ := x0
  clear x0 kb cf hmo
  have a0 : (a == 0) = false := by rw [beq_eq_false_iff_ne]; omega
  have a1 : (a == 1) = false := by rw [beq_eq_false_iff_ne]; omega
  have a2 : (a == 2) = false := by rw [beq_eq_false_iff_ne]; omega
  have a3 : (a == 3) = false := by rw [beq_eq_false_iff_ne]; omega
  have a4 : (a == 4) = false := by rw [beq_eq_false_iff_ne]; omega
  have a5 : (a == 5) = false := by rw [beq_eq_false_iff_ne]; omega
  have HA : Hid (a < 0 ∨ 5 < a) := ha
  clear ha
  generalize hC : chk ⟨a, mark, mid, ps, txt, left, late⟩ = C at *
  have HC : Hid (chk ⟨a, mark, mid, ps, txt, left, late⟩ = C) := hC
  clear hC
  by_cases hm2 : mid.size ≤ 2
  · have hm3 : (mid.size : Int) ≤ 2 := by omega
    generalize (⟨(Lib.trimS mid.data.toList midSet).toArray⟩ : ByteArray) = tm at HTR HMO
    have HM2 : Hid (midOk ⟨a, mark, mid, ps, txt, left, late⟩ = tm.toList.isEmpty) := by unfold Hid; rw [HMO.out, decide_eq_true hm2, Bool.true_and]
    go_enter Tryd.func7, Tryd.ntmps7
    go_wp2_with fail
    refine HTR.mono ?_
    rintro e W1 ⟨rfl, b1⟩
    have HB1 : Hid (Below w.heap.size w W1) := HKB.out.trans (b1.mono HKB.out.size)
    have HX1 : Hid (W1.heap[w.heap.size]? = _) := stay HX0.out b1
    obtain ⟨d0, d1, d2, d3, d4, d5, d6, df⟩ := cells7 (stay HX0.out b1)
    clear HTR c0 c1 c2 c3 c4 c5 c6 df b1
    have HR : Hid (false = C) := by
      unfold Hid
      rw [← HC.out]
      have h := HA.out
      unfold chk
      rw [if_neg (by show ¬ a = 0; omega), if_neg (by show ¬ (a = 1 ∨ a = 5); omega), if_neg (by show ¬ a = 2; omega), if_neg (by show ¬ a = 3; omega), if_neg (by show ¬ a = 4; omega)]
    go_wp2_with fail
    go_ret
    exact ⟨ret_bool HR.out, HB1.out⟩
  · have hm3 : ¬ (mid.size : Int) ≤ 2 := by omega
    have HM2 : Hid (midOk ⟨a, mark, mid, ps, txt, left, late⟩ = false) := by unfold Hid; rw [HMO.out, decide_eq_false hm2, Bool.false_and]
    obtain ⟨d0, d1, d2, d3, d4, d5, d6, df⟩ := cells7 HX0.out
    clear HTR c0 c1 c2 c3 c4 c5 c6 df
    go_enter Tryd.func7, Tryd.ntmps7
    go_upto_region 3 with fail
    obtain ⟨W1, hW1⟩ : ∃ W1, w.alloc (.cells #[.int .i64 a, .int .u8 mark, .string mid, .slice pa ps.length pc, .string txt, .string left, .bool late] 24) = W1 := ⟨_, rfl⟩
    rw [hW1] at HKB HX0 d0 d1 d2 d3 d4 d5 d6
    have HB1 : Hid (Below w.heap.size w W1) := HKB.out
    have HX1 : Hid (W1.heap[w.heap.size]? = _) := HX0.out
    have HW1 : Hid (_ = W1) := hW1
    rw [hW1]
    clear hW1 HKB HX0
    have HR : Hid (false = C) := by
      unfold Hid
      rw [← HC.out]
      have h := HA.out
      unfold chk
      rw [if_neg (by show ¬ a = 0; omega), if_neg (by show ¬ (a = 1 ∨ a = 5); omega), if_neg (by show ¬ a = 2; omega), if_neg (by show ¬ a = 3; omega), if_neg (by show ¬ a = 4; omega)]
    go_wp2_with fail
    go_ret
    exact ⟨ret_bool HR.out, HB1.out⟩
end Prs
end Go.Proofs.YtmgmdijhiplalaaDoor
