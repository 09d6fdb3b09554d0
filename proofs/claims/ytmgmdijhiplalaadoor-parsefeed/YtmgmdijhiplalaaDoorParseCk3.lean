/- The reference's Check of a state, walked: a text, and the ground. (Written by gen_parseck.py.) -/
import Derived.Test.YtmgmdijhiplalaaDoorParseCk1
namespace Go.Proofs.YtmgmdijhiplalaaDoor
open Go.ChangeShapes Go.WideShapes Go.ChangeAt Go.RowKit
namespace Prs
set_option maxHeartbeats 8000000 in
set_option maxRecDepth 100000 in
theorem check_four (mark : Int) (mid : ByteArray) (ps : List Int) (txt left : ByteArray) (late : Bool) (pa : Option Addr) (pc : Nat) (w : World) (hm : mid.size ≤ 9223372036854775807) (htl : txt.size ≤ 9223372036854775807) :
    Calls Tryd.prog 7 #[.agg #[.int .i64 4, .int .u8 mark, .string mid, .slice pa ps.length pc, .string txt, .string left, .bool late]] w fun e w' => e = .returned (.bool (chk ⟨4, mark, mid, ps, txt, left, late⟩)) ∧ Below w.heap.size w w' := by
  have x0 := heap_alloc_new w (.cells #[.int .i64 4, .int .u8 mark, .string mid, .slice pa ps.length pc, .string txt, .string left, .bool late] 24)
  have kb : Below w.heap.size w (w.alloc (.cells #[.int .i64 4, .int .u8 mark, .string mid, .slice pa ps.length pc, .string txt, .string left, .bool late] 24)) := (Below.refl _ _).alloc (Nat.le_refl _) _
  have HTR := trim_any mid (w.alloc (.cells #[.int .i64 4, .int .u8 mark, .string mid, .slice pa ps.length pc, .string txt, .string left, .bool late] 24)) hm
  have hmo : midOk ⟨4, mark, mid, ps, txt, left, late⟩ = (decide (mid.size ≤ 2) && (⟨(Lib.trimS mid.data.toList midSet).toArray⟩ : ByteArray).toList.isEmpty) := by rw [trim_empty]; rfl
  obtain ⟨c0, c1, c2, c3, c4, c5, c6, cf⟩ := cells7 x0
  have HMO : Hid _ := hmo
  have HKB : Hid _ := kb
  have HX0 : Hid _ := x0
  clear x0 kb cf hmo
  generalize hC : chk ⟨4, mark, mid, ps, txt, left, late⟩ = C at *
  have HC : Hid (chk ⟨4, mark, mid, ps, txt, left, late⟩ = C) := hC
  clear hC
  by_cases hm2 : mid.size ≤ 2
  · have hm3 : (mid.size : Int) ≤ 2 := by omega
    generalize (⟨(Lib.trimS mid.data.toList midSet).toArray⟩ : ByteArray) = tm at HTR HMO
    have HM2 : Hid (midOk ⟨4, mark, mid, ps, txt, left, late⟩ = tm.toList.isEmpty) := by unfold Hid; rw [HMO.out, decide_eq_true hm2, Bool.true_and]
    go_enter Tryd.func7, Tryd.ntmps7
    go_wp2_with fail
    refine HTR.mono ?_
    rintro e W1 ⟨rfl, b1⟩
    have HB1 : Hid (Below w.heap.size w W1) := HKB.out.trans (b1.mono HKB.out.size)
    have HX1 : Hid (W1.heap[w.heap.size]? = _) := stay HX0.out b1
    obtain ⟨d0, d1, d2, d3, d4, d5, d6, df⟩ := cells7 (stay HX0.out b1)
    clear HTR c0 c1 c2 c3 c4 c5 c6 df b1
    go_upto_region 22 with fail
    go_loopg [161] txt.size (fun q i wr => ∃ k : Nat, k ≤ txt.size ∧ txt.size - k ≤ q ∧ i = .int .i64 k ∧ wr = W1 ∧ (txt.data.toList.drop k).all high = allB high txt)
    case atStart => exact ⟨0, by omega, by omega, rfl, rfl, rfl⟩
    case round =>
      obtain ⟨k, hk, hq, rfl, rfl, hz⟩ := hrel
      have HZ0 : Hid ((txt.data.toList.drop k).all high = allB high txt) := hz
      clear hz
      by_cases hlt : k < txt.size
      · have lt1 : ((k : Int) < (txt.size : Int)) := by omega
        have HY : Hid (allB high txt = (high txt[k] && (txt.data.toList.drop (k + 1)).all high)) := by
          unfold Hid
          rw [← HZ0.out, List.drop_eq_getElem_cons (by rw [Array.length_toList]; exact hlt), List.all_cons]
          rfl
        by_cases y0 : txt[k].toNat < 32
        · have y1 : ((txt[k].toNat : Int) < 32) := by omega
          have HR : Hid (false = C) := by
            unfold Hid
            rw [← HC.out]
            have h32 : high txt[k] = false := by unfold high; rw [decide_eq_false_iff_not]; omega
            have : allB high txt = false := by rw [HY.out, h32, Bool.false_and]
            simp [chk, this]
          go_wp2_with fail
          go_ret
          exact ⟨ret_bool HR.out, HB1.out⟩
        · have y1 : ¬ ((txt[k].toNat : Int) < 32) := by omega
          have h32 : high txt[k] = true := by unfold high; rw [decide_eq_true_eq]; omega
          have HY2 : Hid ((txt.data.toList.drop (k + 1)).all high = allB high txt) := by
            unfold Hid
            rw [HY.out, h32, Bool.true_and]
          clear HY h32
          go_wp2_with fail
          go_roundg (txt.size - (k + 1))
          case measure => omega
          case rel => exact ⟨k + 1, by omega, by omega, by go_num, rfl, HY2.out⟩
      · have lt1 : ¬ ((k : Int) < (txt.size : Int)) := by omega
        have HNO : Hid (allB high txt = true) := by
          unfold Hid
          rw [← HZ0.out, List.drop_eq_nil_of_le (by rw [Array.length_toList]; show txt.size ≤ k; omega)]
          rfl
        by_cases h64 : txt.size ≤ 64
        · have h65 : (txt.size : Int) ≤ 64 := by omega
          have HZ := zero_new [.y mark, .s mid, .l pa ps.length pc, .s left] wr 4 rfl (by omega)
          have HR : Hid (([.y mark, .s mid, .l pa ps.length pc, .s left] : List Zv).all Zv.z = C) := by
            unfold Hid
            rw [← HC.out]
            simp [chk, Zv.z, HNO.out, h64]
          generalize ([.y mark, .s mid, .l pa ps.length pc, .s left] : List Zv).all Zv.z = zb at HZ HR
          simp only [List.map, Zv.v] at HZ
          go_wp2_with fail
          refine HZ.mono ?_
          rintro e W2 ⟨rfl, b2⟩
          clear HZ d0 d1 d2 d3 d4 d5 d6
          go_wp2_with fail
          go_ret
          exact ⟨ret_bool HR.out, HB1.out.trans (b2.mono HB1.out.size)⟩
        · have h65 : ¬ (txt.size : Int) ≤ 64 := by omega
          have HR : Hid (false = C) := by
            unfold Hid
            rw [← HC.out]
            simp [chk, HNO.out, h64]
          go_wp2_with fail
          go_ret
          exact ⟨ret_bool HR.out, HB1.out⟩
  · have hm3 : ¬ (mid.size : Int) ≤ 2 := by omega
    have HM2 : Hid (midOk ⟨4, mark, mid, ps, txt, left, late⟩ = false) := by unfold Hid; rw [HMO.out, decide_eq_false hm2, Bool.false_and]
    obtain ⟨d0, d1, d2, d3, d4, d5, d6, df⟩ := cells7 HX0.out
    clear HTR c0 c1 c2 c3 c4 c5 c6 df
    go_enter Tryd.func7, Tryd.ntmps7
    go_upto_region 3 with fail
    obtain ⟨W1, hW1⟩ : ∃ W1, w.alloc (.cells #[.int .i64 4, .int .u8 mark, .string mid, .slice pa ps.length pc, .string txt, .string left, .bool late] 24) = W1 := ⟨_, rfl⟩
    rw [hW1] at HKB HX0 d0 d1 d2 d3 d4 d5 d6
    have HB1 : Hid (Below w.heap.size w W1) := HKB.out
    have HX1 : Hid (W1.heap[w.heap.size]? = _) := HX0.out
    have HW1 : Hid (_ = W1) := hW1
    rw [hW1]
    clear hW1 HKB HX0
    go_upto_region 22 with fail
    go_loopg [161] txt.size (fun q i wr => ∃ k : Nat, k ≤ txt.size ∧ txt.size - k ≤ q ∧ i = .int .i64 k ∧ wr = W1 ∧ (txt.data.toList.drop k).all high = allB high txt)
    case atStart => exact ⟨0, by omega, by omega, rfl, rfl, rfl⟩
    case round =>
      obtain ⟨k, hk, hq, rfl, rfl, hz⟩ := hrel
      have HZ0 : Hid ((txt.data.toList.drop k).all high = allB high txt) := hz
      clear hz
      by_cases hlt : k < txt.size
      · have lt1 : ((k : Int) < (txt.size : Int)) := by omega
        have HY : Hid (allB high txt = (high txt[k] && (txt.data.toList.drop (k + 1)).all high)) := by
          unfold Hid
          rw [← HZ0.out, List.drop_eq_getElem_cons (by rw [Array.length_toList]; exact hlt), List.all_cons]
          rfl
        by_cases y0 : txt[k].toNat < 32
        · have y1 : ((txt[k].toNat : Int) < 32) := by omega
          have HR : Hid (false = C) := by
            unfold Hid
            rw [← HC.out]
            have h32 : high txt[k] = false := by unfold high; rw [decide_eq_false_iff_not]; omega
            have : allB high txt = false := by rw [HY.out, h32, Bool.false_and]
            simp [chk, this]
          go_wp2_with fail
          go_ret
          exact ⟨ret_bool HR.out, HB1.out⟩
        · have y1 : ¬ ((txt[k].toNat : Int) < 32) := by omega
          have h32 : high txt[k] = true := by unfold high; rw [decide_eq_true_eq]; omega
          have HY2 : Hid ((txt.data.toList.drop (k + 1)).all high = allB high txt) := by
            unfold Hid
            rw [HY.out, h32, Bool.true_and]
          clear HY h32
          go_wp2_with fail
          go_roundg (txt.size - (k + 1))
          case measure => omega
          case rel => exact ⟨k + 1, by omega, by omega, by go_num, rfl, HY2.out⟩
      · have lt1 : ¬ ((k : Int) < (txt.size : Int)) := by omega
        have HNO : Hid (allB high txt = true) := by
          unfold Hid
          rw [← HZ0.out, List.drop_eq_nil_of_le (by rw [Array.length_toList]; show txt.size ≤ k; omega)]
          rfl
        by_cases h64 : txt.size ≤ 64
        · have h65 : (txt.size : Int) ≤ 64 := by omega
          have HZ := zero_new [.y mark, .s mid, .l pa ps.length pc, .s left] wr 4 rfl (by omega)
          have HR : Hid (([.y mark, .s mid, .l pa ps.length pc, .s left] : List Zv).all Zv.z = C) := by
            unfold Hid
            rw [← HC.out]
            simp [chk, Zv.z, HNO.out, h64]
          generalize ([.y mark, .s mid, .l pa ps.length pc, .s left] : List Zv).all Zv.z = zb at HZ HR
          simp only [List.map, Zv.v] at HZ
          go_wp2_with fail
          refine HZ.mono ?_
          rintro e W2 ⟨rfl, b2⟩
          clear HZ d0 d1 d2 d3 d4 d5 d6
          go_wp2_with fail
          go_ret
          exact ⟨ret_bool HR.out, HB1.out.trans (b2.mono HB1.out.size)⟩
        · have h65 : ¬ (txt.size : Int) ≤ 64 := by omega
          have HR : Hid (false = C) := by
            unfold Hid
            rw [← HC.out]
            simp [chk, HNO.out, h64]
          go_wp2_with fail
          go_ret
          exact ⟨ret_bool HR.out, HB1.out⟩
set_option maxHeartbeats 8000000 in
set_option maxRecDepth 100000 in
theorem check_zero (mark : Int) (mid : ByteArray) (ps : List Int) (txt left : ByteArray) (late : Bool) (pa : Option Addr) (pc : Nat) (w : World) (hm : mid.size ≤ 9223372036854775807) (hT : Tabs w)  :
    Calls Tryd.prog 7 #[.agg #[.int .i64 0, .int .u8 mark, .string mid, .slice pa ps.length pc, .string txt, .string left, .bool late]] w fun e w' => e = .returned (.bool (chk ⟨0, mark, mid, ps, txt, left, late⟩)) ∧ Below w.heap.size w w' := by
  have x0 := heap_alloc_new w (.cells #[.int .i64 0, .int .u8 mark, .string mid, .slice pa ps.length pc, .string txt, .string left, .bool late] 24)
  have kb : Below w.heap.size w (w.alloc (.cells #[.int .i64 0, .int .u8 mark, .string mid, .slice pa ps.length pc, .string txt, .string left, .bool late] 24)) := (Below.refl _ _).alloc (Nat.le_refl _) _
  have HTR := trim_any mid (w.alloc (.cells #[.int .i64 0, .int .u8 mark, .string mid, .slice pa ps.length pc, .string txt, .string left, .bool late] 24)) hm
  have hmo : midOk ⟨0, mark, mid, ps, txt, left, late⟩ = (decide (mid.size ≤ 2) && (⟨(Lib.trimS mid.data.toList midSet).toArray⟩ : ByteArray).toList.isEmpty) := by rw [trim_empty]; rfl
  obtain ⟨c0, c1, c2, c3, c4, c5, c6, cf⟩ := cells7 x0
  have HMO : Hid _ := hmo
  have HKB : Hid _ := kb
  have HX0 : Hid _ := x0
  clear x0 kb cf hmo
  have HT : Hid (Tabs w) := hT
  clear hT
  generalize hC : chk ⟨0, mark, mid, ps, txt, left, late⟩ = C at *
  have HC : Hid (chk ⟨0, mark, mid, ps, txt, left, late⟩ = C) := hC
  clear hC
  by_cases hm2 : mid.size ≤ 2
  · have hm3 : (mid.size : Int) ≤ 2 := by omega
    generalize (⟨(Lib.trimS mid.data.toList midSet).toArray⟩ : ByteArray) = tm at HTR HMO
    have HM2 : Hid (midOk ⟨0, mark, mid, ps, txt, left, late⟩ = tm.toList.isEmpty) := by unfold Hid; rw [HMO.out, decide_eq_true hm2, Bool.true_and]
    go_enter Tryd.func7, Tryd.ntmps7
    go_wp2_with fail
    refine HTR.mono ?_
    rintro e W1 ⟨rfl, b1⟩
    have HB1 : Hid (Below w.heap.size w W1) := HKB.out.trans (b1.mono HKB.out.size)
    have HX1 : Hid (W1.heap[w.heap.size]? = _) := stay HX0.out b1
    obtain ⟨d0, d1, d2, d3, d4, d5, d6, df⟩ := cells7 (stay HX0.out b1)
    clear HTR c0 c1 c2 c3 c4 c5 c6 df b1
    by_cases hz : left.size = 0
    · have he : left.toList.isEmpty = true := by rw [empty_size, decide_eq_true hz]
      have HOK : Hid ((decide (left.size = 0) || (decide (128 ≤ (left.get! 0).toNat) && !full left)) = true) := by unfold Hid; rw [decide_eq_true hz, Bool.true_or]
      have HZ := zero_new [.y mark, .s mid, .l pa ps.length pc, .s txt, .t late] W1 5 rfl (by omega)
      have HR : Hid (([.y mark, .s mid, .l pa ps.length pc, .s txt, .t late] : List Zv).all Zv.z = C) := by
        unfold Hid
        rw [← HC.out]
        simp [chk, Zv.z, hz]
      generalize ([.y mark, .s mid, .l pa ps.length pc, .s txt, .t late] : List Zv).all Zv.z = zb at HZ HR
      simp only [List.map, Zv.v] at HZ
      go_wp2_with fail
      refine HZ.mono ?_
      rintro e W2 ⟨rfl, b2⟩
      clear HZ d0 d1 d2 d3 d4 d5 d6
      go_wp2_with fail
      go_ret
      exact ⟨ret_bool HR.out, HB1.out.trans (b2.mono HB1.out.size)⟩
    · have he : left.toList.isEmpty = false := by rw [empty_size, decide_eq_false hz]
      have hpos : (0 : Int) < (left.size : Int) := by omega
      have hpos2 : 0 < left.size := by omega
      obtain ⟨x0, hx0⟩ : ∃ x0, left.get! 0 = x0 := ⟨_, rfl⟩
      have hs0 : left[0]'(by omega) = x0 := by rw [← hx0]; exact (Utf8W.get!_of_lt left 0 (by omega)).symm
      have HX : Hid (left.get! 0 = x0) := hx0
      clear hx0
      by_cases h128 : 128 ≤ x0.toNat
      · have h129 : (128 : Int) ≤ (x0.toNat : Int) := by omega
        have HCV := Lib.run_convert_string_bytes (P := Tryd.prog) W1 9 52 5 left und_string und_bytes und_byte
        have hbV : Below W1.heap.size W1 (Lib.bytesWorld W1 5 left) := ⟨rfl, rfl, rfl, by rw [Lib.bytesWorld_size]; omega, fun j hj => Lib.bytesWorld_at_old W1 5 left j hj⟩
        have hcV : ∀ j (h : j < left.size), (Lib.bytesWorld W1 5 left).cell? ⟨W1.heap.size, j, none⟩ = some (.int .u8 (left[j].toNat : Int)) := fun j h => by
          rw [Lib.bytesWorld_cell W1 5 left j h, List.getD_eq_getElem?_getD, List.getElem?_eq_getElem (by rw [Array.length_toList]; exact h)]
          rfl
        have HKV : Hid (Below w.heap.size w (Lib.bytesWorld W1 5 left)) := HB1.out.trans (hbV.mono HB1.out.size)
        have HXV : Hid ((Lib.bytesWorld W1 5 left).heap[w.heap.size]? = _) := stay HX1.out hbV
        generalize Lib.bytesWorld W1 5 left = V at HCV hbV hcV HKV HXV
        generalize grownCap W1 left.size 0 5 = gc at HCV
        have HFR := fullRuneB_any left W1.heap.size gc V hcV (HT.out.next HKV.out)
        clear hbV hcV
        cases hfu : full left with
        | false =>
          rw [hfu] at HFR
          have HOK : Hid (chk ⟨0, mark, mid, ps, txt, left, late⟩ = ([.y mark, .s mid, .l pa ps.length pc, .s txt, .t late] : List Zv).all Zv.z) := by
            unfold Hid
            simp [chk, Zv.z, hz, HX.out, h128, hfu]
          go_wp2_with fail
          refine HFR.mono ?_
          rintro e W2 ⟨rfl, b2⟩
          have HB2 : Hid (Below w.heap.size w W2) := HKV.out.trans (b2.mono HKV.out.size)
          obtain ⟨e0, e1, e2, e3, e4, e5, e6, ef⟩ := cells7 (stay HXV.out b2)
          have HZ := zero_new [.y mark, .s mid, .l pa ps.length pc, .s txt, .t late] W2 5 rfl (by omega)
          have HR : Hid (([.y mark, .s mid, .l pa ps.length pc, .s txt, .t late] : List Zv).all Zv.z = C) := HOK.out.symm.trans HC.out
          generalize ([.y mark, .s mid, .l pa ps.length pc, .s txt, .t late] : List Zv).all Zv.z = zb at HZ HR
          simp only [List.map, Zv.v] at HZ
          clear d0 d1 d2 d3 d4 d5 d6 b2 ef HFR HCV
          go_wp2_with fail
          refine HZ.mono ?_
          rintro e W3 ⟨rfl, b3⟩
          clear HZ e0 e1 e2 e3 e4 e5 e6
          go_wp2_with fail
          go_ret
          exact ⟨ret_bool HR.out, HB2.out.trans (b3.mono HB2.out.size)⟩
        | true =>
          rw [hfu] at HFR
          have HR : Hid (false = C) := by
            unfold Hid
            rw [← HC.out]
            simp [chk, hz, hfu]
          go_wp2_with fail
          refine HFR.mono ?_
          rintro e W2 ⟨rfl, b2⟩
          clear d0 d1 d2 d3 d4 d5 d6 HCV
          go_wp2_with fail
          go_ret
          exact ⟨ret_bool HR.out, HKV.out.trans (b2.mono HKV.out.size)⟩
      · have h129 : ¬ (128 : Int) ≤ (x0.toNat : Int) := by omega
        have HR : Hid (false = C) := by
          unfold Hid
          rw [← HC.out]
          simp [chk, hz, HX.out, h128]
        go_wp2_with fail
        go_ret
        exact ⟨ret_bool HR.out, HB1.out⟩
  · have hm3 : ¬ (mid.size : Int) ≤ 2 := by omega
    have HM2 : Hid (midOk ⟨0, mark, mid, ps, txt, left, late⟩ = false) := by unfold Hid; rw [HMO.out, decide_eq_false hm2, Bool.false_and]
    obtain ⟨d0, d1, d2, d3, d4, d5, d6, df⟩ := cells7 HX0.out
    clear HTR c0 c1 c2 c3 c4 c5 c6 df
    go_enter Tryd.func7, Tryd.ntmps7
    go_upto_region 3 with fail
    obtain ⟨W1, hW1⟩ : ∃ W1, w.alloc (.cells #[.int .i64 0, .int .u8 mark, .string mid, .slice pa ps.length pc, .string txt, .string left, .bool late] 24) = W1 := ⟨_, rfl⟩
    rw [hW1] at HKB HX0 d0 d1 d2 d3 d4 d5 d6
    have HB1 : Hid (Below w.heap.size w W1) := HKB.out
    have HX1 : Hid (W1.heap[w.heap.size]? = _) := HX0.out
    have HW1 : Hid (_ = W1) := hW1
    rw [hW1]
    clear hW1 HKB HX0
    by_cases hz : left.size = 0
    · have he : left.toList.isEmpty = true := by rw [empty_size, decide_eq_true hz]
      have HOK : Hid ((decide (left.size = 0) || (decide (128 ≤ (left.get! 0).toNat) && !full left)) = true) := by unfold Hid; rw [decide_eq_true hz, Bool.true_or]
      have HZ := zero_new [.y mark, .s mid, .l pa ps.length pc, .s txt, .t late] W1 5 rfl (by omega)
      have HR : Hid (([.y mark, .s mid, .l pa ps.length pc, .s txt, .t late] : List Zv).all Zv.z = C) := by
        unfold Hid
        rw [← HC.out]
        simp [chk, Zv.z, hz]
      generalize ([.y mark, .s mid, .l pa ps.length pc, .s txt, .t late] : List Zv).all Zv.z = zb at HZ HR
      simp only [List.map, Zv.v] at HZ
      go_wp2_with fail
      refine HZ.mono ?_
      rintro e W2 ⟨rfl, b2⟩
      clear HZ d0 d1 d2 d3 d4 d5 d6
      go_wp2_with fail
      go_ret
      exact ⟨ret_bool HR.out, HB1.out.trans (b2.mono HB1.out.size)⟩
    · have he : left.toList.isEmpty = false := by rw [empty_size, decide_eq_false hz]
      have hpos : (0 : Int) < (left.size : Int) := by omega
      have hpos2 : 0 < left.size := by omega
      obtain ⟨x0, hx0⟩ : ∃ x0, left.get! 0 = x0 := ⟨_, rfl⟩
      have hs0 : left[0]'(by omega) = x0 := by rw [← hx0]; exact (Utf8W.get!_of_lt left 0 (by omega)).symm
      have HX : Hid (left.get! 0 = x0) := hx0
      clear hx0
      by_cases h128 : 128 ≤ x0.toNat
      · have h129 : (128 : Int) ≤ (x0.toNat : Int) := by omega
        have HCV := Lib.run_convert_string_bytes (P := Tryd.prog) W1 9 52 5 left und_string und_bytes und_byte
        have hbV : Below W1.heap.size W1 (Lib.bytesWorld W1 5 left) := ⟨rfl, rfl, rfl, by rw [Lib.bytesWorld_size]; omega, fun j hj => Lib.bytesWorld_at_old W1 5 left j hj⟩
        have hcV : ∀ j (h : j < left.size), (Lib.bytesWorld W1 5 left).cell? ⟨W1.heap.size, j, none⟩ = some (.int .u8 (left[j].toNat : Int)) := fun j h => by
          rw [Lib.bytesWorld_cell W1 5 left j h, List.getD_eq_getElem?_getD, List.getElem?_eq_getElem (by rw [Array.length_toList]; exact h)]
          rfl
        have HKV : Hid (Below w.heap.size w (Lib.bytesWorld W1 5 left)) := HB1.out.trans (hbV.mono HB1.out.size)
        have HXV : Hid ((Lib.bytesWorld W1 5 left).heap[w.heap.size]? = _) := stay HX1.out hbV
        generalize Lib.bytesWorld W1 5 left = V at HCV hbV hcV HKV HXV
        generalize grownCap W1 left.size 0 5 = gc at HCV
        have HFR := fullRuneB_any left W1.heap.size gc V hcV (HT.out.next HKV.out)
        clear hbV hcV
        cases hfu : full left with
        | false =>
          rw [hfu] at HFR
          have HOK : Hid (chk ⟨0, mark, mid, ps, txt, left, late⟩ = ([.y mark, .s mid, .l pa ps.length pc, .s txt, .t late] : List Zv).all Zv.z) := by
            unfold Hid
            simp [chk, Zv.z, hz, HX.out, h128, hfu]
          go_wp2_with fail
          refine HFR.mono ?_
          rintro e W2 ⟨rfl, b2⟩
          have HB2 : Hid (Below w.heap.size w W2) := HKV.out.trans (b2.mono HKV.out.size)
          obtain ⟨e0, e1, e2, e3, e4, e5, e6, ef⟩ := cells7 (stay HXV.out b2)
          have HZ := zero_new [.y mark, .s mid, .l pa ps.length pc, .s txt, .t late] W2 5 rfl (by omega)
          have HR : Hid (([.y mark, .s mid, .l pa ps.length pc, .s txt, .t late] : List Zv).all Zv.z = C) := HOK.out.symm.trans HC.out
          generalize ([.y mark, .s mid, .l pa ps.length pc, .s txt, .t late] : List Zv).all Zv.z = zb at HZ HR
          simp only [List.map, Zv.v] at HZ
          clear d0 d1 d2 d3 d4 d5 d6 b2 ef HFR HCV
          go_wp2_with fail
          refine HZ.mono ?_
          rintro e W3 ⟨rfl, b3⟩
          clear HZ e0 e1 e2 e3 e4 e5 e6
          go_wp2_with fail
          go_ret
          exact ⟨ret_bool HR.out, HB2.out.trans (b3.mono HB2.out.size)⟩
        | true =>
          rw [hfu] at HFR
          have HR : Hid (false = C) := by
            unfold Hid
            rw [← HC.out]
            simp [chk, hz, hfu]
          go_wp2_with fail
          refine HFR.mono ?_
          rintro e W2 ⟨rfl, b2⟩
          clear d0 d1 d2 d3 d4 d5 d6 HCV
          go_wp2_with fail
          go_ret
          exact ⟨ret_bool HR.out, HKV.out.trans (b2.mono HKV.out.size)⟩
      · have h129 : ¬ (128 : Int) ≤ (x0.toNat : Int) := by omega
        have HR : Hid (false = C) := by
          unfold Hid
          rw [← HC.out]
          simp [chk, hz, HX.out, h128]
        go_wp2_with fail
        go_ret
        exact ⟨ret_bool HR.out, HB1.out⟩
end Prs
end Go.Proofs.YtmgmdijhiplalaaDoor
