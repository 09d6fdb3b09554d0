/- The reference's Check of a state, walked. (Written by gen_parseck.py.) -/
import Derived.Test.YtmgmdijhiplalaaDoorParseChk
import Derived.Lib.ConvBytes
namespace Go.Proofs.YtmgmdijhiplalaaDoor
open Go.ChangeShapes Go.WideShapes Go.ChangeAt Go.RowKit
namespace Prs
theorem trim_any (b : ByteArray) (w : World) (hs : b.size ≤ 9223372036854775807) : Calls Tryd.prog 21 #[.string b, .string ⟨#[32, 33, 34, 35, 36, 37, 38, 39, 40, 41, 42, 43, 44, 45, 46, 47]⟩] w fun e w' => e = .returned (.string ⟨(Lib.trimS b.data.toList midSet).toArray⟩) ∧ Below w.heap.size w w' :=
  Any.strings_Trim_laid Tryd.lays160 (by kernel_rfl) b ⟨#[32, 33, 34, 35, 36, 37, 38, 39, 40, 41, 42, 43, 44, 45, 46, 47]⟩ w hs (by decide) (ascii_of_all (by decide))
theorem trim_empty (b : ByteArray) : (⟨(Lib.trimS b.data.toList midSet).toArray⟩ : ByteArray).toList.isEmpty = allB isMid b := by
  rw [Bool.eq_iff_iff, ← trim_mid, List.isEmpty_iff, Lib.toList_data]
theorem zero_new (zs : List Zv) (W : World) (n : Nat) (hn : zs.length = n) (h100 : n ≤ 100) : Calls Tryd.prog 20 #[.slice (some ⟨W.heap.size, 0, none⟩) n n] (W.alloc (.cells (zs.map Zv.v).toArray 20)) fun e w' => e = .returned (.bool (zs.all Zv.z)) ∧ Below W.heap.size W w' := by
  subst hn
  refine (zero_any zs W.heap.size zs.length _ (fun j hj => ?_) h100).mono ?_
  · have h := cells_of_block (L := zs.map Zv.v) (heap_alloc_new W (.cells (zs.map Zv.v).toArray 20)) j zs[j].v (by rw [List.getElem?_map, List.getElem?_eq_getElem hj]; rfl)
    rw [show (⟨W.heap.size, 0, none⟩ : Addr).add j = ⟨W.heap.size, j, none⟩ by simp [Addr.add]; exact fun h => h.symm] at h
    exact h
  · rintro e w' ⟨rfl, rfl⟩
    exact ⟨rfl, (Below.refl _ _).alloc (Nat.le_refl _) _⟩
theorem empty_size (b : ByteArray) : b.toList.isEmpty = decide (b.size = 0) := by
  rw [Bool.eq_iff_iff, List.isEmpty_iff, Lib.toList_data, decide_eq_true_eq]
  show _ ↔ b.data.size = 0
  rw [← Array.length_toList]
  exact List.length_eq_zero_iff.symm
set_option maxHeartbeats 8000000 in
set_option maxRecDepth 100000 in
theorem check_one (mark : Int) (mid : ByteArray) (ps : List Int) (txt left : ByteArray) (late : Bool) (pa : Option Addr) (pc : Nat) (w : World) (hm : mid.size ≤ 9223372036854775807) :
    Calls Tryd.prog 7 #[.agg #[.int .i64 1, .int .u8 mark, .string mid, .slice pa ps.length pc, .string txt, .string left, .bool late]] w fun e w' => e = .returned (.bool (chk ⟨1, mark, mid, ps, txt, left, late⟩)) ∧ Below w.heap.size w w' := by
  have x0 := heap_alloc_new w (.cells #[.int .i64 1, .int .u8 mark, .string mid, .slice pa ps.length pc, .string txt, .string left, .bool late] 24)
  have kb : Below w.heap.size w (w.alloc (.cells #[.int .i64 1, .int .u8 mark, .string mid, .slice pa ps.length pc, .string txt, .string left, .bool late] 24)) := (Below.refl _ _).alloc (Nat.le_refl _) _
  have HTR := trim_any mid (w.alloc (.cells #[.int .i64 1, .int .u8 mark, .string mid, .slice pa ps.length pc, .string txt, .string left, .bool late] 24)) hm
  have hmo : midOk ⟨1, mark, mid, ps, txt, left, late⟩ = (decide (mid.size ≤ 2) && (⟨(Lib.trimS mid.data.toList midSet).toArray⟩ : ByteArray).toList.isEmpty) := by rw [trim_empty]; rfl
  obtain ⟨c0, c1, c2, c3, c4, c5, c6, cf⟩ := cells7 x0
  have HMO : Hid _ := hmo
  have HKB : Hid _ := kb
  have HX0 : Hid _ := x0
  clear x0 kb cf hmo
  generalize hC : chk ⟨1, mark, mid, ps, txt, left, late⟩ = C at *
  have HC : Hid (chk ⟨1, mark, mid, ps, txt, left, late⟩ = C) := hC
  clear hC
  by_cases hm2 : mid.size ≤ 2
  · have hm3 : (mid.size : Int) ≤ 2 := by omega
    generalize (⟨(Lib.trimS mid.data.toList midSet).toArray⟩ : ByteArray) = tm at HTR HMO
    have HM2 : Hid (midOk ⟨1, mark, mid, ps, txt, left, late⟩ = tm.toList.isEmpty) := by unfold Hid; rw [HMO.out, decide_eq_true hm2, Bool.true_and]
    go_enter Tryd.func7, Tryd.ntmps7
    go_wp2_with fail
    refine HTR.mono ?_
    rintro e W1 ⟨rfl, b1⟩
    have HB1 : Hid (Below w.heap.size w W1) := HKB.out.trans (b1.mono HKB.out.size)
    have HX1 : Hid (W1.heap[w.heap.size]? = _) := stay HX0.out b1
    obtain ⟨d0, d1, d2, d3, d4, d5, d6, df⟩ := cells7 (stay HX0.out b1)
    clear HTR c0 c1 c2 c3 c4 c5 c6 df b1
    have HZ := zero_new [.y mark, .s mid, .l pa ps.length pc, .s txt, .t late, .s left] W1 6 rfl (by omega)
    have HR : Hid (([.y mark, .s mid, .l pa ps.length pc, .s txt, .t late, .s left] : List Zv).all Zv.z = C) := by
      unfold Hid
      rw [← HC.out]
      simp [chk, Zv.z]
    generalize ([.y mark, .s mid, .l pa ps.length pc, .s txt, .t late, .s left] : List Zv).all Zv.z = zb at HZ HR
    simp only [List.map, Zv.v] at HZ
    go_wp2_with fail
    refine HZ.mono ?_
    rintro e W2 ⟨rfl, b2⟩
    clear HZ d0 d1 d2 d3 d4 d5 d6
    go_wp2_with fail
    go_ret
    exact ⟨ret_bool HR.out, HB1.out.trans (b2.mono HB1.out.size)⟩
  · have hm3 : ¬ (mid.size : Int) ≤ 2 := by omega
    have HM2 : Hid (midOk ⟨1, mark, mid, ps, txt, left, late⟩ = false) := by unfold Hid; rw [HMO.out, decide_eq_false hm2, Bool.false_and]
    obtain ⟨d0, d1, d2, d3, d4, d5, d6, df⟩ := cells7 HX0.out
    clear HTR c0 c1 c2 c3 c4 c5 c6 df
    go_enter Tryd.func7, Tryd.ntmps7
    go_upto_region 3 with fail
    obtain ⟨W1, hW1⟩ : ∃ W1, w.alloc (.cells #[.int .i64 1, .int .u8 mark, .string mid, .slice pa ps.length pc, .string txt, .string left, .bool late] 24) = W1 := ⟨_, rfl⟩
    rw [hW1] at HKB HX0 d0 d1 d2 d3 d4 d5 d6
    have HB1 : Hid (Below w.heap.size w W1) := HKB.out
    have HX1 : Hid (W1.heap[w.heap.size]? = _) := HX0.out
    have HW1 : Hid (_ = W1) := hW1
    rw [hW1]
    clear hW1 HKB HX0
    have HZ := zero_new [.y mark, .s mid, .l pa ps.length pc, .s txt, .t late, .s left] W1 6 rfl (by omega)
    have HR : Hid (([.y mark, .s mid, .l pa ps.length pc, .s txt, .t late, .s left] : List Zv).all Zv.z = C) := by
      unfold Hid
      rw [← HC.out]
      simp [chk, Zv.z]
    generalize ([.y mark, .s mid, .l pa ps.length pc, .s txt, .t late, .s left] : List Zv).all Zv.z = zb at HZ HR
    simp only [List.map, Zv.v] at HZ
    go_wp2_with fail
    refine HZ.mono ?_
    rintro e W2 ⟨rfl, b2⟩
    clear HZ d0 d1 d2 d3 d4 d5 d6
    go_wp2_with fail
    go_ret
    exact ⟨ret_bool HR.out, HB1.out.trans (b2.mono HB1.out.size)⟩
set_option maxHeartbeats 8000000 in
set_option maxRecDepth 100000 in
theorem check_five (mark : Int) (mid : ByteArray) (ps : List Int) (txt left : ByteArray) (late : Bool) (pa : Option Addr) (pc : Nat) (w : World) (hm : mid.size ≤ 9223372036854775807) :
    Calls Tryd.prog 7 #[.agg #[.int .i64 5, .int .u8 mark, .string mid, .slice pa ps.length pc, .string txt, .string left, .bool late]] w fun e w' => e = .returned (.bool (chk ⟨5, mark, mid, ps, txt, left, late⟩)) ∧ Below w.heap.size w w' := by
  have x0 := heap_alloc_new w (.cells #[.int .i64 5, .int .u8 mark, .string mid, .slice pa ps.length pc, .string txt, .string left, .bool late] 24)
  have kb : Below w.heap.size w (w.alloc (.cells #[.int .i64 5, .int .u8 mark, .string mid, .slice pa ps.length pc, .string txt, .string left, .bool late] 24)) := (Below.refl _ _).alloc (Nat.le_refl _) _
  have HTR := trim_any mid (w.alloc (.cells #[.int .i64 5, .int .u8 mark, .string mid, .slice pa ps.length pc, .string txt, .string left, .bool late] 24)) hm
  have hmo : midOk ⟨5, mark, mid, ps, txt, left, late⟩ = (decide (mid.size ≤ 2) && (⟨(Lib.trimS mid.data.toList midSet).toArray⟩ : ByteArray).toList.isEmpty) := by rw [trim_empty]; rfl
  obtain ⟨c0, c1, c2, c3, c4, c5, c6, cf⟩ := cells7 x0
  have HMO : Hid _ := hmo
  have HKB : Hid _ := kb
  have HX0 : Hid _ := x0
  clear x0 kb cf hmo
  generalize hC : chk ⟨5, mark, mid, ps, txt, left, late⟩ = C at *
  have HC : Hid (chk ⟨5, mark, mid, ps, txt, left, late⟩ = C) := hC
  clear hC
  by_cases hm2 : mid.size ≤ 2
  · have hm3 : (mid.size : Int) ≤ 2 := by omega
    generalize (⟨(Lib.trimS mid.data.toList midSet).toArray⟩ : ByteArray) = tm at HTR HMO
    have HM2 : Hid (midOk ⟨5, mark, mid, ps, txt, left, late⟩ = tm.toList.isEmpty) := by unfold Hid; rw [HMO.out, decide_eq_true hm2, Bool.true_and]
    go_enter Tryd.func7, Tryd.ntmps7
    go_wp2_with fail
    refine HTR.mono ?_
    rintro e W1 ⟨rfl, b1⟩
    have HB1 : Hid (Below w.heap.size w W1) := HKB.out.trans (b1.mono HKB.out.size)
    have HX1 : Hid (W1.heap[w.heap.size]? = _) := stay HX0.out b1
    obtain ⟨d0, d1, d2, d3, d4, d5, d6, df⟩ := cells7 (stay HX0.out b1)
    clear HTR c0 c1 c2 c3 c4 c5 c6 df b1
    have HZ := zero_new [.y mark, .s mid, .l pa ps.length pc, .s txt, .t late, .s left] W1 6 rfl (by omega)
    have HR : Hid (([.y mark, .s mid, .l pa ps.length pc, .s txt, .t late, .s left] : List Zv).all Zv.z = C) := by
      unfold Hid
      rw [← HC.out]
      simp [chk, Zv.z]
    generalize ([.y mark, .s mid, .l pa ps.length pc, .s txt, .t late, .s left] : List Zv).all Zv.z = zb at HZ HR
    simp only [List.map, Zv.v] at HZ
    go_wp2_with fail
    refine HZ.mono ?_
    rintro e W2 ⟨rfl, b2⟩
    clear HZ d0 d1 d2 d3 d4 d5 d6
    go_wp2_with fail
    go_ret
    exact ⟨ret_bool HR.out, HB1.out.trans (b2.mono HB1.out.size)⟩
  · have hm3 : ¬ (mid.size : Int) ≤ 2 := by omega
    have HM2 : Hid (midOk ⟨5, mark, mid, ps, txt, left, late⟩ = false) := by unfold Hid; rw [HMO.out, decide_eq_false hm2, Bool.false_and]
    obtain ⟨d0, d1, d2, d3, d4, d5, d6, df⟩ := cells7 HX0.out
    clear HTR c0 c1 c2 c3 c4 c5 c6 df
    go_enter Tryd.func7, Tryd.ntmps7
    go_upto_region 3 with fail
    obtain ⟨W1, hW1⟩ : ∃ W1, w.alloc (.cells #[.int .i64 5, .int .u8 mark, .string mid, .slice pa ps.length pc, .string txt, .string left, .bool late] 24) = W1 := ⟨_, rfl⟩
    rw [hW1] at HKB HX0 d0 d1 d2 d3 d4 d5 d6
    have HB1 : Hid (Below w.heap.size w W1) := HKB.out
    have HX1 : Hid (W1.heap[w.heap.size]? = _) := HX0.out
    have HW1 : Hid (_ = W1) := hW1
    rw [hW1]
    clear hW1 HKB HX0
    have HZ := zero_new [.y mark, .s mid, .l pa ps.length pc, .s txt, .t late, .s left] W1 6 rfl (by omega)
    have HR : Hid (([.y mark, .s mid, .l pa ps.length pc, .s txt, .t late, .s left] : List Zv).all Zv.z = C) := by
      unfold Hid
      rw [← HC.out]
      simp [chk, Zv.z]
    generalize ([.y mark, .s mid, .l pa ps.length pc, .s txt, .t late, .s left] : List Zv).all Zv.z = zb at HZ HR
    simp only [List.map, Zv.v] at HZ
    go_wp2_with fail
    refine HZ.mono ?_
    rintro e W2 ⟨rfl, b2⟩
    clear HZ d0 d1 d2 d3 d4 d5 d6
    go_wp2_with fail
    go_ret
    exact ⟨ret_bool HR.out, HB1.out.trans (b2.mono HB1.out.size)⟩
set_option maxHeartbeats 8000000 in
set_option maxRecDepth 100000 in
theorem check_two (mark : Int) (mid : ByteArray) (ps : List Int) (txt left : ByteArray) (late : Bool) (pa : Option Addr) (pc : Nat) (w : World) (hm : mid.size ≤ 9223372036854775807) :
    Calls Tryd.prog 7 #[.agg #[.int .i64 2, .int .u8 mark, .string mid, .slice pa ps.length pc, .string txt, .string left, .bool late]] w fun e w' => e = .returned (.bool (chk ⟨2, mark, mid, ps, txt, left, late⟩)) ∧ Below w.heap.size w w' := by
  have x0 := heap_alloc_new w (.cells #[.int .i64 2, .int .u8 mark, .string mid, .slice pa ps.length pc, .string txt, .string left, .bool late] 24)
  have kb : Below w.heap.size w (w.alloc (.cells #[.int .i64 2, .int .u8 mark, .string mid, .slice pa ps.length pc, .string txt, .string left, .bool late] 24)) := (Below.refl _ _).alloc (Nat.le_refl _) _
  have HTR := trim_any mid (w.alloc (.cells #[.int .i64 2, .int .u8 mark, .string mid, .slice pa ps.length pc, .string txt, .string left, .bool late] 24)) hm
  have hmo : midOk ⟨2, mark, mid, ps, txt, left, late⟩ = (decide (mid.size ≤ 2) && (⟨(Lib.trimS mid.data.toList midSet).toArray⟩ : ByteArray).toList.isEmpty) := by rw [trim_empty]; rfl
  obtain ⟨c0, c1, c2, c3, c4, c5, c6, cf⟩ := cells7 x0
  have HMO : Hid _ := hmo
  have HKB : Hid _ := kb
  have HX0 : Hid _ := x0
  clear x0 kb cf hmo
  generalize hC : chk ⟨2, mark, mid, ps, txt, left, late⟩ = C at *
  have HC : Hid (chk ⟨2, mark, mid, ps, txt, left, late⟩ = C) := hC
  clear hC
  by_cases hm2 : mid.size ≤ 2
  · have hm3 : (mid.size : Int) ≤ 2 := by omega
    generalize (⟨(Lib.trimS mid.data.toList midSet).toArray⟩ : ByteArray) = tm at HTR HMO
    have HM2 : Hid (midOk ⟨2, mark, mid, ps, txt, left, late⟩ = tm.toList.isEmpty) := by unfold Hid; rw [HMO.out, decide_eq_true hm2, Bool.true_and]
    go_enter Tryd.func7, Tryd.ntmps7
    go_wp2_with fail
    refine HTR.mono ?_
    rintro e W1 ⟨rfl, b1⟩
    have HB1 : Hid (Below w.heap.size w W1) := HKB.out.trans (b1.mono HKB.out.size)
    have HX1 : Hid (W1.heap[w.heap.size]? = _) := stay HX0.out b1
    obtain ⟨d0, d1, d2, d3, d4, d5, d6, df⟩ := cells7 (stay HX0.out b1)
    clear HTR c0 c1 c2 c3 c4 c5 c6 df b1
    cases hb : tm.toList.isEmpty with
    | false =>
      rw [hb] at HM2
      have HR : Hid (false = C) := by
        unfold Hid
        rw [← HC.out]
        simp [chk, HM2.out]
      go_wp2_with fail
      go_ret
      exact ⟨ret_bool HR.out, HB1.out⟩
    | true =>
      rw [hb] at HM2
      by_cases hz : mid.size = 0
      · have he : mid.toList.isEmpty = true := by rw [empty_size, decide_eq_true hz]
        have HR : Hid (false = C) := by
          unfold Hid
          rw [← HC.out]
          simp [chk, HM2.out, hz]
        go_wp2_with fail
        go_ret
        exact ⟨ret_bool HR.out, HB1.out⟩
      · have he : mid.toList.isEmpty = false := by rw [empty_size, decide_eq_false hz]
        have HZ := zero_new [.y mark, .l pa ps.length pc, .s txt, .t late, .s left] W1 5 rfl (by omega)
        have HR : Hid (([.y mark, .l pa ps.length pc, .s txt, .t late, .s left] : List Zv).all Zv.z = C) := by
          unfold Hid
          rw [← HC.out]
          simp [chk, Zv.z, HM2.out, hz]
        generalize ([.y mark, .l pa ps.length pc, .s txt, .t late, .s left] : List Zv).all Zv.z = zb at HZ HR
        simp only [List.map, Zv.v] at HZ
        go_wp2_with fail
        refine HZ.mono ?_
        rintro e W2 ⟨rfl, b2⟩
        clear HZ d0 d1 d2 d3 d4 d5 d6
        go_wp2_with fail
        go_ret
        exact ⟨ret_bool HR.out, HB1.out.trans (b2.mono HB1.out.size)⟩
  · have hm3 : ¬ (mid.size : Int) ≤ 2 := by omega
    have HM2 : Hid (midOk ⟨2, mark, mid, ps, txt, left, late⟩ = false) := by unfold Hid; rw [HMO.out, decide_eq_false hm2, Bool.false_and]
    obtain ⟨d0, d1, d2, d3, d4, d5, d6, df⟩ := cells7 HX0.out
    clear HTR c0 c1 c2 c3 c4 c5 c6 df
    go_enter Tryd.func7, Tryd.ntmps7
    go_upto_region 3 with fail
    obtain ⟨W1, hW1⟩ : ∃ W1, w.alloc (.cells #[.int .i64 2, .int .u8 mark, .string mid, .slice pa ps.length pc, .string txt, .string left, .bool late] 24) = W1 := ⟨_, rfl⟩
    rw [hW1] at HKB HX0 d0 d1 d2 d3 d4 d5 d6
    have HB1 : Hid (Below w.heap.size w W1) := HKB.out
    have HX1 : Hid (W1.heap[w.heap.size]? = _) := HX0.out
    have HW1 : Hid (_ = W1) := hW1
    rw [hW1]
    clear hW1 HKB HX0
    have HR : Hid (false = C) := by
      unfold Hid
      rw [← HC.out]
      simp [chk, HM2.out]
    go_wp2_with fail
    go_ret
    exact ⟨ret_bool HR.out, HB1.out⟩
end Prs
end Go.Proofs.YtmgmdijhiplalaaDoor
