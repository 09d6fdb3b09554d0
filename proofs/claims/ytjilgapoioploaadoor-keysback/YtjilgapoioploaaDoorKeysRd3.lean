/- Package keys: numbers within a sequence. -/
import Derived.Test.YtjilgapoioploaaDoorKeysRd1
import Derived.Lib.IndexLaws
namespace Go.Proofs.YtjilgapoioploaaDoor
open Go.ChangeShapes Go.WideShapes Go.ChangeAt Go.RowKit
namespace Kys
open Txt (wd bs dec)
theorem drop_cons (s : ByteArray) (k : Nat) (h : k < s.size) : s.data.toList.drop k = s[k] :: s.data.toList.drop (k + 1) := by
  have h' : k < s.data.toList.length := by rw [Array.length_toList]; exact h
  rw [List.drop_eq_getElem_cons h']
  rfl
set_option maxHeartbeats 4000000 in
theorem numbersAhead_any (s : ByteArray) (w : World) : Calls Tryd.prog 64 #[.string s] w fun e w' => e = .returned (.int .i64 (aheadF 10 s.data.toList : Nat)) ∧ Below w.heap.size w w' := by
  obtain ⟨res, hres⟩ : ∃ res, aheadF 10 s.data.toList = res := ⟨_, rfl⟩
  rw [hres]
  have HR : Hid (aheadF 10 s.data.toList = res) := hres
  clear hres
  go_enter Tryd.func64, Tryd.ntmps64
  go_wp2_with fail
  go_loopg [3] 10 (fun g v wr => ∃ k : Nat, k ≤ 10 ∧ k ≤ s.size ∧ 10 - k ≤ g ∧ v = .int .i64 k ∧ Below w.heap.size w wr ∧ aheadF (10 - k) (s.data.toList.drop k) + k = res)
  case atStart => exact ⟨0, by omega, by omega, by omega, rfl, Below.refl _ _, by rw [← HR.out]; rfl⟩
  case round =>
    obtain ⟨k, hk, hks, hg, rfl, hb, hl⟩ := hrel
    have HL : Hid (aheadF (10 - k) (s.data.toList.drop k) + k = res) := hl
    clear hl
    by_cases h1 : k < s.size
    · have i1 : (k : Int) < (s.size : Int) := by omega
      by_cases h2 : k < 10
      · have i2 : (k : Int) < 10 := by omega
        obtain ⟨x, hx⟩ : ∃ x, s[k]'h1 = x := ⟨_, rfl⟩
        have HD : Hid (s.data.toList.drop k = x :: s.data.toList.drop (k + 1)) := by
          unfold Hid
          rw [drop_cons s k h1, hx]
        have hxl := x.toNat_lt
        obtain ⟨q, hq⟩ : ∃ q, 10 - k = q + 1 := ⟨10 - k - 1, by omega⟩
        have hw : wrap64 ((k : Int) + 1) = (k : Int) + 1 := by unfold wrap64; omega
        by_cases d1 : 48 ≤ x.toNat ∧ x.toNat ≤ 57
        · have i3 : (48 : Int) ≤ (x.toNat : Int) := by omega
          have i4 : (x.toNat : Int) ≤ 57 := by omega
          go_wp2_with fail
          go_roundg (10 - (k + 1))
          case measure => omega
          case rel => exact ⟨k + 1, by omega, by omega, by omega, by go_num, hb, by rw [← HL.out, HD.out, hq]; simp only [aheadF]; rw [if_pos (by unfold isNum; simp [d1.1, d1.2]), show 10 - (k + 1) = q by omega]; omega⟩
        · by_cases d2 : x.toNat = 59
          · have i3 : (48 : Int) ≤ (x.toNat : Int) := by omega
            have i4 : ¬ (x.toNat : Int) ≤ 57 := by omega
            have i5 : ((x.toNat : Int) == 59) = true := by rw [beq_iff_eq]; omega
            have D2 : Hid (x.toNat = 59) := d2
            clear d2
            go_wp2_with fail
            go_roundg (10 - (k + 1))
            case measure => omega
            case rel => exact ⟨k + 1, by omega, by omega, by omega, by go_num, hb, by rw [← HL.out, HD.out, hq]; simp only [aheadF]; rw [if_pos (by unfold isNum; simp [D2.out]), show 10 - (k + 1) = q by omega]; omega⟩
          · have i5 : ((x.toNat : Int) == 59) = false := by rw [beq_eq_false_iff_ne]; omega
            have fin : res = k := by
              rw [← HL.out, HD.out, hq]
              simp only [aheadF]
              rw [if_neg (by unfold isNum; simp; omega)]
              omega
            by_cases d3 : 48 ≤ x.toNat
            · have i3 : (48 : Int) ≤ (x.toNat : Int) := by omega
              have i4 : ¬ (x.toNat : Int) ≤ 57 := by omega
              go_wp2_with fail
              go_ret
              exact ⟨Txt.ret_int (by first | rfl | rw [fin]), hb⟩
            · have i3 : ¬ (48 : Int) ≤ (x.toNat : Int) := by omega
              go_wp2_with fail
              go_ret
              exact ⟨Txt.ret_int (by first | rfl | rw [fin]), hb⟩
      · have i2 : ¬ (k : Int) < 10 := by omega
        have fin : res = k := by
          rw [← HL.out, show 10 - k = 0 by omega]
          simp [aheadF]
        go_wp2_with fail
        go_ret
        exact ⟨Txt.ret_int (by first | rfl | rw [fin]), hb⟩
    · have i1 : ¬ (k : Int) < (s.size : Int) := by omega
      have fin : res = k := by
        rw [← HL.out, List.drop_eq_nil_of_le (by rw [Array.length_toList]; exact Nat.not_lt.1 h1)]
        cases 10 - k <;> simp [aheadF]
      go_wp2_with fail
      go_ret
      exact ⟨Txt.ret_int (by first | rfl | rw [fin]), hb⟩
end Kys
end Go.Proofs.YtjilgapoioploaaDoor
