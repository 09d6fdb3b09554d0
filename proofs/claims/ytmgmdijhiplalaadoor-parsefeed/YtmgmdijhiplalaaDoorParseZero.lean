/- The reference's closure that asks whether all that it is handed is zero. -/
import Derived.Test.YtmgmdijhiplalaaDoorParseEvs
import Derived.LaidEql
namespace Go.Proofs.YtmgmdijhiplalaaDoor
open Go.ChangeShapes Go.WideShapes Go.ChangeAt Go.RowKit
namespace Prs
inductive Zv where
  | s (b : ByteArray)
  | y (n : Int)
  | t (b : Bool)
  | l (pa : Option Addr) (n pc : Nat)
def Zv.v : Zv → Value
  | .s b => .iface 9 (.string b)
  | .y n => .iface 5 (.int .u8 n)
  | .t b => .iface 4 (.bool b)
  | .l pa n pc => .iface 22 (.slice pa n pc)
def Zv.z : Zv → Bool
  | .s b => decide (b.size = 0)
  | .y n => decide (n = 0)
  | .t b => !b
  | .l _ n _ => decide (n = 0)
theorem und_str9 : Tryd.prog.underlying 9 = some .string := by kernel_rfl
theorem und_u8 : Tryd.prog.underlying 5 = some (.int .u8) := by kernel_rfl
theorem und_boo : Tryd.prog.underlying 4 = some .bool := by kernel_rfl
theorem und_sl : Tryd.prog.underlying 22 = some (.slice 3) := by kernel_rfl
theorem zero_str : (Tryd.prog.info? 9).map (·.zero) = some (some (.string ⟨#[]⟩)) := by kernel_rfl
theorem zero_u8 : (Tryd.prog.info? 5).map (·.zero) = some (some (.int .u8 0)) := by kernel_rfl
theorem zero_boo : (Tryd.prog.info? 4).map (·.zero) = some (some (.bool false)) := by kernel_rfl
theorem zero_sl : (Tryd.prog.info? 22).map (·.zero) = some (some (.slice none 0 0)) := by kernel_rfl
theorem as_yes {T : TypeId} {u : TypeDesc} (hu : Tryd.prog.underlying T = some u) (hn : ∀ x, u ≠ .interface x) (v : Value) (w : World) : (Instr.typeAssert (.iface T v) 20 T true).run Tryd.prog w = .ok (.tuple #[v, .bool true]) w := by
  cases u <;> first | exact absurd rfl (hn _) | simp [Instr.typeAssert, run_underlying hu]
theorem as_no {T t : TypeId} {u : TypeDesc} {z : Value} (hu : Tryd.prog.underlying T = some u) (hn : ∀ x, u ≠ .interface x) (hz : (Tryd.prog.info? T).map (·.zero) = some (some z)) (ht : t ≠ T) (v : Value) (w : World) : (Instr.typeAssert (.iface t v) 20 T true).run Tryd.prog w = .ok (.tuple #[z, .bool false]) w := by
  obtain ⟨i, hi, hz2⟩ := Option.map_eq_some_iff.1 hz
  cases u <;> first | exact absurd rfl (hn _) | simp [Instr.typeAssert, run_underlying hu, ht, zeroValue, typeInfo, hi, hz2]
set_option maxHeartbeats 4000000 in
set_option maxRecDepth 100000 in
theorem zero_any (zs : List Zv) (g c : Nat) (w : World) (hc : ∀ j (h : j < zs.length), w.cell? ⟨g, j, none⟩ = some zs[j].v) (hl : zs.length ≤ 100) :
    Calls Tryd.prog 20 #[.slice (some ⟨g, 0, none⟩) zs.length c] w fun e w' => e = .returned (.bool (zs.all Zv.z)) ∧ w = w' := by
  have HC : Hid (∀ j (h : j < zs.length), w.cell? ⟨g, j, none⟩ = some zs[j].v) := hc
  obtain ⟨R, hR⟩ : ∃ R, zs.all Zv.z = R := ⟨_, rfl⟩
  have HR : Hid ((zs.drop 0).all Zv.z = R) := hR
  rw [hR]
  clear hc hR
  go_enter Tryd.func20, Tryd.ntmps20
  go_wp2_with fail
  go_loopg [11] zs.length (fun q i wr => ∃ k : Nat, k ≤ zs.length ∧ zs.length - k ≤ q ∧ i = .int .i64 k ∧ wr = w ∧ (zs.drop k).all Zv.z = R)
  case atStart => exact ⟨0, by omega, by omega, rfl, rfl, HR.out⟩
  case round =>
    obtain ⟨k, hk, hq, rfl, rfl, hz⟩ := hrel
    have HZ : Hid ((zs.drop k).all Zv.z = R) := hz
    clear hz
    by_cases hlt : k < zs.length
    · have lt1 : ((k : Int) < (zs.length : Int)) := by omega
      have q0 := HC.out k hlt
      have HZ2 : Hid ((zs[k].z && (zs.drop (k + 1)).all Zv.z) = R) := by
        have h := HZ.out
        rw [List.drop_eq_getElem_cons hlt, List.all_cons] at h
        exact h
      clear HZ
      generalize zs[k] = z at *
      cases z with
      | s b =>
        simp only [Zv.v] at q0
        simp only [Zv.z] at HZ2
        have hy := as_yes und_str9 (by simp) (.string b)
        by_cases hb : b.size = 0
        · have HZ3 : Hid ((zs.drop (k + 1)).all Zv.z = R) := by
            have h := HZ2.out
            simp [hb] at h
            exact h
          have hb2 : b = ⟨#[]⟩ := by apply ByteArray.ext; exact Array.eq_empty_of_size_eq_zero hb
          subst hb2
          go_wp2_with fail
          go_roundg (zs.length - (k + 1))
          case measure => omega
          case rel => exact ⟨k + 1, by omega, by omega, by go_num, rfl, HZ3.out⟩
        · have HZ3 : Hid (false = R) := by
            have h := HZ2.out
            simp [hb] at h
            exact h.symm
          have hbb : (!b.toList.isEmpty) = true := by
            rw [Bool.not_eq_true', List.isEmpty_eq_false_iff]
            intro h
            rw [Lib.toList_data] at h
            exact hb (by show b.data.size = 0; rw [← Array.length_toList, h]; rfl)
          go_wp2_with fail
          go_ret
          exact ⟨ret_bool HZ3.out, rfl⟩
      | y n =>
        simp only [Zv.v] at q0
        simp only [Zv.z] at HZ2
        have n9 := fun v => as_no (t := 5) und_str9 (by simp) zero_str (by decide) v
        have hy := as_yes und_u8 (by simp) (.int .u8 n)
        by_cases hb : n = 0
        · have HZ3 : Hid ((zs.drop (k + 1)).all Zv.z = R) := by
            have h := HZ2.out
            simp [hb] at h
            exact h
          subst hb
          go_wp2_with fail
          go_roundg (zs.length - (k + 1))
          case measure => omega
          case rel => exact ⟨k + 1, by omega, by omega, by go_num, rfl, HZ3.out⟩
        · have HZ3 : Hid (false = R) := by
            have h := HZ2.out
            simp [hb] at h
            exact h.symm
          have hbb : (n != 0) = true := by simp [hb]
          have hbc : (n == 0) = false := by simp [hb]
          go_wp2_with fail
          go_ret
          exact ⟨ret_bool HZ3.out, rfl⟩
      | t b =>
        simp only [Zv.v] at q0
        simp only [Zv.z] at HZ2
        have n9 := fun v => as_no (t := 4) und_str9 (by simp) zero_str (by decide) v
        have n5 := fun v => as_no (t := 4) und_u8 (by simp) zero_u8 (by decide) v
        have hy := as_yes und_boo (by simp) (.bool b)
        by_cases hb : b = false
        · have HZ3 : Hid ((zs.drop (k + 1)).all Zv.z = R) := by
            have h := HZ2.out
            simp [hb] at h
            exact h
          subst hb
          go_wp2_with fail
          go_roundg (zs.length - (k + 1))
          case measure => omega
          case rel => exact ⟨k + 1, by omega, by omega, by go_num, rfl, HZ3.out⟩
        · have HZ3 : Hid (false = R) := by
            have h := HZ2.out
            simp [hb] at h
            exact h.symm
          have hbb : b = true := by simpa using hb
          subst hbb
          go_wp2_with fail
          go_ret
          exact ⟨ret_bool HZ3.out, rfl⟩
      | l pa n pc =>
        simp only [Zv.v] at q0
        simp only [Zv.z] at HZ2
        have n9 := fun v => as_no (t := 22) und_str9 (by simp) zero_str (by decide) v
        have n5 := fun v => as_no (t := 22) und_u8 (by simp) zero_u8 (by decide) v
        have n4 := fun v => as_no (t := 22) und_boo (by simp) zero_boo (by decide) v
        have hy := as_yes und_sl (by simp) (.slice pa n pc)
        by_cases hb : n = 0
        · have HZ3 : Hid ((zs.drop (k + 1)).all Zv.z = R) := by
            have h := HZ2.out
            simp [hb] at h
            exact h
          subst hb
          go_wp2_with fail
          go_roundg (zs.length - (k + 1))
          case measure => omega
          case rel => exact ⟨k + 1, by omega, by omega, by go_num, rfl, HZ3.out⟩
        · have HZ3 : Hid (false = R) := by
            have h := HZ2.out
            simp [hb] at h
            exact h.symm
          have hbb : (0 : Int) < (n : Int) := by omega
          go_wp2_with fail
          go_ret
          exact ⟨ret_bool HZ3.out, rfl⟩
    · have lt1 : ¬ ((k : Int) < (zs.length : Int)) := by omega
      have HRR : Hid (true = R) := by
        have h := HZ.out
        rw [show zs.drop k = [] from List.drop_eq_nil_of_le (by omega)] at h
        exact h
      go_wp2_with fail
      go_ret
      exact ⟨ret_bool HRR.out, rfl⟩
end Prs
end Go.Proofs.YtmgmdijhiplalaaDoor
