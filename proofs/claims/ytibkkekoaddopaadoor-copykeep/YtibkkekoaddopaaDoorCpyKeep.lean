/- Package copying: Keep and Bytes. -/
import Derived.Test.YtibkkekoaddopaaDoorCpyKeepM
import Derived.Test.YtibkkekoaddopaaDoorCpyFind
import Derived.Test.YtibkkekoaddopaaDoorCpyBet
import Derived.Test.YtibkkekoaddopaaDoorTextCut
import Derived.Lib.ReplaceLaws
namespace Go.Proofs.YtibkkekoaddopaaDoor
open Go.ChangeShapes Go.WideShapes Go.ChangeAt Go.RowKit Go.Maps Go.Sort
namespace Cpy
open Txt (bs)
theorem replace_one (s : ByteArray) (c : UInt8) (new : ByteArray) (w : World) (hM : MaxAt w) (hs : s.size ≤ 100000) (hn : new.size ≤ 1) :
    Calls Tryd.prog 50 #[.string s, .string ⟨#[c]⟩, .string new] w fun e w' => e = .returned (.string (bs (repl c new.data.toList s.data.toList))) ∧ Below w.heap.size w w' := by
  obtain ⟨m, hm⟩ := hM
  have hc := Lib.countB_mul_le (⟨#[c]⟩ : ByteArray) (Nat.le_refl 1) s.size s (Nat.le_refl _)
  have h1 : (⟨#[c]⟩ : ByteArray).size = 1 := rfl
  rw [h1, Nat.mul_one] at hc
  have h2 : Lib.countB s ⟨#[c]⟩ * new.size ≤ s.size := Nat.le_trans (Nat.mul_le_mul_left _ hn) (by rw [Nat.mul_one]; exact hc)
  refine (Tryd.strings_ReplaceAll s ⟨#[c]⟩ new m w (by omega) hm (Nat.le_refl 1) (by omega)).mono ?_
  rintro e w' ⟨rfl, hw⟩
  refine ⟨?_, hw⟩
  rw [show (⟨#[c]⟩ : ByteArray).data.toList = [c] from rfl, replaceAll_one]
  rfl
def bytesT (s : ByteArray) (marked : Bool) : ByteArray := if 4000 < s.size then ⟨#[]⟩ else bs (bytesL marked s.data.toList)
def bytesE (s : ByteArray) : Int := if 4000 < s.size then 2 else 0
theorem bs_size (l : List UInt8) : (bs l).size = l.length := by show (l.toArray).size = _; simp
theorem bs_append (a b : List UInt8) : bs a ++ bs b = bs (a ++ b) := by
  apply ByteArray.ext
  rw [ByteArray.data_append]
  simp [bs]
set_option maxHeartbeats 4000000 in
set_option maxRecDepth 100000 in
theorem bytes_any (s : ByteArray) (marked : Bool) (w : World) (hM : MaxAt w) :
    Calls Tryd.prog 24 #[.string s, .bool marked] w fun e w' => e = .returned (.tuple #[.string (bytesT s marked), .int .i64 (bytesE s)]) ∧ Below w.heap.size w w' := by
  obtain ⟨T, hT⟩ : ∃ T, bytesT s marked = T := ⟨_, rfl⟩
  obtain ⟨e0, he⟩ : ∃ e0, bytesE s = e0 := ⟨_, rfl⟩
  rw [hT, he]
  unfold bytesT at hT
  unfold bytesE at he
  by_cases hs : 4000 < s.size
  · rw [if_pos hs] at hT he
    subst hT he
    have is : (4000 : Int) < (s.size : Int) := by omega
    go_enter Tryd.func24, Tryd.ntmps24
    go_wp2_with fail
    go_ret2
    exact ⟨rfl, Below.refl _ _⟩
  · rw [if_neg hs] at hT he
    have is : ¬ (4000 : Int) < (s.size : Int) := by omega
    subst hT he
    have hl : s.data.toList.length = s.size := Array.length_toList
    have l1 := repl_len 10 [13] (by simp) s.data.toList
    have H1 := replace_one s 10 ⟨#[13]⟩ w hM (by omega) (Nat.le_refl 1)
    rw [show (⟨#[13]⟩ : ByteArray).data.toList = [13] from rfl] at H1
    unfold bytesL
    generalize hr1 : repl 10 [13] s.data.toList = r1 at *
    have l2 := repl_len 27 [] (by simp) r1
    have H2 := fun V (hm : MaxAt V) => replace_one (bs r1) 27 ⟨#[]⟩ V hm (by rw [bs_size]; omega) (Nat.zero_le 1)
    rw [show (⟨#[]⟩ : ByteArray).data.toList = [] from rfl, bs_data] at H2
    generalize repl 27 [] r1 = r2 at *
    have HM : Hid (MaxAt w) := hM
    have HCL1 := fun V => Txt.clone_any (bs r1) V (by rw [bs_size]; omega)
    have hcat : (⟨#[27, 91, 50, 48, 48, 126]⟩ : ByteArray) ++ bs r2 ++ ⟨#[27, 91, 50, 48, 49, 126]⟩ = bs (ahd ++ r2 ++ bhd) := by
      show bs ahd ++ bs r2 ++ bs bhd = _
      rw [bs_append, bs_append]
    have hsz : (bs (ahd ++ r2 ++ bhd)).size ≤ 281474976710656 := by
      rw [bs_size, List.length_append, List.length_append]
      have h1 : ahd.length = 6 := rfl
      have h2 : bhd.length = 6 := rfl
      omega
    have HCL2 := fun V => Txt.clone_any (bs (ahd ++ r2 ++ bhd)) V hsz
    rw [← hcat] at HCL2
    have HR2 : Hid (r2.length ≤ 4000) := by show r2.length ≤ 4000; omega
    clear hr1 l1 l2 hl hM hsz
    cases marked
    · simp only [Bool.false_eq_true, if_false]
      clear hcat
      go_enter Tryd.func24, Tryd.ntmps24
      go_wp2_with fail
      refine H1.mono ?_
      rintro e W1 ⟨rfl, b1⟩
      go_wp2_with fail
      refine (HCL1 _).mono ?_
      rintro e W2 ⟨rfl, b2⟩
      have k2 := b1.trans (b2.mono b1.size)
      go_wp2_with fail
      go_ret2
      exact ⟨rfl, k2⟩
    · simp only [if_true]
      rw [← hcat]
      clear hcat
      have z1 : (bs r2).size ≤ 4000 := by rw [bs_size]; exact HR2.out
      have z2 : ((⟨#[27, 91, 50, 48, 48, 126]⟩ : ByteArray) ++ bs r2).size ≤ 4006 := by
        rw [ByteArray.size_append]
        have : (⟨#[27, 91, 50, 48, 48, 126]⟩ : ByteArray).size = 6 := rfl
        omega
      go_enter Tryd.func24, Tryd.ntmps24
      go_wp2_with fail
      refine H1.mono ?_
      rintro e W1 ⟨rfl, b1⟩
      go_wp2_with fail
      refine (H2 _ (HM.out.below b1)).mono ?_
      rintro e W2 ⟨rfl, b2⟩
      have k2 := b1.trans (b2.mono b1.size)
      go_wp2_with fail
      refine (HCL2 _).mono ?_
      rintro e W3 ⟨rfl, b3⟩
      have k3 := k2.trans (b3.mono k2.size)
      go_wp2_with fail
      go_ret2
      exact ⟨rfl, k3⟩
end Cpy
end Go.Proofs.YtibkkekoaddopaaDoor
