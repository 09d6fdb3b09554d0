/- Package split: the reader of a text: a size behind a part. -/
import Derived.Test.YtckkbmgdaplaaaaDoorSplNum
namespace Go.Proofs.YtckkbmgdaplaaaaDoor
open Go.ChangeShapes Go.WideShapes Go.ChangeAt Go.RowKit Go.Maps Go.Sort
namespace Spl
/-- A number n stands at p, with k digits. -/
def Nm (t : ByteArray) (p k : Nat) (n : Int) : Prop :=
  1 ≤ k ∧ k ≤ 4 ∧ p + k ≤ t.size ∧ Dg t p k ∧ (k < 4 → Stop t (p + k)) ∧ (∀ h : p < t.size, (t[p]'h).toNat ≠ 48) ∧ Lib.atoi (t.extract p (p + k)).data.toList = some n ∧ n ≠ 0
theorem number_any (R : Nat) (t : ByteArray) (p k o : Nat) (n : Int) (w : World) (hr : RdAt w R t p o) (hts : t.size ≤ 100000) (hn : Nm t p k n) :
    Calls Tryd.prog 84 #[.pointer (some ⟨R, 0, none⟩)] w fun e w' => e = .returned (.int .i64 n) ∧ RdAt w' R t (p + k) o ∧ But R w w' :=
  number_good R t p k o n w hr hts hn.1 hn.2.1 hn.2.2.1 hn.2.2.2.1 hn.2.2.2.2.1 hn.2.2.2.2.2.1 hn.2.2.2.2.2.2.1 hn.2.2.2.2.2.2.2
set_option maxHeartbeats 4000000 in
set_option maxRecDepth 100000 in
theorem size_one (R : Nat) (t : ByteArray) (p o : Nat) (w : World) (hr : RdAt w R t p o) (hts : t.size ≤ 100000) (hps : p ≤ t.size) (hn : nextIs t p 42 = false) :
    Calls Tryd.prog 85 #[.pointer (some ⟨R, 0, none⟩)] w fun e w' => e = .returned (.int .i64 1) ∧ RdAt w' R t p o ∧ But R w w' := by
  have HT : Calls Tryd.prog 94 #[.pointer (some ⟨R, 0, none⟩), .int .u8 42] w fun e w' => e = .returned (.bool (nextIs t p 42)) ∧ RdAt w' R t (if nextIs t p 42 then p + 1 else p) o ∧ But R w w' := took_any R t p o 42 w hr hts hps
  rw [hn] at HT
  simp only [Bool.false_eq_true, if_false] at HT
  clear hn hr
  go_enter Tryd.func85, Tryd.ntmps85
  go_wp2_with fail
  refine HT.mono ?_
  rintro e W ⟨rfl, rW, bW⟩
  go_wp2_with fail
  go_ret
  exact ⟨rfl, rW, bW⟩
set_option maxHeartbeats 4000000 in
set_option maxRecDepth 100000 in
theorem size_num (R : Nat) (t : ByteArray) (p k o : Nat) (n : Int) (w : World) (hr : RdAt w R t p o) (hts : t.size ≤ 100000) (hps : p ≤ t.size) (hs : nextIs t p 42 = true) (hn : Nm t (p + 1) k n) (hn1 : n ≠ 1) :
    Calls Tryd.prog 85 #[.pointer (some ⟨R, 0, none⟩)] w fun e w' => e = .returned (.int .i64 n) ∧ RdAt w' R t (p + 1 + k) o ∧ But R w w' := by
  have HT : Calls Tryd.prog 94 #[.pointer (some ⟨R, 0, none⟩), .int .u8 42] w fun e w' => e = .returned (.bool (nextIs t p 42)) ∧ RdAt w' R t (if nextIs t p 42 then p + 1 else p) o ∧ But R w w' := took_any R t p o 42 w hr hts hps
  rw [hs] at HT
  simp only [if_true] at HT
  have HN := fun W (h : RdAt W R t (p + 1) o) => number_any R t (p + 1) k o n W h hts hn
  have j1 : (n == 1) = false := by rw [beq_eq_false_iff_ne]; exact hn1
  clear hs hr hn hn1
  go_enter Tryd.func85, Tryd.ntmps85
  go_wp2_with fail
  refine HT.mono ?_
  rintro e W ⟨rfl, rW, bW⟩
  go_wp2_with fail
  refine (HN W rW).mono ?_
  rintro e W2 ⟨rfl, rW2, bW2⟩
  have bb := bW.trans bW2
  clear HN HT rW bW bW2
  go_wp2_with fail
  go_ret
  exact ⟨rfl, rW2, bb⟩
end Spl
end Go.Proofs.YtckkbmgdaplaaaaDoor
