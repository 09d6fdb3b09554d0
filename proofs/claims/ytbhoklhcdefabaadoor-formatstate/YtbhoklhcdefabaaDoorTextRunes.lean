/- Plain mathematics on the runes of a text, over the model's own decoding of UTF-8: no program is named. -/
import Derived.Test.YtbhoklhcdefabaaDoorTextMath
import Derived.Lib.OthersKept
namespace Go.Proofs.YtbhoklhcdefabaaDoor
namespace Txt

/-- The runes of s from place pos on, each with how many bytes it takes; at most so many. -/
def rs (s : ByteArray) : Nat → Nat → List (Int × Nat)
  | 0, _ => []
  | f + 1, pos => if pos < s.size then (((Utf8.decode s pos).1 : Int), (Utf8.decode s pos).2) :: rs s f (pos + (Utf8.decode s pos).2) else []
def runes (s : ByteArray) : List (Int × Nat) := rs s s.size 0
def wideL : List (Int × Nat) → Int
  | [] => 0
  | x :: t => wd x.1 + wideL t
def wideS (s : ByteArray) : Int := wideL (runes s)
/-- How many bytes of a text's runes are left when it is cut: 'w' cells have been taken. -/
def cutL (n : Int) : List (Int × Nat) → Int → Nat
  | [], _ => 0
  | x :: t, w => if n < w + wd x.1 then 0 else x.2 + cutL n t (w + wd x.1)
def cutS (s : ByteArray) (n : Int) : List UInt8 := s.data.toList.take (cutL n (runes s) 0)

theorem width_pos (s : ByteArray) (pos : Nat) (h : pos < s.size) : 1 ≤ (Utf8.decode s pos).2 := by
  by_cases ha : (s[pos]'h).toNat < 128
  · rw [decode_ascii s pos h ha]
    exact Nat.le_refl _
  · exact (decode_high s pos h (by omega)).2
theorem rs_end (s : ByteArray) (f pos : Nat) (h : ¬ pos < s.size) : rs s f pos = [] := by
  cases f with
  | zero => rfl
  | succ f => simp [rs, h]
theorem rs_step (s : ByteArray) (f pos : Nat) (h : pos < s.size) : rs s (f + 1) pos = (((Utf8.decode s pos).1 : Int), (Utf8.decode s pos).2) :: rs s f (pos + (Utf8.decode s pos).2) := by
  simp [rs, h]
theorem decode_fits (s : ByteArray) (pos : Nat) (h : pos < s.size) : pos + (Utf8.decode s pos).2 ≤ s.size := by
  simp only [Utf8.decode]
  repeat' split
  all_goals simp_all
  all_goals omega
theorem wideL_range : ∀ l : List (Int × Nat), 0 ≤ wideL l ∧ wideL l ≤ 2 * l.length
  | [] => by simp [wideL]
  | x :: t => by
    have := wideL_range t
    have := wd_range x.1
    simp only [wideL, List.length_cons]
    omega
theorem rs_length (s : ByteArray) : ∀ f pos : Nat, pos ≤ s.size → (rs s f pos).length + pos ≤ s.size
  | 0, _, h => by simpa [rs] using h
  | f + 1, pos, h => by
    by_cases hp : pos < s.size
    · have h1 := rs_length s f (pos + (Utf8.decode s pos).2) (decode_fits s pos hp)
      have h2 := width_pos s pos hp
      rw [rs_step s f pos hp, List.length_cons]
      omega
    · rw [rs_end s _ pos hp]; simpa using h
theorem wideS_range (s : ByteArray) : 0 ≤ wideS s ∧ wideS s ≤ 2 * s.size := by
  have h1 := wideL_range (runes s)
  have h2 := rs_length s s.size 0 (Nat.zero_le _)
  unfold wideS
  unfold runes at h1 ⊢
  omega
end Txt
end Go.Proofs.YtbhoklhcdefabaaDoor
