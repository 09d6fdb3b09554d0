/- Plain mathematics on lists of bytes and their runes: cutting a text at the end of a rune. No program is named. -/
import Derived.Test.YtbhoklhcdefabaaDoorTextRunes
import Derived.Lib.DecodeN
import Derived.Lib.Strings
namespace Go.Proofs.YtbhoklhcdefabaaDoor
namespace Txt

/-- The first rune of a list of bytes, and how many of them it takes. -/
def dec (l : List UInt8) : Nat × Nat := Lib.decodeN l.length (l.getD 0 0).toNat (l.getD 1 0).toNat (l.getD 2 0).toNat (l.getD 3 0).toNat

theorem get_drop (s : ByteArray) (i k : Nat) : s.get! (i + k) = (s.data.toList.drop i).getD k 0 := by
  show s.data[i + k]! = _
  rw [List.getD_eq_getElem?_getD, List.getElem?_drop, Array.getElem?_toList, getElem!_def]
  cases s.data[i + k]? <;> rfl
theorem decode_dec (s : ByteArray) (pos : Nat) : Utf8.decode s pos = dec (s.data.toList.drop pos) := by
  rw [Lib.decode_at]
  unfold dec
  rw [show s.get! pos = s.get! (pos + 0) from rfl, get_drop, get_drop, get_drop, get_drop]
  simp

/-- The runes of a list of bytes. -/
def rl : Nat → List UInt8 → List (Int × Nat)
  | 0, _ => []
  | f + 1, l => if l = [] then [] else (((dec l).1 : Int), (dec l).2) :: rl f (l.drop (dec l).2)
def rn (l : List UInt8) : List (Int × Nat) := rl l.length l

theorem rs_rl (s : ByteArray) : ∀ f pos : Nat, rs s f pos = rl f (s.data.toList.drop pos)
  | 0, _ => rfl
  | f + 1, pos => by
    by_cases h : pos < s.size
    · rw [rs_step s f pos h, rs_rl s f]
      have hne : s.data.toList.drop pos ≠ [] := by
        intro e
        have := congrArg List.length e
        simp at this
        omega
      simp only [rl, if_neg hne, ← decode_dec, List.drop_drop]
    · rw [rs_end s _ pos h]
      have he : s.data.toList.drop pos = [] := List.drop_eq_nil_iff.2 (by simp; omega)
      simp [rl, he]
theorem runes_rn (s : ByteArray) : runes s = rn s.data.toList := by
  unfold runes rn
  rw [rs_rl]
  simp

theorem decN_ascii (n b0 b1 b2 b3 : Nat) (h : b0 < 128) : Lib.decodeN n b0 b1 b2 b3 = (b0, 1) := by
  simp [Lib.decodeN, h]
theorem decN_one (b0 b1 b2 b3 n : Nat) (hn : n ≤ 1) (h : ¬ b0 < 128) : Lib.decodeN n b0 b1 b2 b3 = (65533, 1) := by
  have h1 : ¬ 1 < n := by omega
  simp [Lib.decodeN, h, h1]
theorem decN_pos (n b0 b1 b2 b3 : Nat) : 1 ≤ (Lib.decodeN n b0 b1 b2 b3).2 := by
  unfold Lib.decodeN
  repeat' split
  all_goals simp
theorem decN_le (n b0 b1 b2 b3 : Nat) (hn : 1 ≤ n) : (Lib.decodeN n b0 b1 b2 b3).2 ≤ n := by
  unfold Lib.decodeN
  repeat' split
  all_goals simp
  all_goals omega
theorem decN_mono (n n' b0 b1 b2 b3 c1 c2 c3 : Nat) (hn : n' ≤ n) (hp : 1 ≤ n') (h1 : 1 < n' → c1 = b1) (h2 : 2 < n' → c2 = b2) (h3 : 3 < n' → c3 = b3)
    (hk : (Lib.decodeN n b0 b1 b2 b3).2 ≤ n') : Lib.decodeN n' b0 c1 c2 c3 = Lib.decodeN n b0 b1 b2 b3 := by
  by_cases a : b0 < 128
  · rw [decN_ascii _ _ _ _ _ a, decN_ascii _ _ _ _ _ a]
  · unfold Lib.decodeN at hk ⊢
    rw [if_neg a] at hk
    rw [if_neg a, if_neg a]
    by_cases p2 : b0 / 32 = 6
    · have q3 : ¬ b0 / 16 = 14 := by omega
      have q4 : ¬ b0 / 8 = 30 := by omega
      simp only [p2, q3, q4, true_and, false_and, if_false] at hk ⊢
      by_cases k1 : 1 < n'
      · rw [h1 k1]
        simp [k1, show 1 < n by omega]
      · simp only [k1, false_and, if_false]
        split at hk
        · split at hk
          · exfalso; simp at hk; omega
          · rename_i e1 e2
            rw [if_pos e1, if_neg e2]
        · rename_i e1
          rw [if_neg e1]
    · by_cases p3 : b0 / 16 = 14
      · have q4 : ¬ b0 / 8 = 30 := by omega
        simp only [p2, p3, q4, true_and, false_and, if_false] at hk ⊢
        by_cases k2 : 2 < n'
        · rw [h1 (by omega), h2 k2]
          simp [k2, show 1 < n' by omega, show 1 < n by omega, show 2 < n by omega]
        · simp only [k2, false_and, and_false, if_false]
          split at hk
          · split at hk
            · exfalso; simp at hk; omega
            · rename_i e1 e2
              rw [if_pos e1, if_neg e2]
          · rename_i e1
            rw [if_neg e1]
      · by_cases p4 : b0 / 8 = 30
        · simp only [p2, p3, p4, true_and, false_and, if_false] at hk ⊢
          by_cases k3 : 3 < n'
          · rw [h1 (by omega), h2 (by omega), h3 k3]
            simp [k3, show 1 < n' by omega, show 2 < n' by omega, show 1 < n by omega, show 2 < n by omega, show 3 < n by omega]
          · simp only [k3, false_and, and_false, if_false]
            split at hk
            · split at hk
              · exfalso; simp at hk; omega
              · rename_i e1 e2
                rw [if_pos e1, if_neg e2]
            · rename_i e1
              rw [if_neg e1]
        · simp [p2, p3, p4]

theorem dec_pos (l : List UInt8) : 1 ≤ (dec l).2 := decN_pos _ _ _ _ _
theorem dec_le (l : List UInt8) (h : l ≠ []) : (dec l).2 ≤ l.length := decN_le _ _ _ _ _ (by cases l <;> simp_all)
/-- A list that goes on behind its first rune begins with that rune. -/
theorem dec_prefix (a b : List UInt8) (ha : a ≠ []) (h : (dec (a ++ b)).2 ≤ a.length) : dec a = dec (a ++ b) := by
  have hl : 1 ≤ a.length := by cases a <;> simp_all
  have hg : ∀ k, k < a.length → (a ++ b).getD k 0 = a.getD k 0 := by
    intro k hk
    rw [List.getD_eq_getElem?_getD, List.getD_eq_getElem?_getD, List.getElem?_append_left hk]
  unfold dec at h ⊢
  rw [hg 0 (by omega)] at h ⊢
  exact decN_mono _ _ _ _ _ _ _ _ _ (by simp) hl (fun k => by rw [hg 1 k]) (fun k => by rw [hg 2 k]) (fun k => by rw [hg 3 k]) h
end Txt
end Go.Proofs.YtbhoklhcdefabaaDoor
