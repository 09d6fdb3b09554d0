/- Plain mathematics: what is clean stays so. Encoding a rune and decoding it again gives the rune. No program is named. -/
import Derived.Test.YtlodmffiengnaaaDoorTextKeep
import Derived.Lib.RuneBytes
namespace Go.Proofs.YtlodmffiengnaaaDoor
namespace Txt
/-- A rune that can be encoded. -/
def okRune (r : Int) : Prop := (0 ≤ r ∧ r < 55296) ∨ (57343 < r ∧ r ≤ 1114111)
theorem decN_ok (n b0 b1 b2 b3 : Nat) : okRune (Lib.decodeN n b0 b1 b2 b3).1 := by
  unfold okRune Lib.decodeN
  repeat' split
  all_goals simp
  all_goals omega
theorem dec_ok (l : List UInt8) : okRune (dec l).1 := decN_ok _ _ _ _ _
theorem decN_two (n c b2 b3 : Nat) (hn : 2 ≤ n) (h0 : 128 ≤ c) (h1 : c ≤ 2047) : Lib.decodeN n (192 + c / 64) (128 + c % 64) b2 b3 = (c, 2) := by
  unfold Lib.decodeN
  rw [if_neg (by omega), if_pos ⟨by omega, by omega, by omega⟩, if_pos (by omega)]
  congr 1; omega
theorem decN_three (n c b3 : Nat) (hn : 3 ≤ n) (h : (2048 ≤ c ∧ c < 55296) ∨ (57343 < c ∧ c ≤ 65535)) : Lib.decodeN n (224 + c / 4096) (128 + c / 64 % 64) (128 + c % 64) b3 = (c, 3) := by
  unfold Lib.decodeN
  have e : (224 + c / 4096) % 16 * 4096 + (128 + c / 64 % 64) % 64 * 64 + (128 + c % 64) % 64 = c := by omega
  rw [if_neg (by omega), if_neg (by omega), if_pos ⟨by omega, ⟨by omega, by omega⟩, by omega, by omega⟩, e, if_pos (by omega)]
theorem decN_four (n c : Nat) (hn : 4 ≤ n) (h0 : 65536 ≤ c) (h1 : c ≤ 1114111) : Lib.decodeN n (240 + c / 262144) (128 + c / 4096 % 64) (128 + c / 64 % 64) (128 + c % 64) = (c, 4) := by
  unfold Lib.decodeN
  have e : (240 + c / 262144) % 8 * 262144 + (128 + c / 4096 % 64) % 64 * 4096 + (128 + c / 64 % 64) % 64 * 64 + (128 + c % 64) % 64 = c := by omega
  rw [if_neg (by omega), if_neg (by omega), if_neg (by omega), if_pos ⟨by omega, ⟨by omega, by omega⟩, ⟨by omega, by omega⟩, by omega, by omega⟩, e, if_pos (by omega)]
theorem byte_toNat (n : Nat) (h : n < 256) : (n.toUInt8).toNat = n := by
  rw [Nat.toUInt8, UInt8.toNat_ofNat']; omega
/-- Encoding, then decoding. -/
theorem dec_encode (r : Int) (h : okRune r) (b : List UInt8) : dec (Lib.encodeRune r ++ b) = (r.toNat, (Lib.encodeRune r).length) := by
  obtain ⟨c, rfl⟩ := Int.eq_ofNat_of_zero_le (show 0 ≤ r by unfold okRune at h; omega)
  unfold okRune at h
  unfold Lib.encodeRune
  by_cases h1 : c ≤ 127
  · rw [Lib.encodeRuneZ_one (by omega) (by omega)]
    simp only [List.map_cons, List.map_nil, List.cons_append, List.nil_append, dec, List.getD_cons_zero, Int.toNat_natCast, byte_toNat c (by omega)]
    rw [decN_ascii _ _ _ _ _ (by omega)]
    rfl
  · by_cases h2 : c ≤ 2047
    · rw [Lib.encodeRuneZ_two (by omega) (by omega)]
      simp only [List.map_cons, List.map_nil, List.cons_append, List.nil_append, dec, List.getD_cons_zero, List.getD_cons_succ, Int.toNat_natCast]
      rw [show (192 + (c : Int) / 64).toNat = 192 + c / 64 by omega, show (128 + (c : Int) % 64).toNat = 128 + c % 64 by omega, byte_toNat _ (by omega), byte_toNat _ (by omega)]
      exact decN_two _ c _ _ (by simp) (by omega) (by omega)
    · by_cases h3 : c ≤ 65535
      · rw [Lib.encodeRuneZ_three (by omega)]
        simp only [List.map_cons, List.map_nil, List.cons_append, List.nil_append, dec, List.getD_cons_zero, List.getD_cons_succ, Int.toNat_natCast]
        rw [show (224 + (c : Int) / 4096).toNat = 224 + c / 4096 by omega, show (128 + (c : Int) / 64 % 64).toNat = 128 + c / 64 % 64 by omega, show (128 + (c : Int) % 64).toNat = 128 + c % 64 by omega, byte_toNat _ (by omega), byte_toNat _ (by omega), byte_toNat _ (by omega)]
        exact decN_three _ c _ (by simp) (by omega)
      · rw [Lib.encodeRuneZ_four (by omega) (by omega)]
        simp only [List.map_cons, List.map_nil, List.cons_append, List.nil_append, dec, List.getD_cons_zero, List.getD_cons_succ, Int.toNat_natCast]
        rw [show (240 + (c : Int) / 262144).toNat = 240 + c / 262144 by omega, show (128 + (c : Int) / 4096 % 64).toNat = 128 + c / 4096 % 64 by omega, show (128 + (c : Int) / 64 % 64).toNat = 128 + c / 64 % 64 by omega, show (128 + (c : Int) % 64).toNat = 128 + c % 64 by omega, byte_toNat _ (by omega), byte_toNat _ (by omega), byte_toNat _ (by omega), byte_toNat _ (by omega)]
        exact decN_four _ c (by simp) (by omega) (by omega)
theorem encode_ne (r : Int) : Lib.encodeRune r ≠ [] := by
  intro e
  have := Lib.encodeRuneZ_length r
  have h := congrArg List.length e
  simp only [Lib.encodeRune, List.length_map, List.length_nil] at h
  omega
theorem rn_encode (r : Int) (h : okRune r) (b : List UInt8) : rn (Lib.encodeRune r ++ b) = (r, (Lib.encodeRune r).length) :: rn b := by
  rw [rn_cons _ (by simp [encode_ne]), dec_encode r h b]
  have h0 : 0 ≤ r := by unfold okRune at h; omega
  simp only [List.drop_left, Int.toNat_of_nonneg h0]
/-- The runes of a list of bytes can all be encoded. -/
theorem rl_ok : ∀ (f : Nat) (l : List UInt8), ∀ x ∈ rl f l, okRune x.1
  | 0, _, x, hx => by simp [rl] at hx
  | f + 1, l, x, hx => by
    by_cases hl : l = []
    · subst hl; rw [rl_nil] at hx; cases hx
    · rw [rl_cons f l hl] at hx
      rcases List.mem_cons.1 hx with rfl | hx
      · exact dec_ok l
      · exact rl_ok f _ x hx
end Txt
end Go.Proofs.YtlodmffiengnaaaDoor
