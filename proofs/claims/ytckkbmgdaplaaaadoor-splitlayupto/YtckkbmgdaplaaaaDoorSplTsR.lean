/- Package split: the reader of a text: what a text says of trees is what is read of it. -/
import Derived.Test.YtckkbmgdaplaaaaDoorSplParts2
namespace Go.Proofs.YtckkbmgdaplaaaaDoor
open Go.ChangeShapes Go.WideShapes Go.ChangeAt Go.RowKit Go.Maps Go.Sort
namespace Spl
open Fo
theorem next_lt {t : ByteArray} {p : Nat} {c : UInt8} (h : nextIs t p c = true) : p < t.size := by
  unfold nextIs at h
  split at h
  · assumption
  · simp at h
theorem szd_le {t : ByteArray} {m m2 : Nat} {sz : Int} (h : Szd t m m2 sz) (hm : m ≤ t.size) : m ≤ m2 ∧ m2 ≤ t.size := by
  rcases h with ⟨_, _, rfl⟩ | ⟨h1, _, k, hn, rfl⟩
  · exact ⟨Nat.le_refl _, hm⟩
  · have := hn.2.2.1
    omega
theorem ts_len (t : ByteArray) : ∀ (f : Fo) (o p q : Nat), TsAt t o f p q → p + f.len ≤ q ∧ q ≤ t.size
  | nil, _, _, _, h => absurd h id
  | cons wy pn sz ks rs, o, p, q, h => by
    obtain ⟨m, m2, h1, hs, h2⟩ := h
    have hm : p + 1 ≤ m ∧ m ≤ t.size := by
      rcases h1 with ⟨_, _, k, hn, rfl, _⟩ | ⟨_, _, _, _, m0, hk, hx, rfl⟩
      · have a1 := hn.1
        have a2 := hn.2.2.1
        omega
      · have a1 := ts_len t ks (o + 1) (p + 1) m0 hk
        have a2 := next_lt hx
        omega
    have hs2 := szd_le hs hm.2
    rcases h2 with ⟨rfl, rfl, _⟩ | ⟨_, hr⟩
    · simp only [len]; omega
    · have a1 := ts_len t rs o (m2 + 1) q hr
      simp only [len]; omega
theorem opens_1 : opens 1 = 123 := by decide
theorem opens_2 : opens 2 = 91 := by decide
theorem shuts_1 : shuts 1 = 125 := by decide
theorem shuts_2 : shuts 2 = 93 := by decide
theorem next_not {t : ByteArray} {p : Nat} {a b : UInt8} (hab : a ≠ b) (h : nextIs t p a = true) : nextIs t p b = false := by
  unfold nextIs at h ⊢
  split at h
  · rename_i hj
    rw [dif_pos hj, eq_of_beq h]
    exact beq_eq_false_iff_ne.2 hab
  · simp at h
theorem row_of_ts (R : Nat) (t b0 b1 b2 : ByteArray) (hts : t.size ≤ 100000) (hb : Br b1 b2) : ∀ (f : Fo) (o p q : Nat), TsAt t o f p q → Row1 R t b0 b1 b2 o f p q
  | nil, _, _, _, h => absurd h id
  | cons wy pn sz ks rs, o, p, q, h => by
    have hall := ts_len t _ o p q h
    obtain ⟨m, m2, h1, hs, h2⟩ := h
    have hm : p + 1 ≤ m ∧ m ≤ t.size := by
      rcases h1 with ⟨_, _, k, hn, rfl, _⟩ | ⟨_, _, _, _, m0, hk, hx, rfl⟩
      · have a1 := hn.1
        have a2 := hn.2.2.1
        omega
      · have a1 := ts_len t ks (o + 1) (p + 1) m0 hk
        have a2 := next_lt hx
        omega
    have hs2 := szd_le hs hm.2
    refine ⟨m2, hs2.2, ?_, ?_⟩
    · rcases h1 with ⟨rfl, rfl, k, hn, rfl, hx1, hx2⟩ | ⟨hw, rfl, ho, hop, m0, hk, hx, rfl⟩
      · intro W hr hB
        refine (part_num R t b0 b1 b2 p m2 k o pn sz W hr hts hB hb hx1 hx2 hn hs).mono ?_
        rintro e w' ⟨rfl, r, b⟩
        exact ⟨_, rfl, KAt.nil _, r, b⟩
      · have hrow := row_of_ts R t b0 b1 b2 hts hb ks (o + 1) (p + 1) m0 hk
        have a1 := ts_len t ks (o + 1) (p + 1) m0 hk
        rcases hw with rfl | rfl
        · rw [opens_1] at hop
          rw [shuts_1] at hx
          intro W hr hB
          exact part_1 R t b0 b1 b2 p m2 (m0 + 1) o sz ks W hr hts hB hb hop hm.2 (fun V hV hBV => parts_1 R t b0 b1 b2 p m0 o ks V hV hts hBV hb ho (by omega) hrow (by omega) hx) hs
        · rw [opens_2] at hop
          rw [shuts_2] at hx
          intro W hr hB
          exact part_2 R t b0 b1 b2 p m2 (m0 + 1) o sz ks W hr hts hB hb (next_not (by decide) hop) hop hm.2 (fun V hV hBV => parts_2 R t b0 b1 b2 p m0 o ks V hV hts hBV hb ho (by omega) hrow (by omega) hx) hs
    · rcases h2 with ⟨rfl, rfl, hx⟩ | ⟨hx, hr⟩
      · exact .inl ⟨rfl, rfl, hx⟩
      · exact .inr ⟨hx, row_of_ts R t b0 b1 b2 hts hb rs o (m2 + 1) q hr⟩
end Spl
end Go.Proofs.YtckkbmgdaplaaaaDoor
