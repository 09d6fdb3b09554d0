/- Plain mathematics: keys, written and named; what is written is read again, and a name names its key. -/
import Derived.Test.YtjilgapoioploaaDoorKeysM
import Derived.Test.YtjilgapoioploaaDoorTextCleanMath
namespace Go.Proofs.YtjilgapoioploaaDoor
namespace Kys
open Txt (dec wd okRune)
def chkR (k : Ky) : Bool :=
  if k.held = 4 ∨ k.held = 6 then decide (97 ≤ k.r ∧ k.r ≤ 122 ∧ k.r ≠ 104 ∧ k.r ≠ 105 ∧ k.r ≠ 109)
  else if k.held = 0 ∨ k.held = 2 ∧ ¬ (k.r = 91 ∨ k.r = 79) then decide (wd k.r ≠ 0) else false
def chk (k : Ky) : Bool :=
  if k.held < 0 ∨ 7 < k.held ∨ (k.r ≠ 0 ∧ k.kind ≠ 1) ∨ (k.n ≠ 0 ∧ k.kind ≠ 15) then false
  else if k.kind = 1 then chkR k
  else if k.kind = 2 ∨ k.kind = 4 then decide (k.held = 0 ∨ k.held = 2)
  else if k.kind = 3 then decide (k.held = 0 ∨ k.held = 1)
  else if k.kind = 5 then decide (k.held = 0)
  else if k.kind = 15 then decide (1 ≤ k.n ∧ k.n ≤ 12)
  else decide (6 ≤ k.kind ∧ k.kind ≤ 14)
def altA (h : Int) : List UInt8 := if h = 2 ∨ h = 6 then [27] else []
def heldB (h : Int) : List UInt8 := if h = 0 then [] else [59, UInt8.ofNat (49 + h.toNat)]
def numOf (kind n : Int) : Nat := if kind = 14 then 3 else if kind = 12 then 5 else if kind = 13 then 6 else if n ≤ 5 then 10 + n.toNat else if n ≤ 10 then 11 + n.toNat else 12 + n.toNat
def digB (n : Nat) : List UInt8 := if n < 10 then [UInt8.ofNat (48 + n)] else [UInt8.ofNat (48 + n / 10), UInt8.ofNat (48 + n % 10)]
def letB (kind : Int) : UInt8 := lettersL.getD (kind - 6).toNat 0
def wrR (k : Ky) : Int := if k.held = 4 ∨ k.held = 6 then k.r - 96 else k.r
def wr (k : Ky) (kp : Bool) : List UInt8 :=
  if k.kind = 1 then altA k.held ++ Lib.encodeRune (wrR k)
  else if k.kind = 2 then altA k.held ++ [13]
  else if k.kind = 3 then (if k.held ≠ 0 then [27, 91, 90] else [9])
  else if k.kind = 4 then altA k.held ++ [127]
  else if k.kind = 5 then [27]
  else if k.kind ≤ 11 then (if k.held ≠ 0 then [27, 91, 49] ++ heldB k.held ++ [letB k.kind] else if kp then [27, 79, letB k.kind] else [27, 91, letB k.kind])
  else [27, 91] ++ digB (numOf k.kind k.n) ++ heldB k.held ++ [126]
/-- All keys that can be told but runes. -/
def plainKeys : List Ky := [⟨2, 0, 0, 0⟩, ⟨2, 0, 0, 2⟩, ⟨4, 0, 0, 0⟩, ⟨4, 0, 0, 2⟩, ⟨3, 0, 0, 0⟩, ⟨3, 0, 0, 1⟩, ⟨5, 0, 0, 0⟩] ++ ((List.range 9).flatMap fun i : Nat => (List.range 8).map fun h : Nat => ⟨6 + (i : Int), 0, 0, h⟩) ++ ((List.range 12).flatMap fun i : Nat => (List.range 8).map fun h : Nat => ⟨15, 0, 1 + (i : Int), h⟩)
def ctrlKeys : List Ky := (List.range 26).flatMap fun i : Nat => [⟨1, 97 + (i : Int), 0, 4⟩, ⟨1, 97 + (i : Int), 0, 6⟩]
theorem held_cases {h : Int} (h0 : 0 ≤ h) (h1 : h ≤ 7) : ∃ j, j < 8 ∧ h = ((j : Nat) : Int) := ⟨h.toNat, by omega, by omega⟩
theorem chk_cases (k : Ky) (h : chk k = true) : k ∈ plainKeys ∨ (k ∈ ctrlKeys ∧ k.r ≠ 104 ∧ k.r ≠ 105 ∧ k.r ≠ 109) ∨ (k.kind = 1 ∧ k.n = 0 ∧ wd k.r ≠ 0 ∧ (k.held = 0 ∨ k.held = 2 ∧ ¬ (k.r = 91 ∨ k.r = 79))) := by
  obtain ⟨kind, r, n, held⟩ := k
  unfold chk at h
  simp only at h
  split at h
  · cases h
  · rename_i h0
    have e0 : 0 ≤ held := by omega
    have e7 : held ≤ 7 := by omega
    split at h
    · rename_i h1
      subst h1
      have hn : n = 0 := by omega
      subst hn
      unfold chkR at h
      simp only at h
      split at h
      · rename_i hc
        have hr := of_decide_eq_true h
        refine Or.inr (Or.inl ⟨?_, hr.2.2⟩)
        obtain ⟨i, hi, rfl⟩ : ∃ i : Nat, i < 26 ∧ r = 97 + (i : Int) := ⟨(r - 97).toNat, by omega, by omega⟩
        refine List.mem_flatMap.2 ⟨i, List.mem_range.2 hi, ?_⟩
        rcases hc with rfl | rfl <;> simp
      · split at h
        · rename_i hc
          exact Or.inr (Or.inr ⟨rfl, rfl, of_decide_eq_true h, hc⟩)
        · cases h
    · rename_i h1
      have hr : r = 0 := by omega
      subst hr
      refine Or.inl ?_
      obtain ⟨j, hj, rfl⟩ := held_cases e0 e7
      split at h
      · rename_i h2
        have hn : n = 0 := by omega
        subst hn
        have h3 := of_decide_eq_true h
        have : j = 0 ∨ j = 2 := by omega
        rcases h2 with rfl | rfl <;> rcases this with rfl | rfl <;> decide
      · split at h
        · rename_i h2
          subst h2
          have hn : n = 0 := by omega
          subst hn
          have h3 := of_decide_eq_true h
          have : j = 0 ∨ j = 1 := by omega
          rcases this with rfl | rfl <;> decide
        · split at h
          · rename_i h2
            subst h2
            have hn : n = 0 := by omega
            subst hn
            have h3 := of_decide_eq_true h
            have : j = 0 := by omega
            subst this
            decide
          · split at h
            · rename_i h2
              subst h2
              have h3 := of_decide_eq_true h
              obtain ⟨i, hi, rfl⟩ : ∃ i : Nat, i < 12 ∧ n = 1 + (i : Int) := ⟨(n - 1).toNat, by omega, by omega⟩
              refine List.mem_append_right _ (List.mem_flatMap.2 ⟨i, List.mem_range.2 hi, List.mem_map.2 ⟨j, List.mem_range.2 hj, rfl⟩⟩)
            · have h3 := of_decide_eq_true h
              have hn : n = 0 := by omega
              subst hn
              obtain ⟨i, hi, rfl⟩ : ∃ i : Nat, i < 9 ∧ kind = 6 + (i : Int) := ⟨(kind - 6).toNat, by omega, by omega⟩
              refine List.mem_append_left _ (List.mem_append_right _ (List.mem_flatMap.2 ⟨i, List.mem_range.2 hi, List.mem_map.2 ⟨j, List.mem_range.2 hj, rfl⟩⟩))
theorem wr_plain : ∀ k ∈ plainKeys, ∀ kp : Bool, firstL (wr k kp) true = (k, (wr k kp).length) ∧ wr k kp ≠ [] ∧ (wr k kp).length ≤ 16 := by decide +kernel
theorem wr_ctrl : ∀ k ∈ ctrlKeys, k.r ≠ 104 ∧ k.r ≠ 105 ∧ k.r ≠ 109 → ∀ kp : Bool, firstL (wr k kp) true = (k, (wr k kp).length) ∧ wr k kp ≠ [] ∧ (wr k kp).length ≤ 16 := by decide +kernel
theorem wd_bounds (r : Int) (h : wd r ≠ 0) : okRune r ∧ 32 ≤ r ∧ r ≠ 127 := by
  unfold wd at h
  split at h
  · exact absurd rfl h
  · rename_i h0
    by_cases h1 : r ≤ 31
    · exfalso; apply h
      simp only [Txt.spans, Txt.look]
      rw [if_neg (by omega), if_pos h1]
    · by_cases h2 : r = 127
      · exfalso; apply h
        subst h2
        decide
      · by_cases h3 : 55296 ≤ r ∧ r ≤ 57343
        · exfalso; apply h
          simp only [Txt.spans, Txt.look]
          repeat (first | rw [if_neg (by omega)] | rw [if_pos (by omega)])
        · exact ⟨by unfold okRune; omega, by omega, h2⟩
/-- The first byte of a rune. -/
theorem enc_head (r : Int) (h : okRune r) : (r ≤ 127 ∧ Lib.encodeRune r = [UInt8.ofNat r.toNat]) ∨ (127 < r ∧ 128 ≤ ((Lib.encodeRune r).getD 0 0).toNat) := by
  obtain ⟨c, rfl⟩ := Int.eq_ofNat_of_zero_le (show 0 ≤ r by unfold okRune at h; omega)
  unfold okRune at h
  unfold Lib.encodeRune
  by_cases h1 : c ≤ 127
  · exact Or.inl ⟨by omega, by rw [Lib.encodeRuneZ_one (by omega) (by omega)]; simp⟩
  · refine Or.inr ⟨by omega, ?_⟩
    by_cases h2 : c ≤ 2047
    · rw [Lib.encodeRuneZ_two (by omega) (by omega)]
      simp only [List.map_cons, List.map_nil, List.getD_cons_zero]
      rw [show (192 + (c : Int) / 64).toNat = 192 + c / 64 by omega, Txt.byte_toNat _ (by omega)]
      omega
    · by_cases h3 : c ≤ 65535
      · rw [Lib.encodeRuneZ_three (by omega)]
        simp only [List.map_cons, List.map_nil, List.getD_cons_zero]
        rw [show (224 + (c : Int) / 4096).toNat = 224 + c / 4096 by omega, Txt.byte_toNat _ (by omega)]
        omega
      · rw [Lib.encodeRuneZ_four (by omega) (by omega)]
        simp only [List.map_cons, List.map_nil, List.getD_cons_zero]
        rw [show (240 + (c : Int) / 262144).toNat = 240 + c / 262144 by omega, Txt.byte_toNat _ (by omega)]
        omega
theorem enc_first (r : Int) (h : okRune r) (h32 : 32 ≤ r) (h127 : r ≠ 127) : 32 ≤ ((Lib.encodeRune r).getD 0 0).toNat ∧ ((Lib.encodeRune r).getD 0 0).toNat ≠ 127 ∧ (∀ x : UInt8, x.toNat < 128 → (Lib.encodeRune r).getD 0 0 = x → r = (x.toNat : Int)) := by
  rcases enc_head r h with ⟨h1, e⟩ | ⟨h1, h2⟩
  · rw [e]
    have hb : (UInt8.ofNat r.toNat).toNat = r.toNat := by rw [UInt8.toNat_ofNat']; omega
    simp only [List.getD_cons_zero, hb]
    refine ⟨by omega, by omega, ?_⟩
    intro x _ hx
    have := congrArg UInt8.toNat hx
    rw [hb] at this
    omega
  · refine ⟨by omega, by omega, ?_⟩
    intro x hx e
    rw [e] at h2
    omega
theorem plain_enc (r : Int) (h : wd r ≠ 0) : plainL (Lib.encodeRune r) true = (⟨1, r, 0, 0⟩, (Lib.encodeRune r).length) := by
  obtain ⟨ho, h32, h127⟩ := wd_bounds r h
  obtain ⟨e1, e2, e3⟩ := enc_first r ho h32 h127
  have hd := Txt.dec_encode r ho []
  rw [List.append_nil] at hd
  unfold plainL
  rw [if_neg (by omega), if_neg (by simp), hd]
  unfold shown
  rw [hd]
  simp only
  rw [show ((r.toNat : Nat) : Int) = r by omega, if_neg h]
theorem wr_rune (k : Ky) (h1 : k.kind = 1) (h2 : k.n = 0) (h3 : wd k.r ≠ 0) (h4 : k.held = 0 ∨ k.held = 2 ∧ ¬ (k.r = 91 ∨ k.r = 79)) (kp : Bool) : firstL (wr k kp) true = (k, (wr k kp).length) ∧ wr k kp ≠ [] ∧ (wr k kp).length ≤ 16 := by
  obtain ⟨kind, r, n, held⟩ := k
  simp only at h1 h2 h3 h4
  subst h1 h2
  obtain ⟨ho, h32, h127⟩ := wd_bounds r h3
  obtain ⟨e1, e2, e3⟩ := enc_first r ho h32 h127
  have hl : (Lib.encodeRune r).length ≤ 4 := by
    have := Lib.encodeRuneZ_length r
    simp only [Lib.encodeRune, List.length_map]
    omega
  rcases h4 with rfl | ⟨rfl, h5⟩
  · have e : wr ⟨1, r, 0, 0⟩ kp = Lib.encodeRune r := by simp [wr, altA, wrR]
    rw [e]
    refine ⟨?_, Txt.encode_ne r, by omega⟩
    unfold firstL
    rw [if_pos (fun c => by rw [c] at e1; simp at e1)]
    exact plain_enc r h3
  · have e : wr ⟨1, r, 0, 2⟩ kp = 27 :: Lib.encodeRune r := by simp [wr, altA, wrR]
    rw [e]
    refine ⟨?_, by simp, by simp; omega⟩
    have hne := Txt.encode_ne r
    have hl0 : 0 < (Lib.encodeRune r).length := List.length_pos_iff.2 hne
    unfold firstL
    simp only [List.getD_cons_zero, List.getD_cons_succ, List.length_cons, List.drop_succ_cons, List.drop_zero, plain_enc r h3]
    rw [if_neg (by simp), if_neg (by omega)]
    rw [if_neg, if_neg, if_neg (by omega)]
    · simp [alt]; omega
    · rintro (c | c)
      · rw [c] at e1; simp at e1
      · rw [c] at e1; simp at e1
    · rintro (c | c)
      · exact h5 (Or.inl (by have := e3 91 (by decide) c; simpa using this))
      · exact h5 (Or.inr (by have := e3 79 (by decide) c; simpa using this))
theorem wr_any (k : Ky) (h : chk k = true) (kp : Bool) : firstL (wr k kp) true = (k, (wr k kp).length) ∧ wr k kp ≠ [] ∧ (wr k kp).length ≤ 16 := by
  rcases chk_cases k h with h1 | ⟨h1, h2⟩ | ⟨h1, h2, h3, h4⟩
  · exact wr_plain k h1 kp
  · exact wr_ctrl k h1 h2 kp
  · exact wr_rune k h1 h2 h3 h4 kp
/-- What is written is read again. -/
theorem rd_wr (k : Ky) (h : chk k = true) (kp : Bool) : rd (wr k kp) true = ([k], []) := by
  obtain ⟨h1, h2, _⟩ := wr_any k h kp
  have hl : (wr k kp).length ≠ 0 := by simpa using h2
  rw [rd_go _ true h2 (by rw [h1]; exact hl), h1]
  simp [rd_nil]
end Kys
end Go.Proofs.YtjilgapoioploaaDoor
