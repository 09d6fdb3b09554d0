/- Plain mathematics: keys, read off bytes; it makes no difference where these are cut. -/
import Derived.Test.YtjilgapoioploaaDoorParseMath
import Derived.Test.YtjilgapoioploaaDoorTextList
import Derived.Lib.DecodeNEq
import Derived.Lib.AtoiAll
import Derived.Lib.Bytealg
namespace Go.Proofs.YtjilgapoioploaaDoor
namespace Kys
open Txt (dec wd)
open Prs (fullN)
structure Ky where
  kind : Int
  r : Int
  n : Int
  held : Int
  deriving DecidableEq
def fl (l : List UInt8) : Bool := if l.length = 0 then false else fullN l.length (l.getD 0 0).toNat (l.getD 1 0).toNat (l.getD 2 0).toNat
def ctl (c : UInt8) : Ky :=
  if c = 9 then ⟨3, 0, 0, 0⟩ else if c = 13 then ⟨2, 0, 0, 0⟩ else if c = 8 ∨ c = 127 then ⟨4, 0, 0, 0⟩ else if c = 0 then ⟨1, 32, 0, 0⟩
  else if c.toNat ≤ 26 then ⟨1, 96 + (c.toNat : Int), 0, 4⟩ else ⟨1, 63, 0, 0⟩
def kEsc : Ky := ⟨5, 0, 0, 0⟩
def zk : Ky := ⟨0, 0, 0, 0⟩
/-- A rune, or what is taken for it. -/
def shown (l : List UInt8) : Int := if wd ((dec l).1 : Int) = 0 then 63 else ((dec l).1 : Int)
def plainL (l : List UInt8) (last : Bool) : Ky × Nat :=
  if (l.getD 0 0).toNat < 32 ∨ (l.getD 0 0).toNat = 127 then (ctl (l.getD 0 0), 1)
  else if last = false ∧ fl l = false then (zk, 0)
  else (⟨1, shown l, 0, 0⟩, (dec l).2)
def unendedL (last : Bool) : Ky × Nat := if last then (kEsc, 1) else (zk, 0)
def isNum (c : UInt8) : Bool := (decide (48 ≤ c.toNat) && decide (c.toNat ≤ 57)) || decide (c.toNat = 59)
def aheadF : Nat → List UInt8 → Nat
  | 0, _ => 0
  | _, [] => 0
  | f + 1, c :: r => if isNum c then aheadF f r + 1 else 0
/-- What stands ahead of the first ;, behind it, and is there one? -/
def cutA (l : List UInt8) : List UInt8 := if Lib.indexByte l 59 < 0 then l else l.take (Lib.indexByte l 59).toNat
def cutB (l : List UInt8) : List UInt8 := if Lib.indexByte l 59 < 0 then [] else l.drop ((Lib.indexByte l 59).toNat + 1)
def cutF (l : List UInt8) : Bool := decide (0 ≤ Lib.indexByte l 59)
def heldN (l : List UInt8) : Option Int := match Lib.atoiAll l with
  | .ok v => if 1 ≤ v ∧ v ≤ 8 then some (v - 1) else none
  | _ => none
def numT : List (Int × Int) := [(0, 0), (0, 0), (0, 0), (14, 0), (0, 0), (12, 0), (13, 0), (0, 0), (0, 0), (0, 0), (0, 0), (15, 1), (15, 2), (15, 3), (15, 4), (15, 5), (0, 0), (15, 6), (15, 7), (15, 8), (15, 9), (15, 10), (0, 0), (15, 11), (15, 12)]
def withLetterL (kind : Int) (ns : List UInt8) : Option Ky :=
  if ns = [] then some ⟨kind, 0, 0, 0⟩
  else if Lib.atoiAll (cutA ns) = .ok 1 then (heldN (cutB ns)).map fun h => ⟨kind, 0, 0, h⟩ else none
def withNumberL (ns : List UInt8) : Option Ky := match Lib.atoiAll (cutA ns) with
  | .ok n => if n < 25 ∧ (numT.getD n.toNat (0, 0)).1 ≠ 0 ∧ ¬ (cutF ns = true ∧ heldN (cutB ns) = none) then some ⟨(numT.getD n.toNat (0, 0)).1, 0, (numT.getD n.toNat (0, 0)).2, (heldN (cutB ns)).getD 0⟩ else none
  | _ => none
def lettersL : List UInt8 := [65, 66, 67, 68, 72, 70]
def toldL (kind : UInt8) (ns : List UInt8) (fin : UInt8) : Option Ky :=
  if 0 ≤ Lib.indexByte lettersL fin then withLetterL (6 + Lib.indexByte lettersL fin) ns
  else if fin = 126 then withNumberL ns
  else if fin = 90 ∧ kind = 91 ∧ ns = [] then some ⟨3, 0, 0, 1⟩ else none
def endL (l : List UInt8) : Nat := if l.getD 1 0 = 91 then 2 + aheadF 10 (l.drop 2) else 2
def seqL (l : List UInt8) (last : Bool) : Ky × Nat :=
  if endL l = l.length then unendedL last
  else match toldL (l.getD 1 0) ((l.drop 2).take (endL l - 2)) (l.getD (endL l) 0) with
    | none => (kEsc, 1)
    | some k => (k, endL l + 1)
/-- Alt, too. -/
def alt (h : Int) : Int := if h = 4 then 6 else 2
def firstL (l : List UInt8) (last : Bool) : Ky × Nat :=
  if l.getD 0 0 ≠ 27 then plainL l last
  else if l.length = 1 then unendedL last
  else if l.getD 1 0 = 91 ∨ l.getD 1 0 = 79 then seqL l last
  else if l.getD 1 0 = 27 ∨ l.getD 1 0 = 9 then (kEsc, 1)
  else if (plainL (l.drop 1) last).2 = 0 then (zk, 0)
  else ({ (plainL (l.drop 1) last).1 with held := alt (plainL (l.drop 1) last).1.held }, 1 + (plainL (l.drop 1) last).2)
def rdF : Nat → List UInt8 → Bool → List Ky × List UInt8
  | 0, l, _ => ([], l)
  | f + 1, l, last => if l = [] then ([], []) else if (firstL l last).2 = 0 then ([], l)
    else ((firstL l last).1 :: (rdF f (l.drop (firstL l last).2) last).1, (rdF f (l.drop (firstL l last).2) last).2)
def rd (l : List UInt8) (last : Bool) : List Ky × List UInt8 := rdF l.length l last

theorem aheadF_le : ∀ (f : Nat) (l : List UInt8), aheadF f l ≤ l.length
  | 0, _ => Nat.zero_le _
  | f + 1, [] => Nat.zero_le _
  | f + 1, c :: r => by
    unfold aheadF
    have := aheadF_le f r
    split <;> simp <;> omega
theorem aheadF_app : ∀ (f : Nat) (a b : List UInt8), aheadF f a < a.length → aheadF f (a ++ b) = aheadF f a
  | 0, a, b, _ => by simp [aheadF]
  | f + 1, [], b, h => by simp [aheadF] at h
  | f + 1, c :: r, b, h => by
    rw [List.cons_append]
    unfold aheadF at h ⊢
    split
    · rename_i hc
      rw [if_pos hc] at h
      rw [aheadF_app f r b (by simpa using h)]
    · rfl
theorem fullN_dec (n n' x0 x1 x2 b1 b2 b3 : Nat) (h0 : x0 < 256) (h1' : b1 < 256) (h2' : b2 < 256) (h3' : b3 < 256) (hn : 1 ≤ n) (hnn : n ≤ n') (h1 : 1 < n → b1 = x1) (h2 : 2 < n → b2 = x2) (hf : fullN n x0 x1 x2 = true) : (Lib.decodeN n' x0 b1 b2 b3).2 ≤ n := by
  rcases Lib.firstT_cases x0 with h | h | h | h | h | h | h | h | h
  · rw [Lib.ascii_eq _ _ _ _ _ h]; exact hn
  · rw [Lib.bad_eq _ _ _ _ _ h0 h]; exact hn
  all_goals
    rw [← Lib.slow_eq n' x0 b1 b2 b3 (by omega) h1' h2' h3' (by omega), h]
    unfold fullN at hf
    rw [h] at hf
    simp only [Lib.slowN, Lib.accLo, Lib.accHi] at hf ⊢
    simp at hf ⊢
    repeat' split
    all_goals simp
    all_goals try omega
    all_goals
      exfalso
      revert hf
      simp
      try omega
theorem fl_dec (a b : List UInt8) (hf : fl a = true) : dec (a ++ b) = dec a ∧ a ≠ [] := by
  have ha : a ≠ [] := by
    rintro rfl
    simp [fl] at hf
  have hl : a.length ≠ 0 := by
    intro h; exact ha (List.length_eq_zero_iff.1 h)
  refine ⟨(Txt.dec_prefix a b ha ?_).symm, ha⟩
  unfold fl at hf
  rw [if_neg hl] at hf
  unfold Txt.dec
  have g0 : (a ++ b).getD 0 0 = a.getD 0 0 := by
    simp [List.getD_eq_getElem?_getD, List.getElem?_append_left (show 0 < a.length by omega)]
  rw [g0]
  refine fullN_dec a.length _ _ (a.getD 1 0).toNat (a.getD 2 0).toNat _ _ _ (UInt8.toNat_lt _) (UInt8.toNat_lt _) (UInt8.toNat_lt _) (UInt8.toNat_lt _) (by omega) (by simp) ?_ ?_ hf
  · intro h
    simp [List.getD_eq_getElem?_getD, List.getElem?_append_left h]
  · intro h
    simp [List.getD_eq_getElem?_getD, List.getElem?_append_left h]
theorem fullN_mono (n n' x0 x1 x2 b1 b2 : Nat) (hnn : n ≤ n') (h1 : 1 < n → b1 = x1) (h2 : 2 < n → b2 = x2) (hf : fullN n x0 x1 x2 = true) : fullN n' x0 b1 b2 = true := by
  unfold fullN at hf ⊢
  by_cases c1 : Lib.firstT x0 % 8 ≤ n'
  · rw [if_pos c1]
  · rw [if_neg c1]
    rw [if_neg (show ¬ Lib.firstT x0 % 8 ≤ n by omega)] at hf
    by_cases c2 : 1 < n ∧ (x1 < Lib.accLo (Lib.firstT x0 / 16) ∨ Lib.accHi (Lib.firstT x0 / 16) < x1)
    · rw [if_pos ⟨by omega, by rw [h1 c2.1]; exact c2.2⟩]
    · rw [if_neg c2] at hf
      have h3 := of_decide_eq_true hf
      split
      · rfl
      · exact decide_eq_true ⟨by omega, by rw [h2 h3.1]; exact h3.2⟩
theorem fl_app (a b : List UInt8) (hf : fl a = true) : fl (a ++ b) = true := by
  have hl : a.length ≠ 0 := by
    intro h
    simp [fl, h] at hf
  unfold fl at hf ⊢
  rw [if_neg hl] at hf
  rw [if_neg (by rw [List.length_append]; omega)]
  have g0 : (a ++ b).getD 0 0 = a.getD 0 0 := by
    simp [List.getD_eq_getElem?_getD, List.getElem?_append_left (show 0 < a.length by omega)]
  rw [g0]
  refine fullN_mono a.length _ _ (a.getD 1 0).toNat (a.getD 2 0).toNat _ _ (by simp) ?_ ?_ hf
  · intro h
    simp [List.getD_eq_getElem?_getD, List.getElem?_append_left h]
  · intro h
    simp [List.getD_eq_getElem?_getD, List.getElem?_append_left h]
theorem getD_app (a b : List UInt8) (i : Nat) (h : i < a.length) : (a ++ b).getD i 0 = a.getD i 0 := by
  simp [List.getD_eq_getElem?_getD, List.getElem?_append_left h]
theorem plain_app (a b : List UInt8) (last : Bool) (ha : a ≠ []) (h : (plainL a false).2 ≠ 0) : plainL (a ++ b) last = plainL a false := by
  have hl : 0 < a.length := List.length_pos_iff.2 ha
  unfold plainL at h ⊢
  rw [getD_app a b 0 hl]
  by_cases h1 : (a.getD 0 0).toNat < 32 ∨ (a.getD 0 0).toNat = 127
  · rw [if_pos h1, if_pos h1]
  · rw [if_neg h1] at h ⊢
    rw [if_neg h1]
    by_cases h2 : fl a = false
    · rw [if_pos ⟨rfl, h2⟩] at h
      exact absurd rfl h
    · have hf : fl a = true := by simpa using h2
      have hd := (fl_dec a b hf).1
      have hfa : fl (a ++ b) = true := fl_app a b hf
      rw [if_neg (fun c => Bool.noConfusion (hfa.symm.trans c.2)), if_neg (fun c => h2 c.2)]
      unfold shown
      rw [hd]
theorem plain_le (a : List UInt8) (last : Bool) (ha : a ≠ []) : (plainL a last).2 ≤ a.length := by
  have hl : 0 < a.length := List.length_pos_iff.2 ha
  unfold plainL
  split
  · exact hl
  · split
    · exact Nat.zero_le _
    · exact Txt.dec_le a ha
theorem end_le (a : List UInt8) (h : 2 ≤ a.length) : endL a ≤ a.length := by
  unfold endL
  split
  · have := aheadF_le 10 (a.drop 2)
    simp at this
    omega
  · exact h
theorem end_app (a b : List UInt8) (h : 2 ≤ a.length) (he : endL a ≠ a.length) : endL (a ++ b) = endL a := by
  have hle := end_le a h
  unfold endL at he hle ⊢
  rw [getD_app a b 1 (by omega)]
  split
  · rename_i h1
    rw [if_pos h1] at he hle
    rw [List.drop_append_of_le_length h, aheadF_app 10 (a.drop 2) b (by simp; omega)]
  · rfl
theorem seq_app (a b : List UInt8) (last : Bool) (h2 : 2 ≤ a.length) (h : (seqL a false).2 ≠ 0) : seqL (a ++ b) last = seqL a false := by
  have hle := end_le a h2
  by_cases he : endL a = a.length
  · unfold seqL at h
    rw [if_pos he] at h
    exact absurd rfl h
  · have e1 := end_app a b h2 he
    have hlt : endL a < a.length := by omega
    have h2e : 2 ≤ endL a := by unfold endL; split <;> omega
    unfold seqL
    rw [e1, if_neg he, if_neg (by simp; omega), getD_app a b 1 (by omega), getD_app a b _ hlt, List.drop_append_of_le_length h2, List.take_append_of_le_length (by simp; omega)]
theorem seq_le (a : List UInt8) (last : Bool) (h2 : 2 ≤ a.length) : (seqL a last).2 ≤ a.length := by
  have hle := end_le a h2
  unfold seqL unendedL
  split
  · cases last <;> simp <;> omega
  · split <;> simp <;> omega
theorem first_le (a : List UInt8) (last : Bool) (ha : a ≠ []) : (firstL a last).2 ≤ a.length := by
  have hl : 0 < a.length := List.length_pos_iff.2 ha
  unfold firstL
  split
  · exact plain_le a last ha
  · split
    · unfold unendedL
      cases last <;> simp <;> omega
    · split
      · exact seq_le a last (by omega)
      · split
        · exact hl
        · split
          · exact Nat.zero_le _
          · have := plain_le (a.drop 1) last (by intro h; have := congrArg List.length h; simp at this; omega)
            simp at this ⊢
            omega
theorem first_app (a b : List UInt8) (last : Bool) (ha : a ≠ []) (h : (firstL a false).2 ≠ 0) : firstL (a ++ b) last = firstL a false := by
  have hl : 0 < a.length := List.length_pos_iff.2 ha
  unfold firstL at h ⊢
  rw [getD_app a b 0 hl]
  by_cases h1 : a.getD 0 0 ≠ 27
  · rw [if_pos h1] at h ⊢
    rw [if_pos h1]
    exact plain_app a b last ha h
  · rw [if_neg h1] at h ⊢
    rw [if_neg h1]
    by_cases h2 : a.length = 1
    · rw [if_pos h2] at h
      exact absurd rfl h
    · rw [if_neg h2] at h ⊢
      rw [if_neg (by simp; omega), getD_app a b 1 (by omega)]
      by_cases h3 : a.getD 1 0 = 91 ∨ a.getD 1 0 = 79
      · rw [if_pos h3] at h ⊢
        rw [if_pos h3]
        exact seq_app a b last (by omega) h
      · rw [if_neg h3] at h ⊢
        rw [if_neg h3]
        by_cases h4 : a.getD 1 0 = 27 ∨ a.getD 1 0 = 9
        · rw [if_pos h4, if_pos h4]
        · rw [if_neg h4] at h ⊢
          rw [if_neg h4]
          by_cases h5 : (plainL (a.drop 1) false).2 = 0
          · rw [if_pos h5] at h
            exact absurd rfl h
          · rw [List.drop_append_of_le_length (by omega), plain_app (a.drop 1) b last (by intro h; have := congrArg List.length h; simp at this; omega) h5]
theorem plain_last (l : List UInt8) : (plainL l true).2 ≠ 0 := by
  unfold plainL
  split
  · simp
  · rw [if_neg (by simp)]
    have := Txt.dec_pos l
    show (dec l).2 ≠ 0
    omega
theorem first_last (l : List UInt8) : (firstL l true).2 ≠ 0 := by
  unfold firstL
  split
  · exact plain_last l
  · split
    · simp [unendedL]
    · split
      · unfold seqL
        split
        · simp [unendedL]
        · split <;> simp
      · split
        · simp
        · rw [if_neg (plain_last _)]
          simp
theorem rdF_more : ∀ (f : Nat) (l : List UInt8) (last : Bool), l.length ≤ f → rdF f l last = rdF l.length l last := by
  intro f
  induction f using Nat.strongRecOn with
  | ind f ih =>
    intro l last h
    by_cases he : l = []
    · subst he
      cases f <;> simp [rdF]
    · have hl : 0 < l.length := List.length_pos_iff.2 he
      obtain ⟨f', rfl⟩ : ∃ f', f = f' + 1 := ⟨f - 1, by omega⟩
      obtain ⟨m, hm⟩ : ∃ m, l.length = m + 1 := ⟨l.length - 1, by omega⟩
      rw [hm]
      unfold rdF
      rw [if_neg he, if_neg he]
      by_cases h0 : (firstL l last).2 = 0
      · rw [if_pos h0, if_pos h0]
      · rw [if_neg h0, if_neg h0]
        have hd : (l.drop (firstL l last).2).length ≤ m := by simp; omega
        rw [ih f' (by omega) _ last (by omega)]
        by_cases hmf : m < f' + 1
        · rw [ih m hmf _ last hd]
        · omega
theorem rd_nil (last : Bool) : rd [] last = ([], []) := rfl
theorem rd_stop (l : List UInt8) (last : Bool) (he : l ≠ []) (h : (firstL l last).2 = 0) : rd l last = ([], l) := by
  have hl : 0 < l.length := List.length_pos_iff.2 he
  obtain ⟨m, hm⟩ : ∃ m, l.length = m + 1 := ⟨l.length - 1, by omega⟩
  unfold rd
  rw [hm]
  unfold rdF
  rw [if_neg he, if_pos h]
theorem rd_go (l : List UInt8) (last : Bool) (he : l ≠ []) (h : (firstL l last).2 ≠ 0) : rd l last = ((firstL l last).1 :: (rd (l.drop (firstL l last).2) last).1, (rd (l.drop (firstL l last).2) last).2) := by
  have hl : 0 < l.length := List.length_pos_iff.2 he
  obtain ⟨m, hm⟩ : ∃ m, l.length = m + 1 := ⟨l.length - 1, by omega⟩
  unfold rd
  rw [hm]
  conv => lhs; unfold rdF
  rw [if_neg he, if_neg h, rdF_more m _ last (by simp; omega)]
theorem rd_len : ∀ (n : Nat) (l : List UInt8) (last : Bool), l.length ≤ n → (rd l last).2.length + (rd l last).1.length ≤ l.length := by
  intro n
  induction n with
  | zero =>
    intro l last h
    have : l = [] := List.length_eq_zero_iff.1 (by omega)
    subst this
    simp [rd_nil]
  | succ n ih =>
    intro l last h
    by_cases he : l = []
    · subst he
      simp [rd_nil]
    · by_cases h0 : (firstL l last).2 = 0
      · rw [rd_stop l last he h0]
        simp
      · rw [rd_go l last he h0]
        have hl : 0 < l.length := List.length_pos_iff.2 he
        have := ih (l.drop (firstL l last).2) last (by simp; omega)
        simp at this ⊢
        have hle := first_le l last he
        omega
theorem rd_last : ∀ (n : Nat) (l : List UInt8), l.length ≤ n → (rd l true).2 = [] := by
  intro n
  induction n with
  | zero =>
    intro l h
    have : l = [] := List.length_eq_zero_iff.1 (by omega)
    subst this
    rfl
  | succ n ih =>
    intro l h
    by_cases he : l = []
    · subst he
      rfl
    · rw [rd_go l true he (first_last l)]
      have hl : 0 < l.length := List.length_pos_iff.2 he
      have hp := first_last l
      exact ih _ (by simp; omega)
/-- It makes no difference where bytes are cut. -/
theorem rd_cut : ∀ (n : Nat) (a b : List UInt8) (last : Bool), a.length ≤ n → rd (a ++ b) last = ((rd a false).1 ++ (rd ((rd a false).2 ++ b) last).1, (rd ((rd a false).2 ++ b) last).2) := by
  intro n
  induction n with
  | zero =>
    intro a b last h
    have : a = [] := List.length_eq_zero_iff.1 (by omega)
    subst this
    simp [rd_nil]
  | succ n ih =>
    intro a b last h
    by_cases he : a = []
    · subst he
      simp [rd_nil]
    · by_cases h0 : (firstL a false).2 = 0
      · rw [rd_stop a false he h0]
        simp
      · have e1 := first_app a b last he h0
        have hle := first_le a false he
        have hl : 0 < a.length := List.length_pos_iff.2 he
        rw [rd_go (a ++ b) last (by simp [he]) (by rw [e1]; exact h0), e1, rd_go a false he h0, List.drop_append_of_le_length hle]
        rw [ih (a.drop (firstL a false).2) b last (by simp; omega)]
        rfl
end Kys
end Go.Proofs.YtjilgapoioploaaDoor
