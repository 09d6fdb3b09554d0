/- Plain mathematics: a reader of bytes, its states and what it tells. -/
import Derived.Test.YtplceodnllcimaaDoorProg
import Derived.Shelf.Unicode.DecodeSlow
import Derived.WalkKit
import Derived.Lib.OthersKept
import Derived.Lib.DecodeN
import Derived.Lib.Strings
import Derived.Lib.DecodeNEq
import Derived.Lib.AtoiAll
import Derived.Lib.Bytealg
import Derived.Lib.RuneBytes
import Derived.Test.YtplceodnllcimaaDoorRows
import Derived.ProofKit
import Derived.OpenShut
import Derived.Deep.LoopGhost
import Derived.Deep.Draws
import Derived.Laws.Rows
import Derived.Laws.Tables
import Derived.WalkSmall
namespace Go.Proofs.YtplceodnllcimaaDoor
namespace Prs
/-- The text of no byte; of one. -/
def nt : ByteArray := ⟨#[]⟩
def one (x : UInt8) : ByteArray := ⟨#[x]⟩
structure St where
  at' : Int
  mark : Int
  mid : ByteArray
  ps : List Int
  txt : ByteArray
  left : ByteArray
  late : Bool
structure Ev where
  kind : Int
  r : Int
  fin : Int
  mark : Int
  mid : ByteArray
  ps : List Int
  txt : ByteArray
def bare (a : Int) : St := ⟨a, 0, nt, [], nt, nt, false⟩
def evP (r : Int) : Ev := ⟨1, r, 0, 0, nt, [], nt⟩
def evC (r : Int) : Ev := ⟨2, r, 0, 0, nt, [], nt⟩
def isCtl (x : UInt8) : Bool := decide (x.toNat < 32) || decide (x.toNat = 127)
def isMid (x : UInt8) : Bool := decide (32 ≤ x.toNat) && decide (x.toNat ≤ 47)
def isDig (x : UInt8) : Bool := decide (48 ≤ x.toNat) && decide (x.toNat ≤ 57)
def isMark (x : Int) : Bool := decide (60 ≤ x) && decide (x ≤ 63)
/-- Do n bytes x0, x1, x2 .. begin with a whole rune? -/
def fullN (n x0 x1 x2 : Nat) : Bool :=
  if Lib.firstT x0 % 8 ≤ n then true
  else if 1 < n ∧ (x1 < Lib.accLo (Lib.firstT x0 / 16) ∨ Lib.accHi (Lib.firstT x0 / 16) < x1) then true
  else decide (2 < n ∧ (x2 < 128 ∨ 191 < x2))
def full (s : ByteArray) : Bool := if s.size = 0 then false else fullN s.size (s.get! 0).toNat (s.get! 1).toNat (s.get! 2).toNat
/-- All runes that are whole, and what is left. -/
def drain : Nat → ByteArray → List Ev × ByteArray
  | 0, s => ([], s)
  | n + 1, s => if full s then ((evP (Lib.decodeGo s).1) :: (drain n (s.extract (Lib.decodeGo s).2 s.size)).1, (drain n (s.extract (Lib.decodeGo s).2 s.size)).2) else ([], s)
def inGround (s : St) (x : UInt8) : St × List Ev := ({ s with left := (drain (s.left ++ one x).size (s.left ++ one x)).2 }, (drain (s.left ++ one x).size (s.left ++ one x)).1)
def control (s : St) (x : UInt8) : St × List Ev :=
  if x.toNat = 27 then (bare 1, List.replicate s.left.size (evP 65533))
  else if x.toNat = 24 ∨ x.toNat = 26 then (bare 0, List.replicate s.left.size (evP 65533))
  else if x.toNat = 127 then ({ s with left := nt }, List.replicate s.left.size (evP 65533))
  else ({ s with left := nt }, List.replicate s.left.size (evP 65533) ++ [evC x.toNat])
def inEscape (x : UInt8) : St × List Ev :=
  if x.toNat = 91 then (bare 3, [])
  else if x.toNat = 93 then (bare 4, [])
  else if isMid x then ({ bare 2 with mid := one x }, [])
  else if x.toNat < 128 then (bare 0, [⟨3, 0, x.toNat, 0, nt, [], nt⟩])
  else (bare 0, [])
def inMiddle (s : St) (x : UInt8) : St × List Ev :=
  if isMid x = true ∧ s.mid.size < 2 then ({ s with mid := s.mid ++ one x }, [])
  else if isMid x = false ∧ x.toNat < 128 then (bare 0, [⟨3, 0, x.toNat, 0, s.mid, [], nt⟩])
  else (bare 0, [])
/-- The numbers, once a first one is there. -/
def begun (l : List Int) : List Int := if l = [] then [-1] else l
def digit (l : List Int) (x : UInt8) : List Int := l.set (l.length - 1) (min (max (l.getD (l.length - 1) 0) 0 * 10 + ((x.toNat : Int) - 48)) 9999)
def param (s : St) (x : UInt8) : St :=
  if isDig x then { s with ps := digit (begun s.ps) x }
  else if (begun s.ps).length < 16 then { s with ps := begun s.ps ++ [-1] }
  else bare 5
def inCommand (s : St) (x : UInt8) : St × List Ev :=
  if (isDig x = true ∨ x.toNat = 59) ∧ s.mid.size = 0 then (param s x, [])
  else if isMark x.toNat = true ∧ s.mark = 0 ∧ s.ps = [] ∧ s.mid.size = 0 then ({ s with mark := x.toNat }, [])
  else if isMid x = true ∧ s.mid.size < 2 then ({ s with mid := s.mid ++ one x }, [])
  else if 128 ≤ x.toNat then (bare 0, [])
  else if 64 ≤ x.toNat then (bare 0, [⟨4, 0, x.toNat, s.mark, s.mid, s.ps, nt⟩])
  else (bare 5, [])
def inSystem (s : St) (x : UInt8) : St × List Ev :=
  if s.late = true ∨ x.toNat = 7 then (bare 0, [⟨5, 0, 0, 0, nt, [], s.txt⟩])
  else if x.toNat = 27 then ({ s with late := true }, [])
  else if x.toNat = 24 ∨ x.toNat = 26 then (bare 0, [])
  else if 32 ≤ x.toNat ∧ s.txt.size < 64 then ({ s with txt := s.txt ++ one x }, [])
  else (s, [])
def inSkip (s : St) (x : UInt8) : St × List Ev := if 64 ≤ x.toNat then (bare 0, []) else (s, [])
def acts (s : St) (x : UInt8) : St × List Ev :=
  if s.at' = 0 then inGround s x else if s.at' = 1 then inEscape x else if s.at' = 2 then inMiddle s x else if s.at' = 3 then inCommand s x else if s.at' = 4 then inSystem s x else inSkip s x
def woken (s : St) (x : UInt8) : St := if s.late = true ∧ x.toNat ≠ 92 then bare 1 else s
def take (s : St) (x : UInt8) : St × List Ev :=
  if (woken s x).at' ≠ 4 ∧ isCtl x = true then control (woken s x) x else acts (woken s x) x
/-- All bytes, one after the other. -/
def feed (s : St) : List UInt8 → St × List Ev
  | [] => (s, [])
  | x :: l => ((feed (take s x).1 l).1, (take s x).2 ++ (feed (take s x).1 l).2)
theorem feed_append (s : St) (a b : List UInt8) : feed s (a ++ b) = ((feed (feed s a).1 b).1, (feed s a).2 ++ (feed (feed s a).1 b).2) := by
  induction a generalizing s with
  | nil => simp [feed]
  | cons x a ih => simp [feed, ih, List.append_assoc]
theorem feed_snoc (s : St) (a : List UInt8) (x : UInt8) : feed s (a ++ [x]) = ((take (feed s a).1 x).1, (feed s a).2 ++ (take (feed s a).1 x).2) := by
  rw [feed_append]
  simp [feed]
end Prs
end Go.Proofs.YtplceodnllcimaaDoor

/- Plain mathematics on the widths of runes: the same width by spans and by edges. It imports nothing of the program. -/
namespace Go.Proofs.YtplceodnllcimaaDoor
namespace Txt

/-- The spans of package text: first, last, width. -/
def spans : List (Int × Int × Int) := [(0x0, 0x1F, 0), (0x7F, 0x9F, 0), (0x300, 0x36F, 0), (0x1100, 0x115F, 2), (0x200B, 0x200F, 0), (0x2028, 0x202E, 0), (0x20D0, 0x20FF, 0), (0x2E80, 0x303E, 2), (0x3041, 0x4DBF, 2), (0x4E00, 0xA4CF, 2), (0xAC00, 0xD7A3, 2), (0xD800, 0xDFFF, 0), (0xF900, 0xFAFF, 2), (0xFE00, 0xFE0F, 0), (0xFE30, 0xFE6F, 2), (0xFEFF, 0xFEFF, 0), (0xFF00, 0xFF60, 2), (0xFFE0, 0xFFE6, 2), (0x1F300, 0x1F64F, 2), (0x1F900, 0x1F9FF, 2), (0x20000, 0x3FFFD, 2)]
/-- The edges at which the width changes: from, width. -/
def edges : List (Int × Int) := [(0, 0), (0x20, 1), (0x7f, 0), (0xa0, 1), (0x300, 0), (0x370, 1), (0x1100, 2), (0x1160, 1), (0x200b, 0), (0x2010, 1), (0x2028, 0), (0x202f, 1), (0x20d0, 0), (0x2100, 1), (0x2e80, 2), (0x303f, 1), (0x3041, 2), (0x4dc0, 1), (0x4e00, 2), (0xa4d0, 1), (0xac00, 2), (0xd7a4, 1), (0xd800, 0), (0xe000, 1), (0xf900, 2), (0xfb00, 1), (0xfe00, 0), (0xfe10, 1), (0xfe30, 2), (0xfe70, 1), (0xfeff, 0), (0xff00, 2), (0xff61, 1), (0xffe0, 2), (0xffe7, 1), (0x1f300, 2), (0x1f650, 1), (0x1f900, 2), (0x1fa00, 1), (0x20000, 2), (0x3fffe, 1)]

def look : List (Int × Int × Int) → Int → Int
  | [], _ => 1
  | x :: t, r => if r < x.1 then 1 else if r ≤ x.2.1 then x.2.2 else look t r
def edge (r : Int) : List (Int × Int) → Int → Int
  | [], acc => acc
  | x :: t, acc => edge r t (if x.1 ≤ r then x.2 else acc)
/-- The width of a rune. -/
def wd (r : Int) : Int := if r < 0 ∨ 1114111 < r then 0 else look spans r

/-- Edges that rise: one may stop at the first that is beyond r. -/
def edgeE (r : Int) : List (Int × Int) → Int → Int
  | [], acc => acc
  | x :: t, acc => if r < x.1 then acc else edgeE r t x.2
def rising : List (Int × Int) → Bool
  | [] => true
  | [_] => true
  | x :: y :: t => decide (x.1 < y.1) && rising (y :: t)
theorem edge_beyond (r : Int) : ∀ (l : List (Int × Int)) (acc : Int), rising l = true → (∀ x ∈ l.head?, r < x.1) → edge r l acc = acc
  | [], _, _, _ => rfl
  | [x], acc, _, h => by
    have hx : r < x.1 := h x rfl
    simp only [edge, if_neg (show ¬ x.1 ≤ r by omega)]
  | x :: y :: t, acc, hr, h => by
    have hx : r < x.1 := h x rfl
    simp only [rising, Bool.and_eq_true, decide_eq_true_eq] at hr
    unfold edge
    rw [if_neg (show ¬ x.1 ≤ r by omega)]
    exact edge_beyond r (y :: t) acc hr.2 (fun z hz => by obtain rfl := Option.some.inj hz; omega)
theorem edge_eq (r : Int) : ∀ (l : List (Int × Int)) (acc : Int), rising l = true → edge r l acc = edgeE r l acc
  | [], _, _ => rfl
  | x :: t, acc, hr => by
    have ht : rising t = true := by
      cases t with
      | nil => rfl
      | cons y t => simp only [rising, Bool.and_eq_true] at hr; exact hr.2
    by_cases h : r < x.1
    · rw [edge_beyond r (x :: t) acc hr (fun z hz => by obtain rfl := Option.some.inj hz; exact h)]
      simp [edgeE, h]
    · unfold edge edgeE
      rw [if_neg h, if_pos (show x.1 ≤ r by omega)]
      exact edge_eq r t x.2 ht
theorem look_step (r a b b' c : Int) (hb : b' = b + 1) (t : List (Int × Int × Int)) (u : List (Int × Int)) (ht : b < r → look t r = edgeE r u 1) :
    look ((a, b, c) :: t) r = edgeE r ((a, c) :: (b', 1) :: u) 1 := by
  subst hb
  simp only [look, edgeE]
  by_cases h1 : r < a
  · simp [h1]
  · by_cases h2 : r ≤ b
    · simp [h1, h2, show r < b + 1 by omega]
    · simp only [if_neg h1, if_neg h2, if_neg (show ¬ r < b + 1 by omega)]
      exact ht (by omega)
theorem merge_edge (r a b c a' : Int) (u : List (Int × Int)) : edgeE r ((a, c) :: (b, 1) :: (b, a') :: u) 1 = edgeE r ((a, c) :: (b, a') :: u) 1 := by
  simp only [edgeE]
  by_cases h1 : r < a <;> by_cases h2 : r < b <;> simp [h1, h2]
theorem look_edges (r : Int) (h0 : 0 ≤ r) : look spans r = edge r edges 0 := by
  rw [edge_eq r edges 0 (by decide)]
  have e0 : edgeE r edges 0 = edgeE r edges 1 := by
    unfold edges
    conv => lhs; unfold edgeE
    conv => rhs; unfold edgeE
    rw [if_neg (by show ¬ r < 0; omega), if_neg (by show ¬ r < 0; omega)]
  rw [e0]
  unfold spans edges
  iterate 15 (refine look_step _ _ _ _ _ (by decide) _ _ (fun _ => ?_))
  rw [← merge_edge]
  iterate 6 (refine look_step _ _ _ _ _ (by decide) _ _ (fun _ => ?_))
  rfl
theorem wd_edge (r : Int) (h0 : 0 ≤ r) (h1 : r ≤ 1114111) : wd r = edge r edges 0 := by
  unfold wd
  rw [if_neg (by omega)]
  exact look_edges r h0
theorem look_range (r : Int) : ∀ l : List (Int × Int × Int), (∀ x ∈ l, 0 ≤ x.2.2 ∧ x.2.2 ≤ 2) → 0 ≤ look l r ∧ look l r ≤ 2
  | [], _ => by simp [look]
  | x :: t, h => by
    have hx := h x (by simp)
    have ht := look_range r t (fun y hy => h y (by simp [hy]))
    unfold look
    split
    · omega
    · split <;> omega
theorem wd_range (r : Int) : 0 ≤ wd r ∧ wd r ≤ 2 := by
  unfold wd
  split
  · omega
  · exact look_range r spans (by decide)
end Txt
end Go.Proofs.YtplceodnllcimaaDoor

/- Plain mathematics on the runes of a text, over the model's own decoding of UTF-8: no program is named. -/
namespace Go.Proofs.YtplceodnllcimaaDoor
namespace Txt

/-- The runes of s from place pos on, each with how many bytes it takes; at most so many. -/
def rs (s : ByteArray) : Nat → Nat → List (Int × Nat)
  | 0, _ => []
  | f + 1, pos => if pos < s.size then (((Utf8.decode s pos).1 : Int), (Utf8.decode s pos).2) :: rs s f (pos + (Utf8.decode s pos).2) else []
def runes (s : ByteArray) : List (Int × Nat) := rs s s.size 0
def wideL : List (Int × Nat) → Int
  | [] => 0
  | x :: t => wd x.1 + wideL t
def wideS (s : ByteArray) : Int := wideL (runes s)
/-- How many bytes of a text's runes are left when it is cut: 'w' cells have been taken. -/
def cutL (n : Int) : List (Int × Nat) → Int → Nat
  | [], _ => 0
  | x :: t, w => if n < w + wd x.1 then 0 else x.2 + cutL n t (w + wd x.1)
def cutS (s : ByteArray) (n : Int) : List UInt8 := s.data.toList.take (cutL n (runes s) 0)

theorem width_pos (s : ByteArray) (pos : Nat) (h : pos < s.size) : 1 ≤ (Utf8.decode s pos).2 := by
  by_cases ha : (s[pos]'h).toNat < 128
  · rw [decode_ascii s pos h ha]
    exact Nat.le_refl _
  · exact (decode_high s pos h (by omega)).2
theorem rs_end (s : ByteArray) (f pos : Nat) (h : ¬ pos < s.size) : rs s f pos = [] := by
  cases f with
  | zero => rfl
  | succ f => simp [rs, h]
theorem rs_step (s : ByteArray) (f pos : Nat) (h : pos < s.size) : rs s (f + 1) pos = (((Utf8.decode s pos).1 : Int), (Utf8.decode s pos).2) :: rs s f (pos + (Utf8.decode s pos).2) := by
  simp [rs, h]
theorem decode_fits (s : ByteArray) (pos : Nat) (h : pos < s.size) : pos + (Utf8.decode s pos).2 ≤ s.size := by
  simp only [Utf8.decode]
  repeat' split
  all_goals simp_all
  all_goals omega
theorem wideL_range : ∀ l : List (Int × Nat), 0 ≤ wideL l ∧ wideL l ≤ 2 * l.length
  | [] => by simp [wideL]
  | x :: t => by
    have := wideL_range t
    have := wd_range x.1
    simp only [wideL, List.length_cons]
    omega
theorem rs_length (s : ByteArray) : ∀ f pos : Nat, pos ≤ s.size → (rs s f pos).length + pos ≤ s.size
  | 0, _, h => by simpa [rs] using h
  | f + 1, pos, h => by
    by_cases hp : pos < s.size
    · have h1 := rs_length s f (pos + (Utf8.decode s pos).2) (decode_fits s pos hp)
      have h2 := width_pos s pos hp
      rw [rs_step s f pos hp, List.length_cons]
      omega
    · rw [rs_end s _ pos hp]; simpa using h
theorem wideS_range (s : ByteArray) : 0 ≤ wideS s ∧ wideS s ≤ 2 * s.size := by
  have h1 := wideL_range (runes s)
  have h2 := rs_length s s.size 0 (Nat.zero_le _)
  unfold wideS
  unfold runes at h1 ⊢
  omega
end Txt
end Go.Proofs.YtplceodnllcimaaDoor

/- Plain mathematics on lists of bytes and their runes: cutting a text at the end of a rune. No program is named. -/
namespace Go.Proofs.YtplceodnllcimaaDoor
namespace Txt

/-- The first rune of a list of bytes, and how many of them it takes. -/
def dec (l : List UInt8) : Nat × Nat := Lib.decodeN l.length (l.getD 0 0).toNat (l.getD 1 0).toNat (l.getD 2 0).toNat (l.getD 3 0).toNat

theorem get_drop (s : ByteArray) (i k : Nat) : s.get! (i + k) = (s.data.toList.drop i).getD k 0 := by
  show s.data[i + k]! = _
  rw [List.getD_eq_getElem?_getD, List.getElem?_drop, Array.getElem?_toList, getElem!_def]
  cases s.data[i + k]? <;> rfl
theorem decode_dec (s : ByteArray) (pos : Nat) : Utf8.decode s pos = dec (s.data.toList.drop pos) := by
  rw [Lib.decode_at]
  unfold dec
  rw [show s.get! pos = s.get! (pos + 0) from rfl, get_drop, get_drop, get_drop, get_drop]
  simp

/-- The runes of a list of bytes. -/
def rl : Nat → List UInt8 → List (Int × Nat)
  | 0, _ => []
  | f + 1, l => if l = [] then [] else (((dec l).1 : Int), (dec l).2) :: rl f (l.drop (dec l).2)
def rn (l : List UInt8) : List (Int × Nat) := rl l.length l

theorem rs_rl (s : ByteArray) : ∀ f pos : Nat, rs s f pos = rl f (s.data.toList.drop pos)
  | 0, _ => rfl
  | f + 1, pos => by
    by_cases h : pos < s.size
    · rw [rs_step s f pos h, rs_rl s f]
      have hne : s.data.toList.drop pos ≠ [] := by
        intro e
        have := congrArg List.length e
        simp at this
        omega
      simp only [rl, if_neg hne, ← decode_dec, List.drop_drop]
    · rw [rs_end s _ pos h]
      have he : s.data.toList.drop pos = [] := List.drop_eq_nil_iff.2 (by simp; omega)
      simp [rl, he]
theorem runes_rn (s : ByteArray) : runes s = rn s.data.toList := by
  unfold runes rn
  rw [rs_rl]
  simp

theorem decN_ascii (n b0 b1 b2 b3 : Nat) (h : b0 < 128) : Lib.decodeN n b0 b1 b2 b3 = (b0, 1) := by
  simp [Lib.decodeN, h]
theorem decN_one (b0 b1 b2 b3 n : Nat) (hn : n ≤ 1) (h : ¬ b0 < 128) : Lib.decodeN n b0 b1 b2 b3 = (65533, 1) := by
  have h1 : ¬ 1 < n := by omega
  simp [Lib.decodeN, h, h1]
theorem decN_pos (n b0 b1 b2 b3 : Nat) : 1 ≤ (Lib.decodeN n b0 b1 b2 b3).2 := by
  unfold Lib.decodeN
  repeat' split
  all_goals simp
theorem decN_le (n b0 b1 b2 b3 : Nat) (hn : 1 ≤ n) : (Lib.decodeN n b0 b1 b2 b3).2 ≤ n := by
  unfold Lib.decodeN
  repeat' split
  all_goals simp
  all_goals omega
theorem decN_mono (n n' b0 b1 b2 b3 c1 c2 c3 : Nat) (hn : n' ≤ n) (hp : 1 ≤ n') (h1 : 1 < n' → c1 = b1) (h2 : 2 < n' → c2 = b2) (h3 : 3 < n' → c3 = b3)
    (hk : (Lib.decodeN n b0 b1 b2 b3).2 ≤ n') : Lib.decodeN n' b0 c1 c2 c3 = Lib.decodeN n b0 b1 b2 b3 := by
  by_cases a : b0 < 128
  · rw [decN_ascii _ _ _ _ _ a, decN_ascii _ _ _ _ _ a]
  · unfold Lib.decodeN at hk ⊢
    rw [if_neg a] at hk
    rw [if_neg a, if_neg a]
    by_cases p2 : b0 / 32 = 6
    · have q3 : ¬ b0 / 16 = 14 := by omega
      have q4 : ¬ b0 / 8 = 30 := by omega
      simp only [p2, q3, q4, true_and, false_and, if_false] at hk ⊢
      by_cases k1 : 1 < n'
      · rw [h1 k1]
        simp [k1, show 1 < n by omega]
      · simp only [k1, false_and, if_false]
        split at hk
        · split at hk
          · exfalso; simp at hk; omega
          · rename_i e1 e2
            rw [if_pos e1, if_neg e2]
        · rename_i e1
          rw [if_neg e1]
    · by_cases p3 : b0 / 16 = 14
      · have q4 : ¬ b0 / 8 = 30 := by omega
        simp only [p2, p3, q4, true_and, false_and, if_false] at hk ⊢
        by_cases k2 : 2 < n'
        · rw [h1 (by omega), h2 k2]
          simp [k2, show 1 < n' by omega, show 1 < n by omega, show 2 < n by omega]
        · simp only [k2, false_and, and_false, if_false]
          split at hk
          · split at hk
            · exfalso; simp at hk; omega
            · rename_i e1 e2
              rw [if_pos e1, if_neg e2]
          · rename_i e1
            rw [if_neg e1]
      · by_cases p4 : b0 / 8 = 30
        · simp only [p2, p3, p4, true_and, false_and, if_false] at hk ⊢
          by_cases k3 : 3 < n'
          · rw [h1 (by omega), h2 (by omega), h3 k3]
            simp [k3, show 1 < n' by omega, show 2 < n' by omega, show 1 < n by omega, show 2 < n by omega, show 3 < n by omega]
          · simp only [k3, false_and, and_false, if_false]
            split at hk
            · split at hk
              · exfalso; simp at hk; omega
              · rename_i e1 e2
                rw [if_pos e1, if_neg e2]
            · rename_i e1
              rw [if_neg e1]
        · simp [p2, p3, p4]

theorem dec_pos (l : List UInt8) : 1 ≤ (dec l).2 := decN_pos _ _ _ _ _
theorem dec_le (l : List UInt8) (h : l ≠ []) : (dec l).2 ≤ l.length := decN_le _ _ _ _ _ (by cases l <;> simp_all)
/-- A list that goes on behind its first rune begins with that rune. -/
theorem dec_prefix (a b : List UInt8) (ha : a ≠ []) (h : (dec (a ++ b)).2 ≤ a.length) : dec a = dec (a ++ b) := by
  have hl : 1 ≤ a.length := by cases a <;> simp_all
  have hg : ∀ k, k < a.length → (a ++ b).getD k 0 = a.getD k 0 := by
    intro k hk
    rw [List.getD_eq_getElem?_getD, List.getD_eq_getElem?_getD, List.getElem?_append_left hk]
  unfold dec at h ⊢
  rw [hg 0 (by omega)] at h ⊢
  exact decN_mono _ _ _ _ _ _ _ _ _ (by simp) hl (fun k => by rw [hg 1 k]) (fun k => by rw [hg 2 k]) (fun k => by rw [hg 3 k]) h
end Txt
end Go.Proofs.YtplceodnllcimaaDoor

/- Plain mathematics: keys, read off bytes; it makes no difference where these are cut. -/
namespace Go.Proofs.YtplceodnllcimaaDoor
namespace Kys
open Txt (dec wd)
open Prs (fullN)
structure Ky where
  kind : Int
  r : Int
  n : Int
  held : Int
  deriving DecidableEq
def fl (l : List UInt8) : Bool := if l.length = 0 then false else fullN l.length (l.getD 0 0).toNat (l.getD 1 0).toNat (l.getD 2 0).toNat
def ctl (c : UInt8) : Ky :=
  if c = 9 then ⟨3, 0, 0, 0⟩ else if c = 13 then ⟨2, 0, 0, 0⟩ else if c = 8 ∨ c = 127 then ⟨4, 0, 0, 0⟩ else if c = 0 then ⟨1, 32, 0, 0⟩
  else if c.toNat ≤ 26 then ⟨1, 96 + (c.toNat : Int), 0, 4⟩ else ⟨1, 63, 0, 0⟩
def kEsc : Ky := ⟨5, 0, 0, 0⟩
def zk : Ky := ⟨0, 0, 0, 0⟩
/-- A rune, or what is taken for it. -/
def shown (l : List UInt8) : Int := if wd ((dec l).1 : Int) = 0 then 63 else ((dec l).1 : Int)
def plainL (l : List UInt8) (last : Bool) : Ky × Nat :=
  if (l.getD 0 0).toNat < 32 ∨ (l.getD 0 0).toNat = 127 then (ctl (l.getD 0 0), 1)
  else if last = false ∧ fl l = false then (zk, 0)
  else (⟨1, shown l, 0, 0⟩, (dec l).2)
def unendedL (last : Bool) : Ky × Nat := if last then (kEsc, 1) else (zk, 0)
def isNum (c : UInt8) : Bool := (decide (48 ≤ c.toNat) && decide (c.toNat ≤ 57)) || decide (c.toNat = 59)
def aheadF : Nat → List UInt8 → Nat
  | 0, _ => 0
  | _, [] => 0
  | f + 1, c :: r => if isNum c then aheadF f r + 1 else 0
/-- What stands ahead of the first ;, behind it, and is there one? -/
def cutA (l : List UInt8) : List UInt8 := if Lib.indexByte l 59 < 0 then l else l.take (Lib.indexByte l 59).toNat
def cutB (l : List UInt8) : List UInt8 := if Lib.indexByte l 59 < 0 then [] else l.drop ((Lib.indexByte l 59).toNat + 1)
def cutF (l : List UInt8) : Bool := decide (0 ≤ Lib.indexByte l 59)
def heldN (l : List UInt8) : Option Int := match Lib.atoiAll l with
  | .ok v => if 1 ≤ v ∧ v ≤ 8 then some (v - 1) else none
  | _ => none
def numT : List (Int × Int) := [(0, 0), (0, 0), (0, 0), (14, 0), (0, 0), (12, 0), (13, 0), (0, 0), (0, 0), (0, 0), (0, 0), (15, 1), (15, 2), (15, 3), (15, 4), (15, 5), (0, 0), (15, 6), (15, 7), (15, 8), (15, 9), (15, 10), (0, 0), (15, 11), (15, 12)]
def withLetterL (kind : Int) (ns : List UInt8) : Option Ky :=
  if ns = [] then some ⟨kind, 0, 0, 0⟩
  else if Lib.atoiAll (cutA ns) = .ok 1 then (heldN (cutB ns)).map fun h => ⟨kind, 0, 0, h⟩ else none
def withNumberL (ns : List UInt8) : Option Ky := match Lib.atoiAll (cutA ns) with
  | .ok n => if n < 25 ∧ (numT.getD n.toNat (0, 0)).1 ≠ 0 ∧ ¬ (cutF ns = true ∧ heldN (cutB ns) = none) then some ⟨(numT.getD n.toNat (0, 0)).1, 0, (numT.getD n.toNat (0, 0)).2, (heldN (cutB ns)).getD 0⟩ else none
  | _ => none
def lettersL : List UInt8 := [65, 66, 67, 68, 72, 70]
def toldL (kind : UInt8) (ns : List UInt8) (fin : UInt8) : Option Ky :=
  if 0 ≤ Lib.indexByte lettersL fin then withLetterL (6 + Lib.indexByte lettersL fin) ns
  else if fin = 126 then withNumberL ns
  else if fin = 90 ∧ kind = 91 ∧ ns = [] then some ⟨3, 0, 0, 1⟩ else none
def endL (l : List UInt8) : Nat := if l.getD 1 0 = 91 then 2 + aheadF 10 (l.drop 2) else 2
def seqL (l : List UInt8) (last : Bool) : Ky × Nat :=
  if endL l = l.length then unendedL last
  else match toldL (l.getD 1 0) ((l.drop 2).take (endL l - 2)) (l.getD (endL l) 0) with
    | none => (kEsc, 1)
    | some k => (k, endL l + 1)
/-- Alt, too. -/
def alt (h : Int) : Int := if h = 4 then 6 else 2
def firstL (l : List UInt8) (last : Bool) : Ky × Nat :=
  if l.getD 0 0 ≠ 27 then plainL l last
  else if l.length = 1 then unendedL last
  else if l.getD 1 0 = 91 ∨ l.getD 1 0 = 79 then seqL l last
  else if l.getD 1 0 = 27 ∨ l.getD 1 0 = 9 then (kEsc, 1)
  else if (plainL (l.drop 1) last).2 = 0 then (zk, 0)
  else ({ (plainL (l.drop 1) last).1 with held := alt (plainL (l.drop 1) last).1.held }, 1 + (plainL (l.drop 1) last).2)
def rdF : Nat → List UInt8 → Bool → List Ky × List UInt8
  | 0, l, _ => ([], l)
  | f + 1, l, last => if l = [] then ([], []) else if (firstL l last).2 = 0 then ([], l)
    else ((firstL l last).1 :: (rdF f (l.drop (firstL l last).2) last).1, (rdF f (l.drop (firstL l last).2) last).2)
def rd (l : List UInt8) (last : Bool) : List Ky × List UInt8 := rdF l.length l last

theorem aheadF_le : ∀ (f : Nat) (l : List UInt8), aheadF f l ≤ l.length
  | 0, _ => Nat.zero_le _
  | f + 1, [] => Nat.zero_le _
  | f + 1, c :: r => by
    unfold aheadF
    have := aheadF_le f r
    split <;> simp <;> omega
theorem aheadF_app : ∀ (f : Nat) (a b : List UInt8), aheadF f a < a.length → aheadF f (a ++ b) = aheadF f a
  | 0, a, b, _ => by simp [aheadF]
  | f + 1, [], b, h => by simp [aheadF] at h
  | f + 1, c :: r, b, h => by
    rw [List.cons_append]
    unfold aheadF at h ⊢
    split
    · rename_i hc
      rw [if_pos hc] at h
      rw [aheadF_app f r b (by simpa using h)]
    · rfl
theorem fullN_dec (n n' x0 x1 x2 b1 b2 b3 : Nat) (h0 : x0 < 256) (h1' : b1 < 256) (h2' : b2 < 256) (h3' : b3 < 256) (hn : 1 ≤ n) (hnn : n ≤ n') (h1 : 1 < n → b1 = x1) (h2 : 2 < n → b2 = x2) (hf : fullN n x0 x1 x2 = true) : (Lib.decodeN n' x0 b1 b2 b3).2 ≤ n := by
  rcases Lib.firstT_cases x0 with h | h | h | h | h | h | h | h | h
  · rw [Lib.ascii_eq _ _ _ _ _ h]; exact hn
  · rw [Lib.bad_eq _ _ _ _ _ h0 h]; exact hn
  all_goals
    rw [← Lib.slow_eq n' x0 b1 b2 b3 (by omega) h1' h2' h3' (by omega), h]
    unfold fullN at hf
    rw [h] at hf
    simp only [Lib.slowN, Lib.accLo, Lib.accHi] at hf ⊢
    simp at hf ⊢
    repeat' split
    all_goals simp
    all_goals try omega
    all_goals
      exfalso
      revert hf
      simp
      try omega
theorem fl_dec (a b : List UInt8) (hf : fl a = true) : dec (a ++ b) = dec a ∧ a ≠ [] := by
  have ha : a ≠ [] := by
    rintro rfl
    simp [fl] at hf
  have hl : a.length ≠ 0 := by
    intro h; exact ha (List.length_eq_zero_iff.1 h)
  refine ⟨(Txt.dec_prefix a b ha ?_).symm, ha⟩
  unfold fl at hf
  rw [if_neg hl] at hf
  unfold Txt.dec
  have g0 : (a ++ b).getD 0 0 = a.getD 0 0 := by
    simp [List.getD_eq_getElem?_getD, List.getElem?_append_left (show 0 < a.length by omega)]
  rw [g0]
  refine fullN_dec a.length _ _ (a.getD 1 0).toNat (a.getD 2 0).toNat _ _ _ (UInt8.toNat_lt _) (UInt8.toNat_lt _) (UInt8.toNat_lt _) (UInt8.toNat_lt _) (by omega) (by simp) ?_ ?_ hf
  · intro h
    simp [List.getD_eq_getElem?_getD, List.getElem?_append_left h]
  · intro h
    simp [List.getD_eq_getElem?_getD, List.getElem?_append_left h]
theorem fullN_mono (n n' x0 x1 x2 b1 b2 : Nat) (hnn : n ≤ n') (h1 : 1 < n → b1 = x1) (h2 : 2 < n → b2 = x2) (hf : fullN n x0 x1 x2 = true) : fullN n' x0 b1 b2 = true := by
  unfold fullN at hf ⊢
  by_cases c1 : Lib.firstT x0 % 8 ≤ n'
  · rw [if_pos c1]
  · rw [if_neg c1]
    rw [if_neg (show ¬ Lib.firstT x0 % 8 ≤ n by omega)] at hf
    by_cases c2 : 1 < n ∧ (x1 < Lib.accLo (Lib.firstT x0 / 16) ∨ Lib.accHi (Lib.firstT x0 / 16) < x1)
    · rw [if_pos ⟨by omega, by rw [h1 c2.1]; exact c2.2⟩]
    · rw [if_neg c2] at hf
      have h3 := of_decide_eq_true hf
      split
      · rfl
      · exact decide_eq_true ⟨by omega, by rw [h2 h3.1]; exact h3.2⟩
theorem fl_app (a b : List UInt8) (hf : fl a = true) : fl (a ++ b) = true := by
  have hl : a.length ≠ 0 := by
    intro h
    simp [fl, h] at hf
  unfold fl at hf ⊢
  rw [if_neg hl] at hf
  rw [if_neg (by rw [List.length_append]; omega)]
  have g0 : (a ++ b).getD 0 0 = a.getD 0 0 := by
    simp [List.getD_eq_getElem?_getD, List.getElem?_append_left (show 0 < a.length by omega)]
  rw [g0]
  refine fullN_mono a.length _ _ (a.getD 1 0).toNat (a.getD 2 0).toNat _ _ (by simp) ?_ ?_ hf
  · intro h
    simp [List.getD_eq_getElem?_getD, List.getElem?_append_left h]
  · intro h
    simp [List.getD_eq_getElem?_getD, List.getElem?_append_left h]
theorem getD_app (a b : List UInt8) (i : Nat) (h : i < a.length) : (a ++ b).getD i 0 = a.getD i 0 := by
  simp [List.getD_eq_getElem?_getD, List.getElem?_append_left h]
theorem plain_app (a b : List UInt8) (last : Bool) (ha : a ≠ []) (h : (plainL a false).2 ≠ 0) : plainL (a ++ b) last = plainL a false := by
  have hl : 0 < a.length := List.length_pos_iff.2 ha
  unfold plainL at h ⊢
  rw [getD_app a b 0 hl]
  by_cases h1 : (a.getD 0 0).toNat < 32 ∨ (a.getD 0 0).toNat = 127
  · rw [if_pos h1, if_pos h1]
  · rw [if_neg h1] at h ⊢
    rw [if_neg h1]
    by_cases h2 : fl a = false
    · rw [if_pos ⟨rfl, h2⟩] at h
      exact absurd rfl h
    · have hf : fl a = true := by simpa using h2
      have hd := (fl_dec a b hf).1
      have hfa : fl (a ++ b) = true := fl_app a b hf
      rw [if_neg (fun c => Bool.noConfusion (hfa.symm.trans c.2)), if_neg (fun c => h2 c.2)]
      unfold shown
      rw [hd]
theorem plain_le (a : List UInt8) (last : Bool) (ha : a ≠ []) : (plainL a last).2 ≤ a.length := by
  have hl : 0 < a.length := List.length_pos_iff.2 ha
  unfold plainL
  split
  · exact hl
  · split
    · exact Nat.zero_le _
    · exact Txt.dec_le a ha
theorem end_le (a : List UInt8) (h : 2 ≤ a.length) : endL a ≤ a.length := by
  unfold endL
  split
  · have := aheadF_le 10 (a.drop 2)
    simp at this
    omega
  · exact h
theorem end_app (a b : List UInt8) (h : 2 ≤ a.length) (he : endL a ≠ a.length) : endL (a ++ b) = endL a := by
  have hle := end_le a h
  unfold endL at he hle ⊢
  rw [getD_app a b 1 (by omega)]
  split
  · rename_i h1
    rw [if_pos h1] at he hle
    rw [List.drop_append_of_le_length h, aheadF_app 10 (a.drop 2) b (by simp; omega)]
  · rfl
theorem seq_app (a b : List UInt8) (last : Bool) (h2 : 2 ≤ a.length) (h : (seqL a false).2 ≠ 0) : seqL (a ++ b) last = seqL a false := by
  have hle := end_le a h2
  by_cases he : endL a = a.length
  · unfold seqL at h
    rw [if_pos he] at h
    exact absurd rfl h
  · have e1 := end_app a b h2 he
    have hlt : endL a < a.length := by omega
    have h2e : 2 ≤ endL a := by unfold endL; split <;> omega
    unfold seqL
    rw [e1, if_neg he, if_neg (by simp; omega), getD_app a b 1 (by omega), getD_app a b _ hlt, List.drop_append_of_le_length h2, List.take_append_of_le_length (by simp; omega)]
theorem seq_le (a : List UInt8) (last : Bool) (h2 : 2 ≤ a.length) : (seqL a last).2 ≤ a.length := by
  have hle := end_le a h2
  unfold seqL unendedL
  split
  · cases last <;> simp <;> omega
  · split <;> simp <;> omega
theorem first_le (a : List UInt8) (last : Bool) (ha : a ≠ []) : (firstL a last).2 ≤ a.length := by
  have hl : 0 < a.length := List.length_pos_iff.2 ha
  unfold firstL
  split
  · exact plain_le a last ha
  · split
    · unfold unendedL
      cases last <;> simp <;> omega
    · split
      · exact seq_le a last (by omega)
      · split
        · exact hl
        · split
          · exact Nat.zero_le _
          · have := plain_le (a.drop 1) last (by intro h; have := congrArg List.length h; simp at this; omega)
            simp at this ⊢
            omega
theorem first_app (a b : List UInt8) (last : Bool) (ha : a ≠ []) (h : (firstL a false).2 ≠ 0) : firstL (a ++ b) last = firstL a false := by
  have hl : 0 < a.length := List.length_pos_iff.2 ha
  unfold firstL at h ⊢
  rw [getD_app a b 0 hl]
  by_cases h1 : a.getD 0 0 ≠ 27
  · rw [if_pos h1] at h ⊢
    rw [if_pos h1]
    exact plain_app a b last ha h
  · rw [if_neg h1] at h ⊢
    rw [if_neg h1]
    by_cases h2 : a.length = 1
    · rw [if_pos h2] at h
      exact absurd rfl h
    · rw [if_neg h2] at h ⊢
      rw [if_neg (by simp; omega), getD_app a b 1 (by omega)]
      by_cases h3 : a.getD 1 0 = 91 ∨ a.getD 1 0 = 79
      · rw [if_pos h3] at h ⊢
        rw [if_pos h3]
        exact seq_app a b last (by omega) h
      · rw [if_neg h3] at h ⊢
        rw [if_neg h3]
        by_cases h4 : a.getD 1 0 = 27 ∨ a.getD 1 0 = 9
        · rw [if_pos h4, if_pos h4]
        · rw [if_neg h4] at h ⊢
          rw [if_neg h4]
          by_cases h5 : (plainL (a.drop 1) false).2 = 0
          · rw [if_pos h5] at h
            exact absurd rfl h
          · rw [List.drop_append_of_le_length (by omega), plain_app (a.drop 1) b last (by intro h; have := congrArg List.length h; simp at this; omega) h5]
theorem plain_last (l : List UInt8) : (plainL l true).2 ≠ 0 := by
  unfold plainL
  split
  · simp
  · rw [if_neg (by simp)]
    have := Txt.dec_pos l
    show (dec l).2 ≠ 0
    omega
theorem first_last (l : List UInt8) : (firstL l true).2 ≠ 0 := by
  unfold firstL
  split
  · exact plain_last l
  · split
    · simp [unendedL]
    · split
      · unfold seqL
        split
        · simp [unendedL]
        · split <;> simp
      · split
        · simp
        · rw [if_neg (plain_last _)]
          simp
theorem rdF_more : ∀ (f : Nat) (l : List UInt8) (last : Bool), l.length ≤ f → rdF f l last = rdF l.length l last := by
  intro f
  induction f using Nat.strongRecOn with
  | ind f ih =>
    intro l last h
    by_cases he : l = []
    · subst he
      cases f <;> simp [rdF]
    · have hl : 0 < l.length := List.length_pos_iff.2 he
      obtain ⟨f', rfl⟩ : ∃ f', f = f' + 1 := ⟨f - 1, by omega⟩
      obtain ⟨m, hm⟩ : ∃ m, l.length = m + 1 := ⟨l.length - 1, by omega⟩
      rw [hm]
      unfold rdF
      rw [if_neg he, if_neg he]
      by_cases h0 : (firstL l last).2 = 0
      · rw [if_pos h0, if_pos h0]
      · rw [if_neg h0, if_neg h0]
        have hd : (l.drop (firstL l last).2).length ≤ m := by simp; omega
        rw [ih f' (by omega) _ last (by omega)]
        by_cases hmf : m < f' + 1
        · rw [ih m hmf _ last hd]
        · omega
theorem rd_nil (last : Bool) : rd [] last = ([], []) := rfl
theorem rd_stop (l : List UInt8) (last : Bool) (he : l ≠ []) (h : (firstL l last).2 = 0) : rd l last = ([], l) := by
  have hl : 0 < l.length := List.length_pos_iff.2 he
  obtain ⟨m, hm⟩ : ∃ m, l.length = m + 1 := ⟨l.length - 1, by omega⟩
  unfold rd
  rw [hm]
  unfold rdF
  rw [if_neg he, if_pos h]
theorem rd_go (l : List UInt8) (last : Bool) (he : l ≠ []) (h : (firstL l last).2 ≠ 0) : rd l last = ((firstL l last).1 :: (rd (l.drop (firstL l last).2) last).1, (rd (l.drop (firstL l last).2) last).2) := by
  have hl : 0 < l.length := List.length_pos_iff.2 he
  obtain ⟨m, hm⟩ : ∃ m, l.length = m + 1 := ⟨l.length - 1, by omega⟩
  unfold rd
  rw [hm]
  conv => lhs; unfold rdF
  rw [if_neg he, if_neg h, rdF_more m _ last (by simp; omega)]
theorem rd_len : ∀ (n : Nat) (l : List UInt8) (last : Bool), l.length ≤ n → (rd l last).2.length + (rd l last).1.length ≤ l.length := by
  intro n
  induction n with
  | zero =>
    intro l last h
    have : l = [] := List.length_eq_zero_iff.1 (by omega)
    subst this
    simp [rd_nil]
  | succ n ih =>
    intro l last h
    by_cases he : l = []
    · subst he
      simp [rd_nil]
    · by_cases h0 : (firstL l last).2 = 0
      · rw [rd_stop l last he h0]
        simp
      · rw [rd_go l last he h0]
        have hl : 0 < l.length := List.length_pos_iff.2 he
        have := ih (l.drop (firstL l last).2) last (by simp; omega)
        simp at this ⊢
        have hle := first_le l last he
        omega
theorem rd_last : ∀ (n : Nat) (l : List UInt8), l.length ≤ n → (rd l true).2 = [] := by
  intro n
  induction n with
  | zero =>
    intro l h
    have : l = [] := List.length_eq_zero_iff.1 (by omega)
    subst this
    rfl
  | succ n ih =>
    intro l h
    by_cases he : l = []
    · subst he
      rfl
    · rw [rd_go l true he (first_last l)]
      have hl : 0 < l.length := List.length_pos_iff.2 he
      have hp := first_last l
      exact ih _ (by simp; omega)
/-- It makes no difference where bytes are cut. -/
theorem rd_cut : ∀ (n : Nat) (a b : List UInt8) (last : Bool), a.length ≤ n → rd (a ++ b) last = ((rd a false).1 ++ (rd ((rd a false).2 ++ b) last).1, (rd ((rd a false).2 ++ b) last).2) := by
  intro n
  induction n with
  | zero =>
    intro a b last h
    have : a = [] := List.length_eq_zero_iff.1 (by omega)
    subst this
    simp [rd_nil]
  | succ n ih =>
    intro a b last h
    by_cases he : a = []
    · subst he
      simp [rd_nil]
    · by_cases h0 : (firstL a false).2 = 0
      · rw [rd_stop a false he h0]
        simp
      · have e1 := first_app a b last he h0
        have hle := first_le a false he
        have hl : 0 < a.length := List.length_pos_iff.2 he
        rw [rd_go (a ++ b) last (by simp [he]) (by rw [e1]; exact h0), e1, rd_go a false he h0, List.drop_append_of_le_length hle]
        rw [ih (a.drop (firstL a false).2) b last (by simp; omega)]
        rfl
end Kys
end Go.Proofs.YtplceodnllcimaaDoor

/- Plain mathematics on cut texts: what is kept, what is left, blanks behind. No program is named. -/
namespace Go.Proofs.YtplceodnllcimaaDoor
namespace Txt

theorem rl_nil (f : Nat) : rl f [] = [] := by cases f <;> rfl
theorem rl_cons (f : Nat) (l : List UInt8) (h : l ≠ []) : rl (f + 1) l = (((dec l).1 : Int), (dec l).2) :: rl f (l.drop (dec l).2) := by
  simp [rl, h]
theorem length_pos_of_ne {l : List UInt8} (h : l ≠ []) : 1 ≤ l.length := by cases l <;> simp_all
/-- How many rounds one allows makes no difference, if they are enough. -/
theorem rl_fuel : ∀ (f g : Nat) (l : List UInt8), l.length ≤ f → l.length ≤ g → rl f l = rl g l
  | f, g, [], _, _ => by rw [rl_nil, rl_nil]
  | 0, _, x :: t, hf, _ => by simp at hf
  | _ + 1, 0, x :: t, _, hg => by simp at hg
  | f + 1, g + 1, x :: t, hf, hg => by
    rw [rl_cons f _ (by simp), rl_cons g _ (by simp)]
    have hp := dec_pos (x :: t)
    rw [rl_fuel f g _ (by simp only [List.length_drop]; simp at hf ⊢; omega) (by simp only [List.length_drop]; simp at hg ⊢; omega)]
theorem rn_nil : rn [] = [] := rfl
theorem rn_cons (l : List UInt8) (h : l ≠ []) : rn l = (((dec l).1 : Int), (dec l).2) :: rn (l.drop (dec l).2) := by
  unfold rn
  have h1 := length_pos_of_ne h
  have hp := dec_pos l
  rw [show l.length = (l.length - 1) + 1 from by omega, rl_cons _ _ h]
  rw [rl_fuel (l.length - 1) (l.drop (dec l).2).length _ (by simp only [List.length_drop]; omega) (Nat.le_refl _)]

theorem wideL_append : ∀ a b : List (Int × Nat), wideL (a ++ b) = wideL a + wideL b
  | [], b => by simp [wideL]
  | x :: t, b => by simp only [List.cons_append, wideL, wideL_append t b]; omega

/-- The runes that are kept by a cut, and those that are left. -/
def keepL (n : Int) : List (Int × Nat) → Int → List (Int × Nat)
  | [], _ => []
  | x :: t, w => if n < w + wd x.1 then [] else x :: keepL n t (w + wd x.1)
def leftL (n : Int) : List (Int × Nat) → Int → List (Int × Nat)
  | [], _ => []
  | x :: t, w => if n < w + wd x.1 then x :: t else leftL n t (w + wd x.1)
theorem keep_left (n : Int) : ∀ (l : List (Int × Nat)) (w : Int), keepL n l w ++ leftL n l w = l
  | [], _ => rfl
  | x :: t, w => by
    unfold keepL leftL
    split
    · rfl
    · simp [keep_left n t]
theorem keep_wide (n : Int) : ∀ (l : List (Int × Nat)) (w : Int), w ≤ n → w + wideL (keepL n l w) ≤ n
  | [], w, h => by simpa [keepL, wideL] using h
  | x :: t, w, h => by
    unfold keepL
    split
    · simpa [wideL] using h
    · have := keep_wide n t (w + wd x.1) (by omega)
      simp only [wideL]
      omega
theorem keep_neg (n : Int) (h : n < 0) (l : List (Int × Nat)) : keepL n l 0 = [] ∧ cutL n l 0 = 0 := by
  cases l with
  | nil => exact ⟨rfl, rfl⟩
  | cons x t =>
    have := wd_range x.1
    unfold keepL cutL
    rw [if_pos (by omega), if_pos (by omega)]
    exact ⟨rfl, rfl⟩
theorem keep_again (n : Int) : ∀ (l : List (Int × Nat)) (w : Int), cutL n (keepL n l w) w = cutL n l w
  | [], _ => rfl
  | x :: t, w => by
    unfold keepL
    by_cases h : n < w + wd x.1
    · simp [cutL, h]
    · simp [cutL, h, keep_again n t]
theorem cut_le (n : Int) : ∀ (l : List UInt8) (w : Int), cutL n (rn l) w ≤ l.length := by
  intro l
  generalize hk : l.length = k
  induction k using Nat.strongRecOn generalizing l with
  | ind k ih =>
    intro w
    by_cases hl : l = []
    · subst hl; simp [rn_nil, cutL]
    · have h1 := dec_le l hl
      have h2 := dec_pos l
      rw [rn_cons l hl]
      unfold cutL
      split
      · omega
      · have := ih (l.drop (dec l).2).length (by simp only [List.length_drop]; omega) (l.drop (dec l).2) rfl (w + wd (dec l).1)
        simp only [List.length_drop] at this
        simp only
        omega
/-- A text that is cut has the runes that are kept; the rest has those that are left. -/
theorem cut_runes (n : Int) : ∀ (l : List UInt8) (w : Int), rn (l.take (cutL n (rn l) w)) = keepL n (rn l) w ∧ rn (l.drop (cutL n (rn l) w)) = leftL n (rn l) w := by
  intro l
  generalize hk : l.length = k
  induction k using Nat.strongRecOn generalizing l with
  | ind k ih =>
    intro w
    by_cases hl : l = []
    · subst hl; exact ⟨rfl, rfl⟩
    · have h1 := dec_le l hl
      have h2 := dec_pos l
      rw [rn_cons l hl]
      unfold cutL keepL leftL
      by_cases hn : n < w + wd (dec l).1
      · simp only [hn, if_true]
        refine ⟨by simp [rn_nil], ?_⟩
        rw [List.drop_zero, rn_cons l hl]
      · simp only [hn, if_false]
        have hi := ih (l.drop (dec l).2).length (by simp only [List.length_drop]; omega) (l.drop (dec l).2) rfl (w + wd (dec l).1)
        have hc := cut_le n (l.drop (dec l).2) (w + wd (dec l).1)
        generalize hq : cutL n (rn (l.drop (dec l).2)) (w + wd (dec l).1) = q at *
        have hd : dec (l.take ((dec l).2 + q)) = dec l := by
          have := dec_prefix (l.take ((dec l).2 + q)) (l.drop ((dec l).2 + q)) (by
            intro e
            have := congrArg List.length e
            simp only [List.length_take, List.length_nil] at this
            have := length_pos_of_ne hl
            omega) (by rw [List.take_append_drop]; simp only [List.length_take]; omega)
          rwa [List.take_append_drop] at this
        have hne : l.take ((dec l).2 + q) ≠ [] := by
          intro e
          have := congrArg List.length e
          simp only [List.length_take, List.length_nil] at this
          have := length_pos_of_ne hl
          omega
        constructor
        · rw [rn_cons _ hne, hd, ← hi.1, List.drop_take]
          rw [show (dec l).2 + q - (dec l).2 = q from by omega]
        · rw [← hi.2, List.drop_drop]

/-- Cutting twice is cutting once. -/
theorem cut_again (n : Int) (l : List UInt8) : (l.take (cutL n (rn l) 0)).take (cutL n (rn (l.take (cutL n (rn l) 0))) 0) = l.take (cutL n (rn l) 0) := by
  rw [(cut_runes n l 0).1, keep_again, List.take_take, Nat.min_self]

/-- Bytes below 128 behind a text: its last rune stays as it is. -/
theorem decN_behind (n m b0 b1 b2 b3 c1 c2 c3 : Nat) (hn : n ≤ m) (hp : 1 ≤ n) (h1 : 1 < n → c1 = b1) (h2 : 2 < n → c2 = b2) (h3 : 3 < n → c3 = b3)
    (g1 : ¬ 1 < n → c1 < 128) (g2 : ¬ 2 < n → c2 < 128) (g3 : ¬ 3 < n → c3 < 128) : Lib.decodeN m b0 c1 c2 c3 = Lib.decodeN n b0 b1 b2 b3 := by
  unfold Lib.decodeN
  by_cases a : b0 < 128
  · simp [a]
  · simp only [if_neg a]
    by_cases k1 : 1 < n
    · rw [h1 k1]
      by_cases k2 : 2 < n
      · rw [h2 k2]
        by_cases k3 : 3 < n
        · rw [h3 k3]
          simp only [k1, k2, k3, show 1 < m by omega, show 2 < m by omega, show 3 < m by omega]
        · have e3 : ¬ c3 / 64 = 2 := by have := g3 k3; omega
          simp only [k1, k2, k3, show 1 < m by omega, show 2 < m by omega, e3, false_and, and_false, if_false]
      · have e2 : ¬ c2 / 64 = 2 := by have := g2 k2; omega
        have k3 : ¬ 3 < n := by omega
        simp only [k1, k2, k3, show 1 < m by omega, e2, false_and, and_false, if_false]
    · have e1 : ¬ c1 / 64 = 2 := by have := g1 k1; omega
      have k2 : ¬ 2 < n := by omega
      have k3 : ¬ 3 < n := by omega
      simp only [k1, k2, k3, e1, false_and, and_false, if_false]
theorem dec_behind (a b : List UInt8) (ha : a ≠ []) (hb : ∀ x ∈ b, x.toNat < 128) : dec (a ++ b) = dec a := by
  have hl := length_pos_of_ne ha
  have hg : ∀ k, k < a.length → (a ++ b).getD k 0 = a.getD k 0 := by
    intro k hk
    rw [List.getD_eq_getElem?_getD, List.getD_eq_getElem?_getD, List.getElem?_append_left hk]
  have hs : ∀ k, ¬ k < a.length → ((a ++ b).getD k 0).toNat < 128 := by
    intro k hk
    rw [List.getD_eq_getElem?_getD, List.getElem?_append_right (by omega)]
    cases hq : b[k - a.length]? with
    | none => simp
    | some x => exact hb x (List.mem_of_getElem? hq)
  unfold dec
  rw [hg 0 (by omega)]
  exact decN_behind _ _ _ _ _ _ _ _ _ (by simp) hl (fun k => by rw [hg 1 k]) (fun k => by rw [hg 2 k]) (fun k => by rw [hg 3 k]) (hs 1) (hs 2) (hs 3)
theorem rn_behind : ∀ (a b : List UInt8), (∀ x ∈ b, x.toNat < 128) → rn (a ++ b) = rn a ++ rn b := by
  intro a
  generalize hk : a.length = k
  induction k using Nat.strongRecOn generalizing a with
  | ind k ih =>
    intro b hb
    by_cases ha : a = []
    · subst ha; simp [rn_nil]
    · have h1 := dec_le a ha
      have h2 := dec_pos a
      rw [rn_cons (a ++ b) (by simp [ha]), dec_behind a b ha hb, List.drop_append_of_le_length h1, rn_cons a ha]
      rw [ih (a.drop (dec a).2).length (by simp only [List.length_drop]; omega) (a.drop (dec a).2) rfl b hb]
      rfl
theorem rn_blank (k : Nat) : rn (List.replicate k 32) = List.replicate k (32, 1) := by
  induction k with
  | zero => rfl
  | succ k ih =>
    rw [List.replicate_succ, rn_cons _ (by simp)]
    have hd : dec (32 :: List.replicate k 32) = (32, 1) := by
      unfold dec
      rw [decN_ascii _ _ _ _ _ (by simp)]
      rfl
    rw [hd, List.replicate_succ]
    simp only [List.drop_succ_cons, List.drop_zero, ih]
    rfl
theorem wide_blank : ∀ k : Nat, wideL (List.replicate k ((32 : Int), 1)) = k
  | 0 => rfl
  | k + 1 => by
    rw [List.replicate_succ]
    simp only [wideL, wide_blank k]
    rw [show wd 32 = 1 from by decide]
    omega

/-- A text that is cut, then filled with blanks. -/
def fitL (l : List UInt8) (n : Int) : List UInt8 := l.take (cutL n (rn l) 0) ++ List.replicate (n - wideL (rn (l.take (cutL n (rn l) 0)))).toNat 32
theorem cut_wide (n : Int) (h : 0 ≤ n) (l : List UInt8) : 0 ≤ wideL (rn (l.take (cutL n (rn l) 0))) ∧ wideL (rn (l.take (cutL n (rn l) 0))) ≤ n := by
  rw [(cut_runes n l 0).1]
  have := keep_wide n (rn l) 0 h
  have := wideL_range (keepL n (rn l) 0)
  omega
theorem fit_wide (n : Int) (h : 0 ≤ n) (l : List UInt8) : wideL (rn (fitL l n)) = n := by
  unfold fitL
  rw [rn_behind _ _ (by intro x hx; rw [List.eq_of_mem_replicate hx]; decide), wideL_append, rn_blank, wide_blank]
  have := cut_wide n h l
  omega
/-- What fits wholly is not cut. -/
theorem cut_all (n : Int) : ∀ (l : List UInt8) (w : Int), w + wideL (rn l) ≤ n → cutL n (rn l) w = l.length := by
  intro l
  generalize hk : l.length = k
  induction k using Nat.strongRecOn generalizing l with
  | ind k ih =>
    intro w hw
    by_cases hl : l = []
    · subst hl; simp at hk; simp [rn_nil, cutL, hk]
    · have h1 := dec_le l hl
      have h2 := dec_pos l
      rw [rn_cons l hl] at hw ⊢
      simp only [wideL] at hw
      have hr := wideL_range (rn (l.drop (dec l).2))
      unfold cutL
      rw [if_neg (by simp only; omega)]
      have := ih (l.drop (dec l).2).length (by simp only [List.length_drop]; omega) (l.drop (dec l).2) rfl (w + wd (dec l).1) (by omega)
      simp only [List.length_drop] at this
      simp only
      omega
theorem fit_again (n : Int) (h : 0 ≤ n) (l : List UInt8) : (fitL l n).take (cutL n (rn (fitL l n)) 0) = fitL l n := by
  rw [cut_all n (fitL l n) 0 (by rw [fit_wide n h l]; omega), List.take_length]
theorem cut_parts (n : Int) (l : List UInt8) : wideL (rn (l.take (cutL n (rn l) 0))) + wideL (rn (l.drop (cutL n (rn l) 0))) = wideL (rn l) := by
  rw [(cut_runes n l 0).1, (cut_runes n l 0).2, ← wideL_append, keep_left]
theorem cut_small (n : Int) (l : List UInt8) : n < 0 ∨ wideL (rn (l.take (cutL n (rn l) 0))) ≤ n := by
  by_cases h : n < 0
  · exact Or.inl h
  · exact Or.inr (cut_wide n (by omega) l).2
end Txt
end Go.Proofs.YtplceodnllcimaaDoor

/- Plain mathematics: what is clean stays so. Encoding a rune and decoding it again gives the rune. No program is named. -/
namespace Go.Proofs.YtplceodnllcimaaDoor
namespace Txt
/-- A rune that can be encoded. -/
def okRune (r : Int) : Prop := (0 ≤ r ∧ r < 55296) ∨ (57343 < r ∧ r ≤ 1114111)
theorem decN_ok (n b0 b1 b2 b3 : Nat) : okRune (Lib.decodeN n b0 b1 b2 b3).1 := by
  unfold okRune Lib.decodeN
  repeat' split
  all_goals simp
  all_goals omega
theorem dec_ok (l : List UInt8) : okRune (dec l).1 := decN_ok _ _ _ _ _
theorem decN_two (n c b2 b3 : Nat) (hn : 2 ≤ n) (h0 : 128 ≤ c) (h1 : c ≤ 2047) : Lib.decodeN n (192 + c / 64) (128 + c % 64) b2 b3 = (c, 2) := by
  unfold Lib.decodeN
  rw [if_neg (by omega), if_pos ⟨by omega, by omega, by omega⟩, if_pos (by omega)]
  congr 1; omega
theorem decN_three (n c b3 : Nat) (hn : 3 ≤ n) (h : (2048 ≤ c ∧ c < 55296) ∨ (57343 < c ∧ c ≤ 65535)) : Lib.decodeN n (224 + c / 4096) (128 + c / 64 % 64) (128 + c % 64) b3 = (c, 3) := by
  unfold Lib.decodeN
  have e : (224 + c / 4096) % 16 * 4096 + (128 + c / 64 % 64) % 64 * 64 + (128 + c % 64) % 64 = c := by omega
  rw [if_neg (by omega), if_neg (by omega), if_pos ⟨by omega, ⟨by omega, by omega⟩, by omega, by omega⟩, e, if_pos (by omega)]
theorem decN_four (n c : Nat) (hn : 4 ≤ n) (h0 : 65536 ≤ c) (h1 : c ≤ 1114111) : Lib.decodeN n (240 + c / 262144) (128 + c / 4096 % 64) (128 + c / 64 % 64) (128 + c % 64) = (c, 4) := by
  unfold Lib.decodeN
  have e : (240 + c / 262144) % 8 * 262144 + (128 + c / 4096 % 64) % 64 * 4096 + (128 + c / 64 % 64) % 64 * 64 + (128 + c % 64) % 64 = c := by omega
  rw [if_neg (by omega), if_neg (by omega), if_neg (by omega), if_pos ⟨by omega, ⟨by omega, by omega⟩, ⟨by omega, by omega⟩, by omega, by omega⟩, e, if_pos (by omega)]
theorem byte_toNat (n : Nat) (h : n < 256) : (n.toUInt8).toNat = n := by
  rw [Nat.toUInt8, UInt8.toNat_ofNat']; omega
/-- Encoding, then decoding. -/
theorem dec_encode (r : Int) (h : okRune r) (b : List UInt8) : dec (Lib.encodeRune r ++ b) = (r.toNat, (Lib.encodeRune r).length) := by
  obtain ⟨c, rfl⟩ := Int.eq_ofNat_of_zero_le (show 0 ≤ r by unfold okRune at h; omega)
  unfold okRune at h
  unfold Lib.encodeRune
  by_cases h1 : c ≤ 127
  · rw [Lib.encodeRuneZ_one (by omega) (by omega)]
    simp only [List.map_cons, List.map_nil, List.cons_append, List.nil_append, dec, List.getD_cons_zero, Int.toNat_natCast, byte_toNat c (by omega)]
    rw [decN_ascii _ _ _ _ _ (by omega)]
    rfl
  · by_cases h2 : c ≤ 2047
    · rw [Lib.encodeRuneZ_two (by omega) (by omega)]
      simp only [List.map_cons, List.map_nil, List.cons_append, List.nil_append, dec, List.getD_cons_zero, List.getD_cons_succ, Int.toNat_natCast]
      rw [show (192 + (c : Int) / 64).toNat = 192 + c / 64 by omega, show (128 + (c : Int) % 64).toNat = 128 + c % 64 by omega, byte_toNat _ (by omega), byte_toNat _ (by omega)]
      exact decN_two _ c _ _ (by simp) (by omega) (by omega)
    · by_cases h3 : c ≤ 65535
      · rw [Lib.encodeRuneZ_three (by omega)]
        simp only [List.map_cons, List.map_nil, List.cons_append, List.nil_append, dec, List.getD_cons_zero, List.getD_cons_succ, Int.toNat_natCast]
        rw [show (224 + (c : Int) / 4096).toNat = 224 + c / 4096 by omega, show (128 + (c : Int) / 64 % 64).toNat = 128 + c / 64 % 64 by omega, show (128 + (c : Int) % 64).toNat = 128 + c % 64 by omega, byte_toNat _ (by omega), byte_toNat _ (by omega), byte_toNat _ (by omega)]
        exact decN_three _ c _ (by simp) (by omega)
      · rw [Lib.encodeRuneZ_four (by omega) (by omega)]
        simp only [List.map_cons, List.map_nil, List.cons_append, List.nil_append, dec, List.getD_cons_zero, List.getD_cons_succ, Int.toNat_natCast]
        rw [show (240 + (c : Int) / 262144).toNat = 240 + c / 262144 by omega, show (128 + (c : Int) / 4096 % 64).toNat = 128 + c / 4096 % 64 by omega, show (128 + (c : Int) / 64 % 64).toNat = 128 + c / 64 % 64 by omega, show (128 + (c : Int) % 64).toNat = 128 + c % 64 by omega, byte_toNat _ (by omega), byte_toNat _ (by omega), byte_toNat _ (by omega), byte_toNat _ (by omega)]
        exact decN_four _ c (by simp) (by omega) (by omega)
theorem encode_ne (r : Int) : Lib.encodeRune r ≠ [] := by
  intro e
  have := Lib.encodeRuneZ_length r
  have h := congrArg List.length e
  simp only [Lib.encodeRune, List.length_map, List.length_nil] at h
  omega
theorem rn_encode (r : Int) (h : okRune r) (b : List UInt8) : rn (Lib.encodeRune r ++ b) = (r, (Lib.encodeRune r).length) :: rn b := by
  rw [rn_cons _ (by simp [encode_ne]), dec_encode r h b]
  have h0 : 0 ≤ r := by unfold okRune at h; omega
  simp only [List.drop_left, Int.toNat_of_nonneg h0]
/-- The runes of a list of bytes can all be encoded. -/
theorem rl_ok : ∀ (f : Nat) (l : List UInt8), ∀ x ∈ rl f l, okRune x.1
  | 0, _, x, hx => by simp [rl] at hx
  | f + 1, l, x, hx => by
    by_cases hl : l = []
    · subst hl; rw [rl_nil] at hx; cases hx
    · rw [rl_cons f l hl] at hx
      rcases List.mem_cons.1 hx with rfl | hx
      · exact dec_ok l
      · exact rl_ok f _ x hx
end Txt
end Go.Proofs.YtplceodnllcimaaDoor

/- Plain mathematics: keys, written and named; what is written is read again, and a name names its key. -/
namespace Go.Proofs.YtplceodnllcimaaDoor
namespace Kys
open Txt (dec wd okRune)
def chkR (k : Ky) : Bool :=
  if k.held = 4 ∨ k.held = 6 then decide (97 ≤ k.r ∧ k.r ≤ 122 ∧ k.r ≠ 104 ∧ k.r ≠ 105 ∧ k.r ≠ 109)
  else if k.held = 0 ∨ k.held = 2 ∧ ¬ (k.r = 91 ∨ k.r = 79) then decide (wd k.r ≠ 0) else false
def chk (k : Ky) : Bool :=
  if k.held < 0 ∨ 7 < k.held ∨ (k.r ≠ 0 ∧ k.kind ≠ 1) ∨ (k.n ≠ 0 ∧ k.kind ≠ 15) then false
  else if k.kind = 1 then chkR k
  else if k.kind = 2 ∨ k.kind = 4 then decide (k.held = 0 ∨ k.held = 2)
  else if k.kind = 3 then decide (k.held = 0 ∨ k.held = 1)
  else if k.kind = 5 then decide (k.held = 0)
  else if k.kind = 15 then decide (1 ≤ k.n ∧ k.n ≤ 12)
  else decide (6 ≤ k.kind ∧ k.kind ≤ 14)
def altA (h : Int) : List UInt8 := if h = 2 ∨ h = 6 then [27] else []
def heldB (h : Int) : List UInt8 := if h = 0 then [] else [59, UInt8.ofNat (49 + h.toNat)]
def numOf (kind n : Int) : Nat := if kind = 14 then 3 else if kind = 12 then 5 else if kind = 13 then 6 else if n ≤ 5 then 10 + n.toNat else if n ≤ 10 then 11 + n.toNat else 12 + n.toNat
def digB (n : Nat) : List UInt8 := if n < 10 then [UInt8.ofNat (48 + n)] else [UInt8.ofNat (48 + n / 10), UInt8.ofNat (48 + n % 10)]
def letB (kind : Int) : UInt8 := lettersL.getD (kind - 6).toNat 0
def wrR (k : Ky) : Int := if k.held = 4 ∨ k.held = 6 then k.r - 96 else k.r
def wr (k : Ky) (kp : Bool) : List UInt8 :=
  if k.kind = 1 then altA k.held ++ Lib.encodeRune (wrR k)
  else if k.kind = 2 then altA k.held ++ [13]
  else if k.kind = 3 then (if k.held ≠ 0 then [27, 91, 90] else [9])
  else if k.kind = 4 then altA k.held ++ [127]
  else if k.kind = 5 then [27]
  else if k.kind ≤ 11 then (if k.held ≠ 0 then [27, 91, 49] ++ heldB k.held ++ [letB k.kind] else if kp then [27, 79, letB k.kind] else [27, 91, letB k.kind])
  else [27, 91] ++ digB (numOf k.kind k.n) ++ heldB k.held ++ [126]
/-- All keys that can be told but runes. -/
def plainKeys : List Ky := [⟨2, 0, 0, 0⟩, ⟨2, 0, 0, 2⟩, ⟨4, 0, 0, 0⟩, ⟨4, 0, 0, 2⟩, ⟨3, 0, 0, 0⟩, ⟨3, 0, 0, 1⟩, ⟨5, 0, 0, 0⟩] ++ ((List.range 9).flatMap fun i : Nat => (List.range 8).map fun h : Nat => ⟨6 + (i : Int), 0, 0, h⟩) ++ ((List.range 12).flatMap fun i : Nat => (List.range 8).map fun h : Nat => ⟨15, 0, 1 + (i : Int), h⟩)
def ctrlKeys : List Ky := (List.range 26).flatMap fun i : Nat => [⟨1, 97 + (i : Int), 0, 4⟩, ⟨1, 97 + (i : Int), 0, 6⟩]
theorem held_cases {h : Int} (h0 : 0 ≤ h) (h1 : h ≤ 7) : ∃ j, j < 8 ∧ h = ((j : Nat) : Int) := ⟨h.toNat, by omega, by omega⟩
theorem chk_cases (k : Ky) (h : chk k = true) : k ∈ plainKeys ∨ (k ∈ ctrlKeys ∧ k.r ≠ 104 ∧ k.r ≠ 105 ∧ k.r ≠ 109) ∨ (k.kind = 1 ∧ k.n = 0 ∧ wd k.r ≠ 0 ∧ (k.held = 0 ∨ k.held = 2 ∧ ¬ (k.r = 91 ∨ k.r = 79))) := by
  obtain ⟨kind, r, n, held⟩ := k
  unfold chk at h
  simp only at h
  split at h
  · cases h
  · rename_i h0
    have e0 : 0 ≤ held := by omega
    have e7 : held ≤ 7 := by omega
    split at h
    · rename_i h1
      subst h1
      have hn : n = 0 := by omega
      subst hn
      unfold chkR at h
      simp only at h
      split at h
      · rename_i hc
        have hr := of_decide_eq_true h
        refine Or.inr (Or.inl ⟨?_, hr.2.2⟩)
        obtain ⟨i, hi, rfl⟩ : ∃ i : Nat, i < 26 ∧ r = 97 + (i : Int) := ⟨(r - 97).toNat, by omega, by omega⟩
        refine List.mem_flatMap.2 ⟨i, List.mem_range.2 hi, ?_⟩
        rcases hc with rfl | rfl <;> simp
      · split at h
        · rename_i hc
          exact Or.inr (Or.inr ⟨rfl, rfl, of_decide_eq_true h, hc⟩)
        · cases h
    · rename_i h1
      have hr : r = 0 := by omega
      subst hr
      refine Or.inl ?_
      obtain ⟨j, hj, rfl⟩ := held_cases e0 e7
      split at h
      · rename_i h2
        have hn : n = 0 := by omega
        subst hn
        have h3 := of_decide_eq_true h
        have : j = 0 ∨ j = 2 := by omega
        rcases h2 with rfl | rfl <;> rcases this with rfl | rfl <;> decide
      · split at h
        · rename_i h2
          subst h2
          have hn : n = 0 := by omega
          subst hn
          have h3 := of_decide_eq_true h
          have : j = 0 ∨ j = 1 := by omega
          rcases this with rfl | rfl <;> decide
        · split at h
          · rename_i h2
            subst h2
            have hn : n = 0 := by omega
            subst hn
            have h3 := of_decide_eq_true h
            have : j = 0 := by omega
            subst this
            decide
          · split at h
            · rename_i h2
              subst h2
              have h3 := of_decide_eq_true h
              obtain ⟨i, hi, rfl⟩ : ∃ i : Nat, i < 12 ∧ n = 1 + (i : Int) := ⟨(n - 1).toNat, by omega, by omega⟩
              refine List.mem_append_right _ (List.mem_flatMap.2 ⟨i, List.mem_range.2 hi, List.mem_map.2 ⟨j, List.mem_range.2 hj, rfl⟩⟩)
            · have h3 := of_decide_eq_true h
              have hn : n = 0 := by omega
              subst hn
              obtain ⟨i, hi, rfl⟩ : ∃ i : Nat, i < 9 ∧ kind = 6 + (i : Int) := ⟨(kind - 6).toNat, by omega, by omega⟩
              refine List.mem_append_left _ (List.mem_append_right _ (List.mem_flatMap.2 ⟨i, List.mem_range.2 hi, List.mem_map.2 ⟨j, List.mem_range.2 hj, rfl⟩⟩))
theorem wr_plain : ∀ k ∈ plainKeys, ∀ kp : Bool, firstL (wr k kp) true = (k, (wr k kp).length) ∧ wr k kp ≠ [] ∧ (wr k kp).length ≤ 16 := by decide +kernel
theorem wr_ctrl : ∀ k ∈ ctrlKeys, k.r ≠ 104 ∧ k.r ≠ 105 ∧ k.r ≠ 109 → ∀ kp : Bool, firstL (wr k kp) true = (k, (wr k kp).length) ∧ wr k kp ≠ [] ∧ (wr k kp).length ≤ 16 := by decide +kernel
theorem wd_bounds (r : Int) (h : wd r ≠ 0) : okRune r ∧ 32 ≤ r ∧ r ≠ 127 := by
  unfold wd at h
  split at h
  · exact absurd rfl h
  · rename_i h0
    by_cases h1 : r ≤ 31
    · exfalso; apply h
      simp only [Txt.spans, Txt.look]
      rw [if_neg (by omega), if_pos h1]
    · by_cases h2 : r = 127
      · exfalso; apply h
        subst h2
        decide
      · by_cases h3 : 55296 ≤ r ∧ r ≤ 57343
        · exfalso; apply h
          simp only [Txt.spans, Txt.look]
          repeat (first | rw [if_neg (by omega)] | rw [if_pos (by omega)])
        · exact ⟨by unfold okRune; omega, by omega, h2⟩
/-- The first byte of a rune. -/
theorem enc_head (r : Int) (h : okRune r) : (r ≤ 127 ∧ Lib.encodeRune r = [UInt8.ofNat r.toNat]) ∨ (127 < r ∧ 128 ≤ ((Lib.encodeRune r).getD 0 0).toNat) := by
  obtain ⟨c, rfl⟩ := Int.eq_ofNat_of_zero_le (show 0 ≤ r by unfold okRune at h; omega)
  unfold okRune at h
  unfold Lib.encodeRune
  by_cases h1 : c ≤ 127
  · exact Or.inl ⟨by omega, by rw [Lib.encodeRuneZ_one (by omega) (by omega)]; simp⟩
  · refine Or.inr ⟨by omega, ?_⟩
    by_cases h2 : c ≤ 2047
    · rw [Lib.encodeRuneZ_two (by omega) (by omega)]
      simp only [List.map_cons, List.map_nil, List.getD_cons_zero]
      rw [show (192 + (c : Int) / 64).toNat = 192 + c / 64 by omega, Txt.byte_toNat _ (by omega)]
      omega
    · by_cases h3 : c ≤ 65535
      · rw [Lib.encodeRuneZ_three (by omega)]
        simp only [List.map_cons, List.map_nil, List.getD_cons_zero]
        rw [show (224 + (c : Int) / 4096).toNat = 224 + c / 4096 by omega, Txt.byte_toNat _ (by omega)]
        omega
      · rw [Lib.encodeRuneZ_four (by omega) (by omega)]
        simp only [List.map_cons, List.map_nil, List.getD_cons_zero]
        rw [show (240 + (c : Int) / 262144).toNat = 240 + c / 262144 by omega, Txt.byte_toNat _ (by omega)]
        omega
theorem enc_first (r : Int) (h : okRune r) (h32 : 32 ≤ r) (h127 : r ≠ 127) : 32 ≤ ((Lib.encodeRune r).getD 0 0).toNat ∧ ((Lib.encodeRune r).getD 0 0).toNat ≠ 127 ∧ (∀ x : UInt8, x.toNat < 128 → (Lib.encodeRune r).getD 0 0 = x → r = (x.toNat : Int)) := by
  rcases enc_head r h with ⟨h1, e⟩ | ⟨h1, h2⟩
  · rw [e]
    have hb : (UInt8.ofNat r.toNat).toNat = r.toNat := by rw [UInt8.toNat_ofNat']; omega
    simp only [List.getD_cons_zero, hb]
    refine ⟨by omega, by omega, ?_⟩
    intro x _ hx
    have := congrArg UInt8.toNat hx
    rw [hb] at this
    omega
  · refine ⟨by omega, by omega, ?_⟩
    intro x hx e
    rw [e] at h2
    omega
theorem plain_enc (r : Int) (h : wd r ≠ 0) : plainL (Lib.encodeRune r) true = (⟨1, r, 0, 0⟩, (Lib.encodeRune r).length) := by
  obtain ⟨ho, h32, h127⟩ := wd_bounds r h
  obtain ⟨e1, e2, e3⟩ := enc_first r ho h32 h127
  have hd := Txt.dec_encode r ho []
  rw [List.append_nil] at hd
  unfold plainL
  rw [if_neg (by omega), if_neg (by simp), hd]
  unfold shown
  rw [hd]
  simp only
  rw [show ((r.toNat : Nat) : Int) = r by omega, if_neg h]
theorem wr_rune (k : Ky) (h1 : k.kind = 1) (h2 : k.n = 0) (h3 : wd k.r ≠ 0) (h4 : k.held = 0 ∨ k.held = 2 ∧ ¬ (k.r = 91 ∨ k.r = 79)) (kp : Bool) : firstL (wr k kp) true = (k, (wr k kp).length) ∧ wr k kp ≠ [] ∧ (wr k kp).length ≤ 16 := by
  obtain ⟨kind, r, n, held⟩ := k
  simp only at h1 h2 h3 h4
  subst h1 h2
  obtain ⟨ho, h32, h127⟩ := wd_bounds r h3
  obtain ⟨e1, e2, e3⟩ := enc_first r ho h32 h127
  have hl : (Lib.encodeRune r).length ≤ 4 := by
    have := Lib.encodeRuneZ_length r
    simp only [Lib.encodeRune, List.length_map]
    omega
  rcases h4 with rfl | ⟨rfl, h5⟩
  · have e : wr ⟨1, r, 0, 0⟩ kp = Lib.encodeRune r := by simp [wr, altA, wrR]
    rw [e]
    refine ⟨?_, Txt.encode_ne r, by omega⟩
    unfold firstL
    rw [if_pos (fun c => by rw [c] at e1; simp at e1)]
    exact plain_enc r h3
  · have e : wr ⟨1, r, 0, 2⟩ kp = 27 :: Lib.encodeRune r := by simp [wr, altA, wrR]
    rw [e]
    refine ⟨?_, by simp, by simp; omega⟩
    have hne := Txt.encode_ne r
    have hl0 : 0 < (Lib.encodeRune r).length := List.length_pos_iff.2 hne
    unfold firstL
    simp only [List.getD_cons_zero, List.getD_cons_succ, List.length_cons, List.drop_succ_cons, List.drop_zero, plain_enc r h3]
    rw [if_neg (by simp), if_neg (by omega)]
    rw [if_neg, if_neg, if_neg (by omega)]
    · simp [alt]; omega
    · rintro (c | c)
      · rw [c] at e1; simp at e1
      · rw [c] at e1; simp at e1
    · rintro (c | c)
      · exact h5 (Or.inl (by have := e3 91 (by decide) c; simpa using this))
      · exact h5 (Or.inr (by have := e3 79 (by decide) c; simpa using this))
theorem wr_any (k : Ky) (h : chk k = true) (kp : Bool) : firstL (wr k kp) true = (k, (wr k kp).length) ∧ wr k kp ≠ [] ∧ (wr k kp).length ≤ 16 := by
  rcases chk_cases k h with h1 | ⟨h1, h2⟩ | ⟨h1, h2, h3, h4⟩
  · exact wr_plain k h1 kp
  · exact wr_ctrl k h1 h2 kp
  · exact wr_rune k h1 h2 h3 h4 kp
/-- What is written is read again. -/
theorem rd_wr (k : Ky) (h : chk k = true) (kp : Bool) : rd (wr k kp) true = ([k], []) := by
  obtain ⟨h1, h2, _⟩ := wr_any k h kp
  have hl : (wr k kp).length ≠ 0 := by simpa using h2
  rw [rd_go _ true h2 (by rw [h1]; exact hl), h1]
  simp [rd_nil]
end Kys
end Go.Proofs.YtplceodnllcimaaDoor

/- The walks of text.Width and of the reference's WidthOf: both tell Txt.wd, for every int32. -/
namespace Go.Proofs.YtplceodnllcimaaDoor
open Go.ChangeShapes Go.WideShapes Go.ChangeAt Go.RowKit
namespace Txt

/-- The cells of the table of spans. -/
def cell3 (x : Int × Int × Int) : List Value := [.int .i32 x.1, .int .i32 x.2.1, .int .i64 x.2.2]
def spanCells : Array Value := (spans.flatMap cell3).toArray
/-- The table lies where the program's start lays it. -/
def Tab (w : World) : Prop := ∃ (t : TypeId) (fr : Nat × Nat), w.heap[2]? = some (.cells spanCells t fr)
theorem Tab.below {B : Nat} {w w' : World} (h : Tab w) (hb : Below B w w') (hB : 2 < B) : Tab w' := by
  unfold Tab at h ⊢
  rw [hb.block _ hB]; exact h
theorem Tab.pos {w : World} (h : Tab w) : 2 < w.heap.size := by
  obtain ⟨t, fr, h⟩ := h
  have := (Array.getElem?_eq_some_iff.1 h).1
  omega

theorem ret_int {k : IntKind} {a b : Int} (h : a = b) : Ending.returned (.int k a) = .returned (.int k b) := by rw [h]
theorem spans_at (k : Nat) (hk : k < 21) : ∃ a b c : Int, spans.drop k = (a, b, c) :: spans.drop (k + 1) ∧
    ∀ wr : World, (Instr.index 75 (.agg spanCells) (.int .i64 (k : Int))).run Tryd.prog wr = .ok (.agg #[.int .i32 a, .int .i32 b, .int .i64 c]) wr := by
  have : k = 0 ∨ k = 1 ∨ k = 2 ∨ k = 3 ∨ k = 4 ∨ k = 5 ∨ k = 6 ∨ k = 7 ∨ k = 8 ∨ k = 9 ∨ k = 10 ∨ k = 11 ∨ k = 12 ∨ k = 13 ∨ k = 14 ∨ k = 15 ∨ k = 16 ∨ k = 17 ∨ k = 18 ∨ k = 19 ∨ k = 20 := by omega
  rcases this with rfl | rfl | rfl | rfl | rfl | rfl | rfl | rfl | rfl | rfl | rfl | rfl | rfl | rfl | rfl | rfl | rfl | rfl | rfl | rfl | rfl <;>
    exact ⟨_, _, _, rfl, fun wr => by kernel_rfl⟩

set_option maxRecDepth 100000 in
set_option maxHeartbeats 400000 in
theorem width_any (r : Int) (w : World) (hT : Tab w) :
    Calls Tryd.prog 26 #[.int .i32 r] w fun e w' => e = .returned (.int .i64 (wd r)) ∧ Below w.heap.size w w' := by
  by_cases h0 : r < 0
  · have hw : wd r = 0 := by unfold wd; rw [if_pos (Or.inl h0)]
    rw [hw]
    clear hw hT
    go_enter Tryd.func26, Tryd.ntmps26
    go_wp2
    go_ret
    exact ⟨rfl, Below.refl _ _⟩
  · by_cases h1 : 1114111 < r
    · have hw : wd r = 0 := by unfold wd; rw [if_pos (Or.inr h1)]
      rw [hw]
      clear hw hT
      go_enter Tryd.func26, Tryd.ntmps26
      go_wp2
      go_ret
      exact ⟨rfl, Below.refl _ _⟩
    · have hw : wd r = look spans r := by unfold wd; rw [if_neg (by omega)]
      rw [hw]
      clear hw
      obtain ⟨tt, fr, hT⟩ := hT
      have HT : Hid (w.heap[2]? = some (.cells spanCells tt fr)) := hT
      clear hT
      go_enter Tryd.func26, Tryd.ntmps26
      go_wp2_with (refine wpList_load_row rfl 75 (.global 2) rfl 2 rfl _ spanCells _ _ HT.out Tryd.underlying75 rfl (by kernel_rfl) ?_)
      go_loopg [12] 21 (fun g s wr => ∃ k : Nat, k ≤ 21 ∧ 21 - k ≤ g ∧ s = .int .i64 k ∧ Below w.heap.size w wr ∧ look (spans.drop k) r = look spans r)
      case atStart => exact ⟨0, Nat.zero_le _, by omega, rfl, Below.refl _ _, rfl⟩
      case round =>
        obtain ⟨k, hk, hg, rfl, hb, hl⟩ := hrel
        have HL : Hid (look (spans.drop k) r = look spans r) := hl
        clear hl
        by_cases hlt : k < 21
        · obtain ⟨a, b, c, hd, hi⟩ := spans_at k hlt
          have HD : Hid (spans.drop k = (a, b, c) :: spans.drop (k + 1)) := hd
          clear hd
          have hi := hi wr
          have hsz := hb.size
          go_wp2_with fail
          · rename_i hra
            go_ret
            exact ⟨ret_int (by rw [← HL.out, HD.out]; simp [look, hra]), hb.alloc hsz _⟩
          · rename_i hra hrb
            go_ret
            exact ⟨ret_int (by rw [← HL.out, HD.out]; simp only [look]; rw [if_neg (by omega), if_pos hrb]), hb.alloc hsz _⟩
          · rename_i hra hrb
            go_roundg (21 - (k + 1))
            case measure => omega
            case rel => exact ⟨k + 1, by omega, by omega, by go_num, hb.alloc hsz _, by rw [← HL.out, HD.out]; simp only [look]; rw [if_neg (by omega), if_neg (by omega)]⟩
        · have : k = 21 := by omega
          subst this
          go_wp2_with fail
          go_ret
          exact ⟨ret_int (by rw [← HL.out]; rfl), hb⟩

end Txt
end Go.Proofs.YtplceodnllcimaaDoor

/- Package keys: Check. (Written by gen_keyschk.py.) -/
namespace Go.Proofs.YtplceodnllcimaaDoor
open Go.ChangeShapes Go.WideShapes Go.ChangeAt Go.RowKit
namespace Kys
open Txt (wd)
def kyv (k : Ky) : Value := .agg #[.int .i64 k.kind, .int .i32 k.r, .int .i64 k.n, .int .i64 k.held]
theorem ret_bool {a b : Bool} (h : a = b) : Ending.returned (.bool a) = .returned (.bool b) := by rw [h]
theorem Tab.alloc {w : World} (h : Txt.Tab w) (o : Obj) : Txt.Tab (w.alloc o) := h.below ((Below.refl _ _).alloc (Nat.le_refl _) o) h.pos
set_option maxHeartbeats 4000000 in
set_option maxRecDepth 100000 in
theorem checkRune_0 (kind r n : Int) (w : World) (hT : Txt.Tab w) :
    Calls Tryd.prog 29 #[kyv ⟨kind, r, n, 0⟩] w fun e w' => e = .returned (.bool (chkR ⟨kind, r, n, 0⟩)) ∧ Below w.heap.size w w' := by
  have kb : Below w.heap.size w (w.alloc (.cells #[.int .i64 kind, .int .i32 r, .int .i64 n, .int .i64 0] 31)) := (Below.refl _ _).alloc (Nat.le_refl _) _
  have HW := Txt.width_any r _ (Tab.alloc hT (.cells #[.int .i64 kind, .int .i32 r, .int .i64 n, .int .i64 0] 31))
  clear hT
  unfold kyv chkR
  simp only
  generalize wd r = d at *
  have hb1 : bits BinOp.and IntKind.i64 0 1 = 0 := by kernel_rfl
  have hb2 : bits BinOp.and IntKind.i64 0 2 = 0 := by kernel_rfl
  have hb4 : bits BinOp.and IntKind.i64 0 4 = 0 := by kernel_rfl
  go_enter Tryd.func29, Tryd.ntmps29
  go_wp2_with (go_at_call 26; refine HW.mono ?_; rintro e W1 ⟨rfl, b1⟩; replace kb := kb.trans (b1.mono kb.size))
  all_goals go_ret
  all_goals refine ⟨ret_bool ?_, by first | exact (Below.refl _ _).alloc (Nat.le_refl _) _ | exact kb⟩
  all_goals simp_all
  all_goals first | rfl | omega | (have h5 : (r != 109) = !decide (r = 109) := rfl; simp_all)
set_option maxHeartbeats 4000000 in
set_option maxRecDepth 100000 in
theorem checkRune_1 (kind r n : Int) (w : World) (hT : Txt.Tab w) :
    Calls Tryd.prog 29 #[kyv ⟨kind, r, n, 1⟩] w fun e w' => e = .returned (.bool (chkR ⟨kind, r, n, 1⟩)) ∧ Below w.heap.size w w' := by
  have kb : Below w.heap.size w (w.alloc (.cells #[.int .i64 kind, .int .i32 r, .int .i64 n, .int .i64 1] 31)) := (Below.refl _ _).alloc (Nat.le_refl _) _
  have HW := Txt.width_any r _ (Tab.alloc hT (.cells #[.int .i64 kind, .int .i32 r, .int .i64 n, .int .i64 1] 31))
  clear hT
  unfold kyv chkR
  simp only
  generalize wd r = d at *
  have hb1 : bits BinOp.and IntKind.i64 1 1 = 1 := by kernel_rfl
  have hb2 : bits BinOp.and IntKind.i64 1 2 = 0 := by kernel_rfl
  have hb4 : bits BinOp.and IntKind.i64 1 4 = 0 := by kernel_rfl
  go_enter Tryd.func29, Tryd.ntmps29
  go_wp2_with (go_at_call 26; refine HW.mono ?_; rintro e W1 ⟨rfl, b1⟩; replace kb := kb.trans (b1.mono kb.size))
  all_goals go_ret
  all_goals refine ⟨ret_bool ?_, by first | exact (Below.refl _ _).alloc (Nat.le_refl _) _ | exact kb⟩
  all_goals simp_all
  all_goals first | rfl | omega | (have h5 : (r != 109) = !decide (r = 109) := rfl; simp_all)
set_option maxHeartbeats 4000000 in
set_option maxRecDepth 100000 in
theorem checkRune_2 (kind r n : Int) (w : World) (hT : Txt.Tab w) :
    Calls Tryd.prog 29 #[kyv ⟨kind, r, n, 2⟩] w fun e w' => e = .returned (.bool (chkR ⟨kind, r, n, 2⟩)) ∧ Below w.heap.size w w' := by
  have kb : Below w.heap.size w (w.alloc (.cells #[.int .i64 kind, .int .i32 r, .int .i64 n, .int .i64 2] 31)) := (Below.refl _ _).alloc (Nat.le_refl _) _
  have HW := Txt.width_any r _ (Tab.alloc hT (.cells #[.int .i64 kind, .int .i32 r, .int .i64 n, .int .i64 2] 31))
  clear hT
  unfold kyv chkR
  simp only
  generalize wd r = d at *
  have hb1 : bits BinOp.and IntKind.i64 2 1 = 0 := by kernel_rfl
  have hb2 : bits BinOp.and IntKind.i64 2 2 = 2 := by kernel_rfl
  have hb4 : bits BinOp.and IntKind.i64 2 4 = 0 := by kernel_rfl
  go_enter Tryd.func29, Tryd.ntmps29
  go_wp2_with (go_at_call 26; refine HW.mono ?_; rintro e W1 ⟨rfl, b1⟩; replace kb := kb.trans (b1.mono kb.size))
  all_goals go_ret
  all_goals refine ⟨ret_bool ?_, by first | exact (Below.refl _ _).alloc (Nat.le_refl _) _ | exact kb⟩
  all_goals simp_all
  all_goals first | rfl | omega | (have h5 : (r != 109) = !decide (r = 109) := rfl; simp_all)
set_option maxHeartbeats 4000000 in
set_option maxRecDepth 100000 in
theorem checkRune_3 (kind r n : Int) (w : World) (hT : Txt.Tab w) :
    Calls Tryd.prog 29 #[kyv ⟨kind, r, n, 3⟩] w fun e w' => e = .returned (.bool (chkR ⟨kind, r, n, 3⟩)) ∧ Below w.heap.size w w' := by
  have kb : Below w.heap.size w (w.alloc (.cells #[.int .i64 kind, .int .i32 r, .int .i64 n, .int .i64 3] 31)) := (Below.refl _ _).alloc (Nat.le_refl _) _
  have HW := Txt.width_any r _ (Tab.alloc hT (.cells #[.int .i64 kind, .int .i32 r, .int .i64 n, .int .i64 3] 31))
  clear hT
  unfold kyv chkR
  simp only
  generalize wd r = d at *
  have hb1 : bits BinOp.and IntKind.i64 3 1 = 1 := by kernel_rfl
  have hb2 : bits BinOp.and IntKind.i64 3 2 = 2 := by kernel_rfl
  have hb4 : bits BinOp.and IntKind.i64 3 4 = 0 := by kernel_rfl
  go_enter Tryd.func29, Tryd.ntmps29
  go_wp2_with (go_at_call 26; refine HW.mono ?_; rintro e W1 ⟨rfl, b1⟩; replace kb := kb.trans (b1.mono kb.size))
  all_goals go_ret
  all_goals refine ⟨ret_bool ?_, by first | exact (Below.refl _ _).alloc (Nat.le_refl _) _ | exact kb⟩
  all_goals simp_all
  all_goals first | rfl | omega | (have h5 : (r != 109) = !decide (r = 109) := rfl; simp_all)
set_option maxHeartbeats 4000000 in
set_option maxRecDepth 100000 in
theorem checkRune_4 (kind r n : Int) (w : World) (hT : Txt.Tab w) :
    Calls Tryd.prog 29 #[kyv ⟨kind, r, n, 4⟩] w fun e w' => e = .returned (.bool (chkR ⟨kind, r, n, 4⟩)) ∧ Below w.heap.size w w' := by
  have kb : Below w.heap.size w (w.alloc (.cells #[.int .i64 kind, .int .i32 r, .int .i64 n, .int .i64 4] 31)) := (Below.refl _ _).alloc (Nat.le_refl _) _
  have HW := Txt.width_any r _ (Tab.alloc hT (.cells #[.int .i64 kind, .int .i32 r, .int .i64 n, .int .i64 4] 31))
  clear hT
  unfold kyv chkR
  simp only
  generalize wd r = d at *
  have hb1 : bits BinOp.and IntKind.i64 4 1 = 0 := by kernel_rfl
  have hb2 : bits BinOp.and IntKind.i64 4 2 = 0 := by kernel_rfl
  have hb4 : bits BinOp.and IntKind.i64 4 4 = 4 := by kernel_rfl
  go_enter Tryd.func29, Tryd.ntmps29
  go_wp2_with (go_at_call 26; refine HW.mono ?_; rintro e W1 ⟨rfl, b1⟩; replace kb := kb.trans (b1.mono kb.size))
  all_goals go_ret
  all_goals refine ⟨ret_bool ?_, by first | exact (Below.refl _ _).alloc (Nat.le_refl _) _ | exact kb⟩
  all_goals simp_all
  all_goals first | rfl | omega | (have h5 : (r != 109) = !decide (r = 109) := rfl; simp_all)
set_option maxHeartbeats 4000000 in
set_option maxRecDepth 100000 in
theorem checkRune_5 (kind r n : Int) (w : World) (hT : Txt.Tab w) :
    Calls Tryd.prog 29 #[kyv ⟨kind, r, n, 5⟩] w fun e w' => e = .returned (.bool (chkR ⟨kind, r, n, 5⟩)) ∧ Below w.heap.size w w' := by
  have kb : Below w.heap.size w (w.alloc (.cells #[.int .i64 kind, .int .i32 r, .int .i64 n, .int .i64 5] 31)) := (Below.refl _ _).alloc (Nat.le_refl _) _
  have HW := Txt.width_any r _ (Tab.alloc hT (.cells #[.int .i64 kind, .int .i32 r, .int .i64 n, .int .i64 5] 31))
  clear hT
  unfold kyv chkR
  simp only
  generalize wd r = d at *
  have hb1 : bits BinOp.and IntKind.i64 5 1 = 1 := by kernel_rfl
  have hb2 : bits BinOp.and IntKind.i64 5 2 = 0 := by kernel_rfl
  have hb4 : bits BinOp.and IntKind.i64 5 4 = 4 := by kernel_rfl
  go_enter Tryd.func29, Tryd.ntmps29
  go_wp2_with (go_at_call 26; refine HW.mono ?_; rintro e W1 ⟨rfl, b1⟩; replace kb := kb.trans (b1.mono kb.size))
  all_goals go_ret
  all_goals refine ⟨ret_bool ?_, by first | exact (Below.refl _ _).alloc (Nat.le_refl _) _ | exact kb⟩
  all_goals simp_all
  all_goals first | rfl | omega | (have h5 : (r != 109) = !decide (r = 109) := rfl; simp_all)
set_option maxHeartbeats 4000000 in
set_option maxRecDepth 100000 in
theorem checkRune_6 (kind r n : Int) (w : World) (hT : Txt.Tab w) :
    Calls Tryd.prog 29 #[kyv ⟨kind, r, n, 6⟩] w fun e w' => e = .returned (.bool (chkR ⟨kind, r, n, 6⟩)) ∧ Below w.heap.size w w' := by
  have kb : Below w.heap.size w (w.alloc (.cells #[.int .i64 kind, .int .i32 r, .int .i64 n, .int .i64 6] 31)) := (Below.refl _ _).alloc (Nat.le_refl _) _
  have HW := Txt.width_any r _ (Tab.alloc hT (.cells #[.int .i64 kind, .int .i32 r, .int .i64 n, .int .i64 6] 31))
  clear hT
  unfold kyv chkR
  simp only
  generalize wd r = d at *
  have hb1 : bits BinOp.and IntKind.i64 6 1 = 0 := by kernel_rfl
  have hb2 : bits BinOp.and IntKind.i64 6 2 = 2 := by kernel_rfl
  have hb4 : bits BinOp.and IntKind.i64 6 4 = 4 := by kernel_rfl
  go_enter Tryd.func29, Tryd.ntmps29
  go_wp2_with (go_at_call 26; refine HW.mono ?_; rintro e W1 ⟨rfl, b1⟩; replace kb := kb.trans (b1.mono kb.size))
  all_goals go_ret
  all_goals refine ⟨ret_bool ?_, by first | exact (Below.refl _ _).alloc (Nat.le_refl _) _ | exact kb⟩
  all_goals simp_all
  all_goals first | rfl | omega | (have h5 : (r != 109) = !decide (r = 109) := rfl; simp_all)
set_option maxHeartbeats 4000000 in
set_option maxRecDepth 100000 in
theorem checkRune_7 (kind r n : Int) (w : World) (hT : Txt.Tab w) :
    Calls Tryd.prog 29 #[kyv ⟨kind, r, n, 7⟩] w fun e w' => e = .returned (.bool (chkR ⟨kind, r, n, 7⟩)) ∧ Below w.heap.size w w' := by
  have kb : Below w.heap.size w (w.alloc (.cells #[.int .i64 kind, .int .i32 r, .int .i64 n, .int .i64 7] 31)) := (Below.refl _ _).alloc (Nat.le_refl _) _
  have HW := Txt.width_any r _ (Tab.alloc hT (.cells #[.int .i64 kind, .int .i32 r, .int .i64 n, .int .i64 7] 31))
  clear hT
  unfold kyv chkR
  simp only
  generalize wd r = d at *
  have hb1 : bits BinOp.and IntKind.i64 7 1 = 1 := by kernel_rfl
  have hb2 : bits BinOp.and IntKind.i64 7 2 = 2 := by kernel_rfl
  have hb4 : bits BinOp.and IntKind.i64 7 4 = 4 := by kernel_rfl
  go_enter Tryd.func29, Tryd.ntmps29
  go_wp2_with (go_at_call 26; refine HW.mono ?_; rintro e W1 ⟨rfl, b1⟩; replace kb := kb.trans (b1.mono kb.size))
  all_goals go_ret
  all_goals refine ⟨ret_bool ?_, by first | exact (Below.refl _ _).alloc (Nat.le_refl _) _ | exact kb⟩
  all_goals simp_all
  all_goals first | rfl | omega | (have h5 : (r != 109) = !decide (r = 109) := rfl; simp_all)
end Kys
end Go.Proofs.YtplceodnllcimaaDoor
