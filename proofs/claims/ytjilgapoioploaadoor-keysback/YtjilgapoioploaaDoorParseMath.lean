/- Plain mathematics: a reader of bytes, its states and what it tells. -/
import Derived.Test.YtjilgapoioploaaDoorProg
import Derived.Shelf.Unicode.DecodeSlow
namespace Go.Proofs.YtjilgapoioploaaDoor
namespace Prs
/-- The text of no byte; of one. -/
def nt : ByteArray := ⟨#[]⟩
def one (x : UInt8) : ByteArray := ⟨#[x]⟩
structure St where
  at' : Int
  mark : Int
  mid : ByteArray
  ps : List Int
  txt : ByteArray
  left : ByteArray
  late : Bool
structure Ev where
  kind : Int
  r : Int
  fin : Int
  mark : Int
  mid : ByteArray
  ps : List Int
  txt : ByteArray
def bare (a : Int) : St := ⟨a, 0, nt, [], nt, nt, false⟩
def evP (r : Int) : Ev := ⟨1, r, 0, 0, nt, [], nt⟩
def evC (r : Int) : Ev := ⟨2, r, 0, 0, nt, [], nt⟩
def isCtl (x : UInt8) : Bool := decide (x.toNat < 32) || decide (x.toNat = 127)
def isMid (x : UInt8) : Bool := decide (32 ≤ x.toNat) && decide (x.toNat ≤ 47)
def isDig (x : UInt8) : Bool := decide (48 ≤ x.toNat) && decide (x.toNat ≤ 57)
def isMark (x : Int) : Bool := decide (60 ≤ x) && decide (x ≤ 63)
/-- Do n bytes x0, x1, x2 .. begin with a whole rune? -/
def fullN (n x0 x1 x2 : Nat) : Bool :=
  if Lib.firstT x0 % 8 ≤ n then true
  else if 1 < n ∧ (x1 < Lib.accLo (Lib.firstT x0 / 16) ∨ Lib.accHi (Lib.firstT x0 / 16) < x1) then true
  else decide (2 < n ∧ (x2 < 128 ∨ 191 < x2))
def full (s : ByteArray) : Bool := if s.size = 0 then false else fullN s.size (s.get! 0).toNat (s.get! 1).toNat (s.get! 2).toNat
/-- All runes that are whole, and what is left. -/
def drain : Nat → ByteArray → List Ev × ByteArray
  | 0, s => ([], s)
  | n + 1, s => if full s then ((evP (Lib.decodeGo s).1) :: (drain n (s.extract (Lib.decodeGo s).2 s.size)).1, (drain n (s.extract (Lib.decodeGo s).2 s.size)).2) else ([], s)
def inGround (s : St) (x : UInt8) : St × List Ev := ({ s with left := (drain (s.left ++ one x).size (s.left ++ one x)).2 }, (drain (s.left ++ one x).size (s.left ++ one x)).1)
def control (s : St) (x : UInt8) : St × List Ev :=
  if x.toNat = 27 then (bare 1, List.replicate s.left.size (evP 65533))
  else if x.toNat = 24 ∨ x.toNat = 26 then (bare 0, List.replicate s.left.size (evP 65533))
  else if x.toNat = 127 then ({ s with left := nt }, List.replicate s.left.size (evP 65533))
  else ({ s with left := nt }, List.replicate s.left.size (evP 65533) ++ [evC x.toNat])
def inEscape (x : UInt8) : St × List Ev :=
  if x.toNat = 91 then (bare 3, [])
  else if x.toNat = 93 then (bare 4, [])
  else if isMid x then ({ bare 2 with mid := one x }, [])
  else if x.toNat < 128 then (bare 0, [⟨3, 0, x.toNat, 0, nt, [], nt⟩])
  else (bare 0, [])
def inMiddle (s : St) (x : UInt8) : St × List Ev :=
  if isMid x = true ∧ s.mid.size < 2 then ({ s with mid := s.mid ++ one x }, [])
  else if isMid x = false ∧ x.toNat < 128 then (bare 0, [⟨3, 0, x.toNat, 0, s.mid, [], nt⟩])
  else (bare 0, [])
/-- The numbers, once a first one is there. -/
def begun (l : List Int) : List Int := if l = [] then [-1] else l
def digit (l : List Int) (x : UInt8) : List Int := l.set (l.length - 1) (min (max (l.getD (l.length - 1) 0) 0 * 10 + ((x.toNat : Int) - 48)) 9999)
def param (s : St) (x : UInt8) : St :=
  if isDig x then { s with ps := digit (begun s.ps) x }
  else if (begun s.ps).length < 16 then { s with ps := begun s.ps ++ [-1] }
  else bare 5
def inCommand (s : St) (x : UInt8) : St × List Ev :=
  if (isDig x = true ∨ x.toNat = 59) ∧ s.mid.size = 0 then (param s x, [])
  else if isMark x.toNat = true ∧ s.mark = 0 ∧ s.ps = [] ∧ s.mid.size = 0 then ({ s with mark := x.toNat }, [])
  else if isMid x = true ∧ s.mid.size < 2 then ({ s with mid := s.mid ++ one x }, [])
  else if 128 ≤ x.toNat then (bare 0, [])
  else if 64 ≤ x.toNat then (bare 0, [⟨4, 0, x.toNat, s.mark, s.mid, s.ps, nt⟩])
  else (bare 5, [])
def inSystem (s : St) (x : UInt8) : St × List Ev :=
  if s.late = true ∨ x.toNat = 7 then (bare 0, [⟨5, 0, 0, 0, nt, [], s.txt⟩])
  else if x.toNat = 27 then ({ s with late := true }, [])
  else if x.toNat = 24 ∨ x.toNat = 26 then (bare 0, [])
  else if 32 ≤ x.toNat ∧ s.txt.size < 64 then ({ s with txt := s.txt ++ one x }, [])
  else (s, [])
def inSkip (s : St) (x : UInt8) : St × List Ev := if 64 ≤ x.toNat then (bare 0, []) else (s, [])
def acts (s : St) (x : UInt8) : St × List Ev :=
  if s.at' = 0 then inGround s x else if s.at' = 1 then inEscape x else if s.at' = 2 then inMiddle s x else if s.at' = 3 then inCommand s x else if s.at' = 4 then inSystem s x else inSkip s x
def woken (s : St) (x : UInt8) : St := if s.late = true ∧ x.toNat ≠ 92 then bare 1 else s
def take (s : St) (x : UInt8) : St × List Ev :=
  if (woken s x).at' ≠ 4 ∧ isCtl x = true then control (woken s x) x else acts (woken s x) x
/-- All bytes, one after the other. -/
def feed (s : St) : List UInt8 → St × List Ev
  | [] => (s, [])
  | x :: l => ((feed (take s x).1 l).1, (take s x).2 ++ (feed (take s x).1 l).2)
theorem feed_append (s : St) (a b : List UInt8) : feed s (a ++ b) = ((feed (feed s a).1 b).1, (feed s a).2 ++ (feed (feed s a).1 b).2) := by
  induction a generalizing s with
  | nil => simp [feed]
  | cons x a ih => simp [feed, ih, List.append_assoc]
theorem feed_snoc (s : St) (a : List UInt8) (x : UInt8) : feed s (a ++ [x]) = ((take (feed s a).1 x).1, (feed s a).2 ++ (take (feed s a).1 x).2) := by
  rw [feed_append]
  simp [feed]
end Prs
end Go.Proofs.YtjilgapoioploaaDoor
