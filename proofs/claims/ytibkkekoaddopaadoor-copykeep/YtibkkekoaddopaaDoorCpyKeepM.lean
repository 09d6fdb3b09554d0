/- Package copying: what is pure: bytes replaced one by one. -/
import Derived.Test.YtibkkekoaddopaaDoorCpyAt
import Derived.Test.YtibkkekoaddopaaDoorCpyUtf
import Derived.Lib.Replace
import Derived.Lib.SplitLaws
namespace Go.Proofs.YtibkkekoaddopaaDoor
open Go.ChangeShapes Go.WideShapes Go.ChangeAt Go.RowKit Go.Maps
namespace Cpy
/-- Each byte c becomes new. -/
def repl (c : UInt8) (new : List UInt8) (l : List UInt8) : List UInt8 := l.flatMap fun b => if b = c then new else [b]
theorem repl_same (c : UInt8) : ∀ l, repl c [c] l = l
  | [] => rfl
  | b :: t => by
    have := repl_same c t
    unfold repl at this ⊢
    rw [List.flatMap_cons, this]
    by_cases h : b = c
    · rw [if_pos h, h]; rfl
    · rw [if_neg h]; rfl
theorem repK_ne (c b : UInt8) (new l : List UInt8) (k : Nat) (h : b ≠ c) : Lib.replaceK [c] new k (b :: l) = b :: Lib.replaceK [c] new k l := by
  cases k with
  | zero => rfl
  | succ k =>
    have hp : ([c] : List UInt8).isPrefixOf (b :: l) = false := by simp [List.isPrefixOf, Ne.symm h]
    have hix : Lib.index (b :: l) [c] = if Lib.index l [c] == -1 then -1 else Lib.index l [c] + 1 := by rw [Lib.index, hp]; simp
    have hge := Lib.index_ge l [c]
    by_cases hm : Lib.index l [c] = -1
    · rw [hm] at hix
      simp only [beq_self_eq_true, if_true] at hix
      rw [Lib.replaceK, Lib.replaceK, hix, hm]
      simp
    · obtain ⟨i, hi⟩ : ∃ i : Nat, Lib.index l [c] = i := ⟨(Lib.index l [c]).toNat, by omega⟩
      rw [if_neg (by simpa using hm), hi] at hix
      rw [Lib.replaceK_hit [c] new k (b :: l) (i + 1) (by rw [hix]; rfl), Lib.replaceK_hit [c] new k l i hi]
      rw [show i + 1 + ([c] : List UInt8).length = (i + ([c] : List UInt8).length) + 1 by omega]
      rfl
theorem repK_eq (c : UInt8) (new l : List UInt8) (k : Nat) : Lib.replaceK [c] new (k + 1) (c :: l) = new ++ Lib.replaceK [c] new k l := by
  have hix : Lib.index (c :: l) [c] = ((0 : Nat) : Int) := by rw [Lib.index]; simp [List.isPrefixOf]
  rw [Lib.replaceK_hit [c] new k (c :: l) 0 hix]
  rfl
theorem repK_all (c : UInt8) (new : List UInt8) : ∀ l : List UInt8, Lib.replaceK [c] new (l.count c) l = repl c new l
  | [] => rfl
  | b :: t => by
    have ih := repK_all c new t
    by_cases h : b = c
    · subst h
      rw [List.count_cons_self, repK_eq, ih]
      unfold repl
      rw [List.flatMap_cons, if_pos rfl]
    · rw [List.count_cons_of_ne h, repK_ne _ _ _ _ _ h, ih]
      unfold repl
      rw [List.flatMap_cons, if_neg h]
      rfl
theorem replaceAll_one (c : UInt8) (new l : List UInt8) : Lib.replaceAll l [c] new = repl c new l := by
  unfold Lib.replaceAll Lib.replace
  by_cases h : [c] = new
  · subst h
    simp only [beq_self_eq_true, if_true]
    exact (repl_same c l).symm
  · rw [if_neg (by simpa using h)]
    unfold Lib.replaceNum
    rw [if_pos (.inl (by decide)), Lib.count_one]
    exact repK_all c new l
theorem repl_len (c : UInt8) (new : List UInt8) (hn : new.length ≤ 1) : ∀ l : List UInt8, (repl c new l).length ≤ l.length
  | [] => by simp [repl]
  | b :: t => by
    have ih := repl_len c new hn t
    unfold repl at ih ⊢
    rw [List.flatMap_cons, List.length_append, List.length_cons]
    split
    · omega
    · rw [List.length_singleton]; omega
/-- What is told of a text. -/
def tell (marked : Bool) (l : List UInt8) : List UInt8 := l.flatMap fun b => if b = 10 then [13] else if !marked || b != 27 then [b] else []
def ahd : List UInt8 := [27, 91, 50, 48, 48, 126]
def bhd : List UInt8 := [27, 91, 50, 48, 49, 126]
def bytesL (marked : Bool) (l : List UInt8) : List UInt8 := if marked then ahd ++ repl 27 [] (repl 10 [13] l) ++ bhd else repl 10 [13] l
theorem tell_no (l : List UInt8) : tell false l = repl 10 [13] l := by
  unfold tell repl
  congr 1
theorem tell_yes : ∀ l : List UInt8, tell true l = repl 27 [] (repl 10 [13] l)
  | [] => rfl
  | b :: t => by
    have ih := tell_yes t
    unfold tell repl at ih ⊢
    rw [List.flatMap_cons, List.flatMap_cons, List.flatMap_append, ih]
    congr 1
    by_cases h : b = 10
    · rw [if_pos h, if_pos h]; rfl
    · rw [if_neg h, if_neg h]
      by_cases h2 : b = 27
      · subst h2; rfl
      · simp [h2]
theorem bytes_tell (marked : Bool) (l : List UInt8) : bytesL marked l = if marked then ahd ++ tell true l ++ bhd else tell false l := by
  unfold bytesL
  rw [tell_yes, tell_no]
end Cpy
end Go.Proofs.YtibkkekoaddopaaDoor
