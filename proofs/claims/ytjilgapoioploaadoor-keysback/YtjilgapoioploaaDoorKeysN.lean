/- Plain mathematics: the names of keys; a name names its key. -/
import Derived.Test.YtjilgapoioploaaDoorKeysB
import Derived.Lib.Strings
namespace Go.Proofs.YtjilgapoioploaaDoor
namespace Kys
open Txt (dec wd okRune)
def sgn (h b : Int) (l : List UInt8) : List UInt8 := if h / b % 2 = 1 then l else []
def holdsN (h : Int) : List UInt8 := sgn h 4 [67, 45] ++ sgn h 2 [77, 45] ++ sgn h 1 [83, 45]
def namesL : List (List UInt8) := [[], [], [69, 110, 116, 101, 114], [84, 97, 98], [66, 83, 112, 97, 99, 101], [69, 115, 99, 97, 112, 101], [85, 112], [68, 111, 119, 110], [82, 105, 103, 104, 116], [76, 101, 102, 116], [72, 111, 109, 101], [69, 110, 100], [80, 97, 103, 101, 85, 112], [80, 97, 103, 101, 68, 111, 119, 110], [68, 101, 108, 101, 116, 101]]
def spaceL : List UInt8 := [83, 112, 97, 99, 101]
def bareN (k : Ky) : List UInt8 :=
  if k.kind = 15 then 70 :: digB k.n.toNat
  else if k.kind ≠ 1 then namesL.getD k.kind.toNat []
  else if k.r = 32 then spaceL else Lib.encodeRune k.r
def nameL (k : Ky) : List UInt8 := holdsN k.held ++ bareN k
/-- One sign ahead, if it is there. -/
def off (p l : List UInt8) : List UInt8 := if Lib.hasPrefix l p then l.drop p.length else l
def has (p l : List UInt8) (b : Int) : Int := if Lib.hasPrefix l p then b else 0
def offC (l : List UInt8) : List UInt8 := off [67, 45] l
def offM (l : List UInt8) : List UInt8 := off [77, 45] (offC l)
def offS (l : List UInt8) : List UInt8 := off [83, 45] (offM l)
def heldS (l : List UInt8) : Int := has [67, 45] l 4 + has [77, 45] (offC l) 2 + has [83, 45] (offM l) 1
def atoiN (l : List UInt8) : Int := match Lib.atoiAll l with
  | .ok v => v
  | .syntax => 0
  | .range => Lib.atoiSat l
/-- The first place from i on at which l stands. -/
def place (l : List UInt8) : List (List UInt8) → Nat → Option Nat
  | [], _ => none
  | x :: t, i => if x = l then some i else place l t (i + 1)
def bareK (l : List UInt8) : Ky := match place l namesL 0 with
  | some i => ⟨i, 0, 0, 0⟩
  | none => if l.getD 0 0 = 70 ∧ 1 < l.length then ⟨15, 0, atoiN (l.drop 1), 0⟩ else if l = spaceL then ⟨1, 32, 0, 0⟩ else ⟨1, ((dec l).1 : Int), 0, 0⟩
def cand (s : List UInt8) : Ky := { bareK (offS s) with held := heldS s }
def named (s : List UInt8) : Option Ky := if chk (cand s) = true ∧ nameL (cand s) = s then some (cand s) else none
theorem name_plain : ∀ k ∈ plainKeys, cand (nameL k) = k ∧ (nameL k).length ≤ 16 := by decide +kernel
theorem name_ctrl : ∀ k ∈ ctrlKeys, cand (nameL k) = k ∧ (nameL k).length ≤ 16 := by decide +kernel
theorem name_space : ∀ h ∈ ([0, 2] : List Int), cand (nameL ⟨1, 32, 0, h⟩) = ⟨1, 32, 0, h⟩ ∧ (nameL ⟨1, 32, 0, h⟩).length ≤ 16 := by decide +kernel
theorem name_ascii : ∀ i ∈ List.range 128, ∀ h ∈ ([0, 2] : List Int), i ≠ 32 → cand (nameL ⟨1, (i : Int), 0, h⟩) = ⟨1, (i : Int), 0, h⟩ ∧ (nameL ⟨1, (i : Int), 0, h⟩).length ≤ 16 := by decide +kernel
theorem prefix_high (l : List UInt8) (a b : UInt8) (h : 128 ≤ (l.getD 0 0).toNat) (ha : a.toNat < 128) : Lib.hasPrefix l [a, b] = false := by
  cases l with
  | nil => rfl
  | cons x t =>
    simp only [List.getD_cons_zero] at h
    have hx : (a == x) = false := by
      rw [beq_eq_false_iff_ne]
      rintro rfl
      omega
    show ((a == x) && _) = false
    rw [hx]
    rfl
theorem high_no : ∀ x ∈ namesL, ¬ 128 ≤ (x.getD 0 0).toNat := by decide +kernel
theorem name_high (r : Int) (h : okRune r) (h1 : 127 < r) (hd : Int) (hh : hd = 0 ∨ hd = 2) : cand (nameL ⟨1, r, 0, hd⟩) = ⟨1, r, 0, hd⟩ ∧ (nameL ⟨1, r, 0, hd⟩).length ≤ 16 := by
  have hl : (Lib.encodeRune r).length ≤ 4 := by
    have := Lib.encodeRuneZ_length r
    simp only [Lib.encodeRune, List.length_map]
    omega
  rcases enc_head r h with ⟨c, _⟩ | ⟨_, h2⟩
  · omega
  · have dE := Txt.dec_encode r h []
    rw [List.append_nil] at dE
    have hr0 : ((r.toNat : Nat) : Int) = r := by omega
    have pC := prefix_high (Lib.encodeRune r) 67 45 h2 (by decide)
    have pM := prefix_high (Lib.encodeRune r) 77 45 h2 (by decide)
    have pS := prefix_high (Lib.encodeRune r) 83 45 h2 (by decide)
    have hp : place (Lib.encodeRune r) namesL 0 = none := by
      have hne := Txt.encode_ne r
      have hh : ∀ x ∈ namesL, ¬ x = Lib.encodeRune r := by
        intro x hx e
        rw [← e] at h2
        exact absurd h2 (high_no x hx)
      unfold namesL at hh ⊢
      simp only [place]
      simp only [List.mem_cons, forall_eq_or_imp] at hh
      obtain ⟨a0, a1, a2, a3, a4, a5, a6, a7, a8, a9, b0, b1, b2, b3, b4, _⟩ := hh
      rw [if_neg a0, if_neg a1, if_neg a2, if_neg a3, if_neg a4, if_neg a5, if_neg a6, if_neg a7, if_neg a8, if_neg a9, if_neg b0, if_neg b1, if_neg b2, if_neg b3, if_neg b4]
    have hb : bareK (Lib.encodeRune r) = ⟨1, r, 0, 0⟩ := by
      unfold bareK
      rw [hp]
      simp only
      rw [if_neg (fun c => by rw [c.1] at h2; exact absurd h2 (by decide)), if_neg (fun c => by rw [c] at h2; exact absurd h2 (by decide)), dE]
      simp only [hr0]
    have nb : ∀ x, bareN ⟨1, r, 0, x⟩ = Lib.encodeRune r := by
      intro x
      simp [bareN, show ¬ r = 32 by omega]
    rcases hh with rfl | rfl
    · have e : nameL ⟨1, r, 0, 0⟩ = Lib.encodeRune r := by
        unfold nameL
        rw [nb]
        rfl
      rw [e]
      refine ⟨?_, by omega⟩
      simp only [cand, heldS, offS, offM, offC, off, has, pC, pM, pS, Bool.false_eq_true, if_false, hb]
      rfl
    · have e : nameL ⟨1, r, 0, 2⟩ = 77 :: 45 :: Lib.encodeRune r := by
        unfold nameL
        rw [nb]
        rfl
      rw [e]
      refine ⟨?_, by simp; omega⟩
      have q1 : Lib.hasPrefix (77 :: 45 :: Lib.encodeRune r) [67, 45] = false := rfl
      have q2 : Lib.hasPrefix (77 :: 45 :: Lib.encodeRune r) [77, 45] = true := by cases Lib.encodeRune r <;> rfl
      simp only [cand, heldS, offS, offM, offC, off, has, q1, q2, pS, Bool.false_eq_true, if_false, if_true, List.length_cons, List.length_nil, List.drop_succ_cons, List.drop_zero, hb]
      rfl
/-- A key's name names it. -/
theorem named_name (k : Ky) (h : chk k = true) : named (nameL k) = some k ∧ (nameL k).length ≤ 16 := by
  have hc : cand (nameL k) = k ∧ (nameL k).length ≤ 16 := by
    rcases chk_cases k h with h1 | ⟨h1, h2⟩ | ⟨h1, h2, h3, h4⟩
    · exact name_plain k h1
    · exact name_ctrl k h1
    · obtain ⟨kind, r, n, held⟩ := k
      simp only at h1 h2 h3 h4
      subst h1 h2
      obtain ⟨ho, h32, h127⟩ := wd_bounds r h3
      have hh : held = 0 ∨ held = 2 := by rcases h4 with h | h; exact Or.inl h; exact Or.inr h.1
      by_cases hr : r = 32
      · subst hr
        exact name_space held (by rcases hh with rfl | rfl <;> simp)
      · by_cases hr2 : 127 < r
        · exact name_high r ho hr2 held hh
        · obtain ⟨i, hi, rfl⟩ : ∃ i : Nat, i < 128 ∧ r = (i : Int) := ⟨r.toNat, by omega, by omega⟩
          exact name_ascii i (List.mem_range.2 hi) held (by rcases hh with rfl | rfl <;> simp) (by omega)
  refine ⟨?_, hc.2⟩
  unfold named
  rw [hc.1, if_pos ⟨h, rfl⟩]
end Kys
end Go.Proofs.YtjilgapoioploaaDoor
