/- Package format: what is pure: what a format says. -/
import Derived.Test.YtbhoklhcdefabaaDoorTextList
namespace Go.Proofs.YtbhoklhcdefabaaDoor
namespace Fmt
/-- What a piece makes, and where it ends; or where something else should stand. -/
inductive Res where
  | bad (p : Nat)
  | ok (out : List UInt8) (p : Nat)
def Res.pre (l : List UInt8) : Res → Res
  | .bad p => .bad p
  | .ok o p => .ok (l ++ o) p
theorem Res.pre_nil : ∀ r : Res, r.pre [] = r
  | .bad _ => rfl
  | .ok _ _ => rfl
theorem Res.pre_pre (a b : List UInt8) : ∀ r : Res, (r.pre b).pre a = r.pre (a ++ b)
  | .bad _ => rfl
  | .ok o p => by simp [Res.pre]
def nx (t : ByteArray) (p : Nat) (c : UInt8) : Bool := if h : p < t.size then t[p]'h == c else false
theorem nx_lt {t : ByteArray} {p : Nat} {c : UInt8} (h : nx t p c = true) : p < t.size := by
  unfold nx at h
  split at h
  · assumption
  · simp at h
def isN (c : UInt8) : Bool := (decide (97 ≤ c.toNat) && decide (c.toNat ≤ 122)) || decide (c.toNat = 95)
def isD (c : UInt8) : Bool := decide (48 ≤ c.toNat) && decide (c.toNat ≤ 57)
/-- How far a run goes: at most m bytes. -/
def run (f : UInt8 → Bool) (t : ByteArray) : Nat → Nat → Nat
  | 0, p => p
  | m + 1, p => if h : p < t.size then (if f (t[p]'h) then run f t m (p + 1) else p) else p
theorem run_ge (f : UInt8 → Bool) (t : ByteArray) : ∀ m p, p ≤ run f t m p
  | 0, p => Nat.le_refl _
  | m + 1, p => by
    unfold run
    split
    · split
      · exact Nat.le_trans (Nat.le_succ p) (run_ge f t m (p + 1))
      · exact Nat.le_refl _
    · exact Nat.le_refl _
theorem run_most (f : UInt8 → Bool) (t : ByteArray) : ∀ m p, run f t m p ≤ p + m
  | 0, p => Nat.le_refl _
  | m + 1, p => by
    unfold run
    split
    · split
      · have := run_most f t m (p + 1); omega
      · omega
    · omega
theorem run_le (f : UInt8 → Bool) (t : ByteArray) : ∀ m p, p ≤ t.size → run f t m p ≤ t.size
  | 0, p, h => h
  | m + 1, p, h => by
    unfold run
    split
    · split
      · exact run_le f t m (p + 1) (by omega)
      · exact h
    · exact h
/-- The digits from p up to q, as a number. -/
def num (t : ByteArray) (p q : Nat) : Int := (t.data.toList.drop p).take (q - p) |>.foldl (fun a c => a * 10 + ((c.toNat : Int) - 48)) 0
/-- The Value of the first item of a name. -/
def val (I : List (ByteArray × ByteArray)) (n : ByteArray) : ByteArray := ((I.find? (fun x => x.1.toList == n.toList)).map (·.2)).getD ⟨#[]⟩
def isEnd : Nat → UInt8 → Bool
  | 0, _ => false
  | 1, c => c == 44 || c == 125
  | _, c => c == 125
def isNo (v : List UInt8) : Bool := v == [] || v == [48]
/-- A name at p: where it ends. -/
def nm (t : ByteArray) (p : Nat) : Nat := run isN t t.size p
/-- The Value of the item whose name begins at p. -/
def vaR (t : ByteArray) (I : List (ByteArray × ByteArray)) (p : Nat) : Res := if nm t p = p then .bad p else .ok (val I (t.extract p (nm t p))).data.toList (nm t p)
/-- A cut whose number begins at j. -/
def ctR (t : ByteArray) (I : List (ByteArray × ByteArray)) (j : Nat) : Res :=
  if run isD t 3 j = j then .bad j
  else if nx t (run isD t 3 j) 58 then
    match vaR t I (run isD t 3 j + 1) with
    | .bad q => .bad q
    | .ok v q => .ok (Txt.cutS ⟨v.toArray⟩ (num t j (run isD t 3 j))) q
  else .bad (run isD t 3 j)
/-- A choice whose name begins at j; tx: a text within. -/
def chR (tx : Nat → Nat → Nat → Res) (t : ByteArray) (I : List (ByteArray × ByteArray)) (d j : Nat) : Res :=
  match vaR t I j with
  | .bad q => .bad q
  | .ok v q => if nx t q 44 then
      match tx d 1 (q + 1) with
      | .bad r => .bad r
      | .ok A r => if nx t r 44 then
          match tx d 2 (r + 1) with
          | .bad u => .bad u
          | .ok B u => .ok (if isNo v then B else A) u
        else .bad r
    else .bad q
/-- What stands within an item's braces, from p on. -/
def inR (tx : Nat → Nat → Nat → Res) (t : ByteArray) (I : List (ByteArray × ByteArray)) (d p : Nat) : Res :=
  if nx t p 61 then ctR t I (p + 1) else if nx t p 63 then chR tx t I d (p + 1) else vaR t I p
/-- What an item makes that begins at p. -/
def itm (tx : Nat → Nat → Nat → Res) (t : ByteArray) (I : List (ByteArray × ByteArray)) (d p : Nat) : Res :=
  if d = 8 then .bad p
  else match inR tx t I (d + 1) (p + 2) with
    | .bad q => .bad q
    | .ok o q => if nx t q 125 then .ok o (q + 1) else .bad q
/-- What bytes make from p on, up to an end that belongs to no item. -/
def tx (t : ByteArray) (I : List (ByteArray × ByteArray)) : Nat → Nat → Nat → Nat → Res
  | 0, _, _, p => .bad p
  | g + 1, d, k, p =>
    if h : p < t.size then
      if isEnd k (t[p]'h) then .ok [] p
      else if nx t p 35 && nx t (p + 1) 35 then (tx t I g d k (p + 2)).pre [35]
      else if nx t p 35 && nx t (p + 1) 123 then
        match itm (tx t I g) t I d p with
        | .bad q => .bad q
        | .ok o q => (tx t I g d k q).pre o
      else (tx t I g d k (p + 1)).pre [t[p]'h]
    else .ok [] p
/-- What the pieces within keep to. -/
def Keeps (t : ByteArray) (p : Nat) (r : Res) : Prop := ∀ o q, r = .ok o q → p ≤ q ∧ q ≤ t.size ∧ o.length ≤ 4000 * (q - p)
theorem Keeps.pre {t : ByteArray} {p p' : Nat} {r : Res} {l : List UInt8} (h : Keeps t p' r) (hp : p ≤ p') (hl : l.length ≤ 4000 * (p' - p)) : Keeps t p (r.pre l) := by
  intro o q e
  cases r with
  | bad _ => simp [Res.pre] at e
  | ok o' q' =>
    simp only [Res.pre, Res.ok.injEq] at e
    obtain ⟨rfl, rfl⟩ := e
    obtain ⟨h1, h2, h3⟩ := h o' q' rfl
    refine ⟨by omega, h2, ?_⟩
    rw [List.length_append]
    omega
theorem cutS_length_le (s : ByteArray) (n : Int) : (Txt.cutS s n).length ≤ s.size := by
  unfold Txt.cutS
  rw [List.length_take]
  have : s.data.toList.length = s.size := Array.length_toList
  omega
theorem val_len (I : List (ByteArray × ByteArray)) (hI : ∀ x ∈ I, x.2.size ≤ 4000) (n : ByteArray) : (val I n).size ≤ 4000 := by
  unfold val
  cases h : I.find? (fun x => x.1.toList == n.toList) with
  | none => exact Nat.zero_le 4000
  | some x => simpa using hI x (List.mem_of_find?_eq_some h)
theorem vaR_keeps {t : ByteArray} {I : List (ByteArray × ByteArray)} (hI : ∀ x ∈ I, x.2.size ≤ 4000) (p : Nat) (hp : p ≤ t.size) : Keeps t p (vaR t I p) := by
  intro o q e
  unfold vaR at e
  split at e
  · cases e
  · rename_i hn
    injection e with e1 e2
    subst e1 e2
    have h1 := run_ge isN t t.size p
    have h2 := run_le isN t t.size p hp
    have hv := val_len I hI (t.extract p (nm t p))
    have hs : (val I (t.extract p (nm t p))).data.toList.length = (val I (t.extract p (nm t p))).size := Array.length_toList
    unfold nm at *
    refine ⟨h1, h2, ?_⟩
    rw [hs]
    omega
theorem ctR_keeps {t : ByteArray} {I : List (ByteArray × ByteArray)} (hI : ∀ x ∈ I, x.2.size ≤ 4000) (j : Nat) : Keeps t j (ctR t I j) := by
  intro o q e
  unfold ctR at e
  split at e
  · cases e
  · split at e
    · rename_i h58
      have h0 := nx_lt h58
      have h1 := run_ge isD t 3 j
      split at e
      · cases e
      · rename_i v q' hv
        obtain ⟨a1, a2, a3⟩ := vaR_keeps hI (run isD t 3 j + 1) (by omega) v q' hv
        injection e with e1 e2
        subst e1 e2
        have hc := cutS_length_le ⟨v.toArray⟩ (num t j (run isD t 3 j))
        have hs : (⟨v.toArray⟩ : ByteArray).size = v.length := List.size_toArray
        exact ⟨by omega, a2, by omega⟩
    · cases e
theorem chR_keeps {t : ByteArray} {I : List (ByteArray × ByteArray)} (hI : ∀ x ∈ I, x.2.size ≤ 4000) (f : Nat → Nat → Nat → Res) (d j : Nat) (hj : j ≤ t.size)
    (hf : ∀ k i, j < i → i ≤ t.size → Keeps t i (f d k i)) : Keeps t j (chR f t I d j) := by
  intro o q e
  unfold chR at e
  split at e
  · cases e
  · rename_i v q0 hv
    obtain ⟨a1, a2, a3⟩ := vaR_keeps hI j hj v q0 hv
    split at e
    · rename_i h44
      have h0 := nx_lt h44
      split at e
      · cases e
      · rename_i A q1 hA
        obtain ⟨b1, b2, b3⟩ := hf 1 (q0 + 1) (by omega) (by omega) A q1 hA
        split at e
        · rename_i h44'
          have h0' := nx_lt h44'
          split at e
          · cases e
          · rename_i B q2 hB
            obtain ⟨c1, c2, c3⟩ := hf 2 (q1 + 1) (by omega) (by omega) B q2 hB
            injection e with e1 e2
            subst e1 e2
            refine ⟨by omega, c2, ?_⟩
            split <;> omega
        · cases e
    · cases e
theorem inR_keeps {t : ByteArray} {I : List (ByteArray × ByteArray)} (hI : ∀ x ∈ I, x.2.size ≤ 4000) (f : Nat → Nat → Nat → Res) (d p : Nat) (hp : p ≤ t.size)
    (hf : ∀ k i, p < i → i ≤ t.size → Keeps t i (f d k i)) : Keeps t p (inR f t I d p) := by
  intro o q e
  unfold inR at e
  split at e
  · obtain ⟨a1, a2, a3⟩ := ctR_keeps hI (p + 1) o q e
    exact ⟨by omega, a2, by omega⟩
  · split at e
    · rename_i h63
      have h0 := nx_lt h63
      obtain ⟨a1, a2, a3⟩ := chR_keeps hI f d (p + 1) (by omega) (fun k i h1 h2 => hf k i (by omega) h2) o q e
      exact ⟨by omega, a2, by omega⟩
    · exact vaR_keeps hI p hp o q e
theorem itm_keeps {t : ByteArray} {I : List (ByteArray × ByteArray)} (hI : ∀ x ∈ I, x.2.size ≤ 4000) (f : Nat → Nat → Nat → Res) (d p : Nat) (hp : p + 2 ≤ t.size)
    (hf : ∀ k j, p < j → j ≤ t.size → Keeps t j (f (d + 1) k j)) : ∀ o q, itm f t I d p = .ok o q → p + 2 ≤ q ∧ q ≤ t.size ∧ o.length ≤ 4000 * (q - p) := by
  intro o q e
  unfold itm at e
  split at e
  · cases e
  · split at e
    · cases e
    · rename_i o' q' hi
      obtain ⟨a1, a2, a3⟩ := inR_keeps hI f (d + 1) (p + 2) hp (fun k i h1 h2 => hf k i (by omega) h2) o' q' hi
      split at e
      · rename_i h125
        have h0 := nx_lt h125
        injection e with e1 e2
        subst e1 e2
        exact ⟨by omega, by omega, by omega⟩
      · cases e
theorem tx_keeps {t : ByteArray} {I : List (ByteArray × ByteArray)} (hI : ∀ x ∈ I, x.2.size ≤ 4000) : ∀ g d k p, p ≤ t.size → t.size - p < g → Keeps t p (tx t I g d k p)
  | 0, _, _, _, _, h => absurd h (Nat.not_lt_zero _)
  | g + 1, d, k, p, hp, hg => by
    unfold tx
    split
    · rename_i h
      split
      · intro o q e
        simp only [Res.ok.injEq] at e
        obtain ⟨rfl, rfl⟩ := e
        exact ⟨Nat.le_refl _, hp, by simp⟩
      · split
        · rename_i h2
          rw [Bool.and_eq_true] at h2
          have := nx_lt h2.2
          exact (tx_keeps hI g d k (p + 2) (by omega) (by omega)).pre (by omega) (by rw [List.length_singleton]; omega)
        · split
          · rename_i h3
            rw [Bool.and_eq_true] at h3
            have h3' := nx_lt h3.2
            have hk := itm_keeps hI (tx t I g) d p (by omega) (fun k j h1 h2 => tx_keeps hI g (d + 1) k j h2 (by omega))
            split
            · intro o q e; simp at e
            · rename_i o q hi
              obtain ⟨h4, h5, h6⟩ := hk o q hi
              exact (tx_keeps hI g d k q h5 (by omega)).pre (by omega) h6
          · exact (tx_keeps hI g d k (p + 1) (by omega) (by omega)).pre (by omega) (by rw [List.length_singleton]; omega)
    · intro o q e
      simp only [Res.ok.injEq] at e
      obtain ⟨rfl, rfl⟩ := e
      exact ⟨Nat.le_refl _, hp, by simp⟩
end Fmt
end Go.Proofs.YtbhoklhcdefabaaDoor
