/- Package copying: what is pure: in right UTF-8, bytes that are alike are runes that are. -/
import Derived.Test.YtlodmffiengnaaaDoorCpyM
import Derived.Laws.Cover4
import Derived.Lib.IndexMore
import Derived.Lib.RuneCount
namespace Go.Proofs.YtlodmffiengnaaaDoor
open Go.ChangeShapes Go.WideShapes Go.ChangeAt Go.RowKit Go.Maps
namespace Cpy
open Txt (runes rn wd spotsL colsL cleanL bs okRune dec)
/-- The bytes of runes. -/
def E (l : List Int) : List UInt8 := l.flatMap Lib.encodeRune
theorem E_cons (r : Int) (l : List Int) : E (r :: l) = Lib.encodeRune r ++ E l := rfl
theorem E_append (a b : List Int) : E (a ++ b) = E a ++ E b := by unfold E; exact List.flatMap_append
theorem E_ne {l : List Int} (h : l ≠ []) : E l ≠ [] := by
  cases l with
  | nil => exact absurd rfl h
  | cons r t => rw [E_cons]; simp [Txt.encode_ne]
theorem bytes_fold (l : List Int) : ∀ acc : ByteArray, (l.foldl (fun r n => r ++ Utf8.encode n) acc).data.toList = acc.data.toList ++ E l := by
  induction l with
  | nil => intro acc; simp [E]
  | cons r t ih =>
    intro acc
    rw [List.foldl_cons, ih, E_cons, ByteArray.data_append, Array.toList_append, Txt.encode_eq, bs_data, List.append_assoc]
theorem bytes_E (l : List Int) : (runesBytes l).data.toList = E l := by
  unfold runesBytes
  rw [bytes_fold]
  rfl
/-- A byte that begins a rune. -/
def lead (b : UInt8) : Bool := decide (b.toNat < 128) || decide (192 ≤ b.toNat)
theorem lead_z (x : Int) (h0 : 0 ≤ x) (h1 : x < 256) : lead (x.toNat.toUInt8) = (decide (x < 128) || decide (192 ≤ x)) := by
  unfold lead
  rw [Txt.byte_toNat _ (by omega)]
  congr 1 <;> rw [decide_eq_decide] <;> omega
theorem encode_shape (r : Int) : ∃ h t, Lib.encodeRune r = h :: t ∧ lead h = true ∧ ∀ b ∈ t, lead b = false := by
  unfold Lib.encodeRune Lib.encodeRuneZ
  split
  · exact ⟨_, _, rfl, by rw [lead_z _ (by omega) (by omega)]; simp; omega, by simp⟩
  split
  · refine ⟨_, _, rfl, by rw [lead_z _ (by omega) (by omega)]; simp; omega, ?_⟩
    intro b hb
    simp only [List.mem_map, List.mem_cons, List.not_mem_nil, or_false] at hb
    obtain ⟨z, rfl, rfl⟩ := hb
    rw [lead_z _ (by omega) (by omega)]; simp; omega
  split
  · refine ⟨_, _, rfl, by rw [lead_z _ (by omega) (by omega)]; simp; omega, ?_⟩
    intro b hb
    simp only [List.mem_map, List.mem_cons, List.not_mem_nil, or_false] at hb
    obtain ⟨z, rfl | rfl, rfl⟩ := hb <;> rw [lead_z _ (by omega) (by omega)] <;> simp <;> omega
  split
  · refine ⟨_, _, rfl, by rw [lead_z _ (by omega) (by omega)]; simp; omega, ?_⟩
    intro b hb
    simp only [List.mem_map, List.mem_cons, List.not_mem_nil, or_false] at hb
    obtain ⟨z, rfl | rfl | rfl, rfl⟩ := hb <;> rw [lead_z _ (by omega) (by omega)] <;> simp <;> omega
  · refine ⟨_, _, rfl, by decide, by decide⟩
/-- A byte that begins a rune stands where a rune begins. -/
theorem lead_at : ∀ (l : List Int) (i : Nat) (b : UInt8), (E l)[i]? = some b → lead b = true → ∃ k, k < l.length ∧ i = (E (l.take k)).length
  | [], i, b, h, _ => by simp [E] at h
  | r :: t, i, b, h, hb => by
    rw [E_cons] at h
    obtain ⟨x, y, he, _, hy⟩ := encode_shape r
    by_cases hi : i < (Lib.encodeRune r).length
    · rw [List.getElem?_append_left hi, he] at h
      cases i with
      | zero => exact ⟨0, by simp, by simp [E]⟩
      | succ i =>
        have : b ∈ y := List.mem_of_getElem? (by simpa using h)
        rw [hy b this] at hb
        cases hb
    · rw [List.getElem?_append_right (by omega)] at h
      obtain ⟨k, hk, hik⟩ := lead_at t _ b h hb
      refine ⟨k + 1, by simpa using hk, ?_⟩
      rw [List.take_succ_cons, E_cons, List.length_append]
      omega
theorem ok_nonneg {r : Int} (h : okRune r) : 0 ≤ r := by unfold okRune at h; omega
/-- What begins with the bytes of runes begins with these runes. -/
theorem prefix_E : ∀ (ws rs : List Int), (∀ r ∈ ws, okRune r) → (∀ r ∈ rs, okRune r) → (E ws <+: E rs ↔ ws <+: rs)
  | [], rs, _, _ => by simp [E]
  | w :: t, [], _, _ => by
    constructor
    · intro h
      have := List.prefix_nil.1 (show E (w :: t) <+: [] from h)
      exact absurd this (E_ne (by simp))
    · intro h
      simp at h
  | w :: t, r :: l, hw, hr => by
    have okw := hw w (List.mem_cons_self ..)
    have okr := hr r (List.mem_cons_self ..)
    have ih := prefix_E t l (fun x hx => hw x (List.mem_cons_of_mem _ hx)) (fun x hx => hr x (List.mem_cons_of_mem _ hx))
    rw [E_cons, E_cons]
    constructor
    · rintro ⟨z, hz⟩
      have d1 := Txt.dec_encode w okw (E t ++ z)
      have d2 := Txt.dec_encode r okr (E l)
      rw [← List.append_assoc, hz, d2] at d1
      have e0 : w = r := by
        have h1 := ok_nonneg okw
        have h2 := ok_nonneg okr
        injection d1 with d1
        omega
      subst e0
      rw [List.append_assoc] at hz
      have := List.append_cancel_left hz
      exact List.cons_prefix_cons.2 ⟨rfl, ih.1 ⟨z, this⟩⟩
    · intro h
      obtain ⟨rfl, h2⟩ := List.cons_prefix_cons.1 h
      obtain ⟨z, hz⟩ := ih.2 h2
      exact ⟨z, by rw [List.append_assoc, hz]⟩
/-- Where runes stand first. -/
def pos (ws : List Int) : List Int → Option Nat
  | [] => none
  | r :: t => if ws.isPrefixOf (r :: t) then some 0 else (pos ws t).map (· + 1)
theorem pos_some : ∀ (ws rs : List Int) (k : Nat), pos ws rs = some k → k < rs.length ∧ ws <+: rs.drop k ∧ ∀ j, j < k → ¬ ws <+: rs.drop j
  | ws, [], k, h => by cases h
  | ws, r :: t, k, h => by
    unfold pos at h
    by_cases hp : ws.isPrefixOf (r :: t) = true
    · rw [if_pos hp] at h
      obtain rfl : 0 = k := Option.some.inj h
      exact ⟨by simp, List.isPrefixOf_iff_prefix.1 hp, fun j hj => by omega⟩
    · rw [if_neg hp] at h
      obtain ⟨j, hj, rfl⟩ := Option.map_eq_some_iff.1 h
      obtain ⟨h1, h2, h3⟩ := pos_some ws t j hj
      refine ⟨by simpa using h1, h2, fun i hi => ?_⟩
      cases i with
      | zero => exact fun hq => hp (List.isPrefixOf_iff_prefix.2 hq)
      | succ i => exact h3 i (by omega)
theorem pos_none : ∀ (ws rs : List Int), pos ws rs = none → ∀ j, j < rs.length → ¬ ws <+: rs.drop j
  | ws, [], _, j, hj => by simp at hj
  | ws, r :: t, h, j, hj => by
    unfold pos at h
    by_cases hp : ws.isPrefixOf (r :: t) = true
    · rw [if_pos hp] at h; cases h
    · rw [if_neg hp] at h
      have h2 := Option.map_eq_none_iff.1 h
      cases j with
      | zero => exact fun hq => hp (List.isPrefixOf_iff_prefix.2 hq)
      | succ j => exact pos_none ws t h2 j (by simpa using hj)
theorem E_split (l : List Int) (k : Nat) : E l = E (l.take k) ++ E (l.drop k) := by rw [← E_append, List.take_append_drop]
theorem E_drop (l : List Int) (k : Nat) : (E l).drop (E (l.take k)).length = E (l.drop k) := by
  conv => lhs; rw [E_split l k]
  rw [List.drop_left]
theorem E_take (l : List Int) (k : Nat) : (E l).take (E (l.take k)).length = E (l.take k) := by
  conv => lhs; rw [E_split l k]
  rw [List.take_left]
theorem E_mono (l : List Int) {j k : Nat} (h : j < k) (hk : k ≤ l.length) : (E (l.take j)).length < (E (l.take k)).length := by
  have e1 : l.take j = (l.take k).take j := by rw [List.take_take, Nat.min_eq_left (by omega)]
  have e2 := congrArg List.length (E_split (l.take k) j)
  rw [List.length_append, ← e1] at e2
  have e3 : (l.take k).drop j ≠ [] := by
    intro e
    have := congrArg List.length e
    simp at this
    omega
  have := E_ne e3
  have : 0 < (E ((l.take k).drop j)).length := List.length_pos_iff.2 this
  omega
theorem occ_E (ws rs : List Int) (h1 : ∀ r ∈ ws, okRune r) (h2 : ∀ r ∈ rs, okRune r) (hw : ws ≠ []) (j : Nat) (h : Lib.occAt (E rs) (E ws) j = true) : ∃ k, k < rs.length ∧ j = (E (rs.take k)).length ∧ ws <+: rs.drop k := by
  unfold Lib.occAt at h
  have hp := List.isPrefixOf_iff_prefix.1 h
  cases ws with
  | nil => exact absurd rfl hw
  | cons w t =>
    obtain ⟨x, y, he, hl, _⟩ := encode_shape w
    have hx : (E rs)[j]? = some x := by
      obtain ⟨z, hz⟩ := hp
      have : ((E rs).drop j)[0]? = some x := by rw [← hz, E_cons, he]; rfl
      rwa [List.getElem?_drop, Nat.add_zero] at this
    obtain ⟨k, hk, rfl⟩ := lead_at rs j x hx hl
    rw [E_drop] at hp
    exact ⟨k, hk, rfl, (prefix_E _ _ h1 (fun r hr => h2 r (List.mem_of_mem_drop hr))).1 hp⟩
theorem index_E (ws rs : List Int) (h1 : ∀ r ∈ ws, okRune r) (h2 : ∀ r ∈ rs, okRune r) (hw : ws ≠ []) : Lib.index (E rs) (E ws) = match pos ws rs with | none => -1 | some k => ((E (rs.take k)).length : Int) := by
  cases hp : pos ws rs with
  | none =>
    refine Lib.index_none fun j _ => ?_
    cases ho : Lib.occAt (E rs) (E ws) j with
    | false => rfl
    | true =>
      obtain ⟨k, hk, _, hq⟩ := occ_E ws rs h1 h2 hw j ho
      exact absurd hq (pos_none ws rs hp k hk)
  | some k =>
    obtain ⟨p1, p2, p3⟩ := pos_some ws rs k hp
    refine Lib.index_first ?_ ?_ ?_
    · have := congrArg List.length (E_split rs k)
      rw [List.length_append] at this
      omega
    · unfold Lib.occAt
      rw [E_drop]
      exact List.isPrefixOf_iff_prefix.2 ((prefix_E _ _ h1 (fun r hr => h2 r (List.mem_of_mem_drop hr))).2 p2)
    · intro j hj
      cases ho : Lib.occAt (E rs) (E ws) j with
      | false => rfl
      | true =>
        obtain ⟨i, hi, rfl, hq⟩ := occ_E ws rs h1 h2 hw j ho
        by_cases hik : i < k
        · exact absurd hq (p3 i hik)
        · by_cases e : i = k
          · subst e; omega
          · have := E_mono rs (j := k) (k := i) (by omega) (by omega)
            omega
theorem count_rs (s : ByteArray) : ∀ f p : Nat, Lib.runeCountFrom s f p = (Txt.rs s f p).length
  | 0, _ => rfl
  | f + 1, p => by
    unfold Lib.runeCountFrom Txt.rs
    split
    · rw [count_rs s f, List.length_cons]; omega
    · rfl
theorem count_E (l : List Int) (h : ∀ r ∈ l, okRune r) (s : ByteArray) (hs : s.data.toList = E l) : Lib.runeCount s = l.length := by
  unfold Lib.runeCount
  rw [count_rs]
  show (runes s).length = _
  rw [Txt.runes_rn, hs]
  clear hs
  induction l with
  | nil => rfl
  | cons r t ih => rw [E_cons, Txt.rn_encode r (h r (List.mem_cons_self ..)), List.length_cons, List.length_cons, ih (fun x hx => h x (List.mem_cons_of_mem _ hx))]
end Cpy
end Go.Proofs.YtlodmffiengnaaaDoor
