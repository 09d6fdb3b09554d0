/- Package copying: what is pure: the reference's hits, and the next one. -/
import Derived.Test.YtlodmffiengnaaaDoorCpySeekC
namespace Go.Proofs.YtlodmffiengnaaaDoor
open Go.ChangeShapes Go.WideShapes Go.ChangeAt Go.RowKit Go.Maps
namespace Cpy
/-- Where runes stand in a line. -/
def hitsS (ws : List Int) (y : Nat) : List (Int × Int) → List (Int × Int)
  | [] => []
  | p :: t => (if ws.isPrefixOf ((p :: t).map (·.1)) then [(p.2, (y : Int))] else []) ++ hitsS ws y t
def allHits (ws : List Int) : Nat → List (List (Int × Int)) → List (Int × Int)
  | _, [] => []
  | y, S :: more => hitsS ws y S ++ allHits ws (y + 1) more
/-- The same by their numbers: the first k. -/
def hitsI (ws : List Int) (y : Nat) (S : List (Int × Int)) : Nat → List (Int × Int)
  | 0 => []
  | k + 1 => hitsI ws y S k ++ (if ws.isPrefixOf ((S.map (·.1)).drop k) then [((S.map (·.2)).getD k 0, (y : Int))] else [])
theorem hitsI_cons (ws : List Int) (y : Nat) (p : Int × Int) (t : List (Int × Int)) : ∀ k, hitsI ws y (p :: t) (k + 1) = (if ws.isPrefixOf ((p :: t).map (·.1)) then [(p.2, (y : Int))] else []) ++ hitsI ws y t k
  | 0 => by simp [hitsI]
  | k + 1 => by
    rw [hitsI, hitsI_cons ws y p t k, List.append_assoc]
    congr 1
theorem hitsI_all (ws : List Int) (y : Nat) : ∀ S : List (Int × Int), hitsI ws y S S.length = hitsS ws y S
  | [] => rfl
  | p :: t => by rw [List.length_cons, hitsI_cons, hitsI_all ws y t, hitsS]
theorem allHits_append (ws : List Int) : ∀ (A B : List (List (Int × Int))) (y : Nat), allHits ws y (A ++ B) = allHits ws y A ++ allHits ws (y + A.length) B
  | [], B, y => rfl
  | S :: A, B, y => by rw [List.cons_append, allHits, allHits, allHits_append ws A B (y + 1), List.append_assoc, List.length_cons, show y + 1 + A.length = y + (A.length + 1) by omega]
def hitsTo (ws : List Int) (L : List ByteArray) (n : Nat) : List (Int × Int) := allHits ws 0 ((L.map sp).take n)
theorem hitsTo_succ (ws : List Int) (L : List ByteArray) (n : Nat) (h : n < L.length) : hitsTo ws L (n + 1) = hitsTo ws L n ++ hitsS ws n (sp (ln L n)) := by
  unfold hitsTo
  have hn : n < (L.map sp).length := by rw [List.length_map]; exact h
  have he : (L.map sp)[n] = sp (ln L n) := by
    rw [List.getElem_map]
    have := ln_get h
    rw [List.getElem?_eq_getElem h] at this
    rw [Option.some.inj this]
  rw [List.take_succ_eq_append_getElem hn, he, allHits_append, List.length_take, Nat.min_eq_left (Nat.le_of_lt hn), Nat.zero_add, allHits, allHits, List.append_nil]
theorem hitsTo_all (ws : List Int) (L : List ByteArray) : hitsTo ws L L.length = allHits ws 0 (L.map sp) := by
  unfold hitsTo
  rw [List.take_of_length_le (by rw [List.length_map]; exact Nat.le_refl _)]
/-- Behind a place? -/
def behind (x : Int) (y : Nat) (m : Int × Int) : Bool := decide ((y : Int) < m.2) || (decide (m.2 = (y : Int)) && decide (x < m.1))
def bestM (ws : List Int) (L : List ByteArray) (x : Int) (y : Nat) : Option (Int × Int) := ((hitsTo ws L L.length).find? (behind x y)).or (hitsTo ws L L.length).head?
theorem hitsS_row (ws : List Int) (y : Nat) : ∀ (S : List (Int × Int)), ∀ m ∈ hitsS ws y S, m.2 = (y : Int) ∧ m.1 ∈ S.map (·.2)
  | [], m, h => by simp [hitsS] at h
  | p :: t, m, h => by
    unfold hitsS at h
    rcases List.mem_append.1 h with h | h
    · split at h
      · rw [List.mem_singleton] at h
        subst h
        exact ⟨rfl, by simp⟩
      · simp at h
    · obtain ⟨h1, h2⟩ := hitsS_row ws y t m h
      exact ⟨h1, by rw [List.map_cons]; exact List.mem_cons_of_mem _ h2⟩
theorem allHits_row (ws : List Int) : ∀ (A : List (List (Int × Int))) (y : Nat), ∀ m ∈ allHits ws y A, (y : Int) ≤ m.2 ∧ m.2 < (y : Int) + A.length
  | [], y, m, h => by simp [allHits] at h
  | S :: A, y, m, h => by
    unfold allHits at h
    rcases List.mem_append.1 h with h | h
    · have h1 := (hitsS_row ws y S m h).1
      rw [List.length_cons]
      omega
    · obtain ⟨h1, h2⟩ := allHits_row ws A (y + 1) m h
      rw [List.length_cons]
      omega
theorem find_none {l : List (Int × Int)} {p : Int × Int → Bool} (h : ∀ m ∈ l, p m = false) : l.find? p = none := by
  rw [List.find?_eq_none]
  intro m hm
  rw [h m hm]
  simp
theorem find_head {l : List (Int × Int)} {p : Int × Int → Bool} (h : ∀ m ∈ l, p m = true) : l.find? p = l.head? := by
  cases l with
  | nil => rfl
  | cons a t => rw [List.find?_cons, h a (List.mem_cons_self ..)]; rfl
/-- Columns that grow: behind x are those of the runes behind the one at x. -/
theorem hitsS_find (ws : List Int) (x : Int) (y : Nat) : ∀ (S : List (Int × Int)), (S.map (·.2)).Pairwise (· < ·) → (hitsS ws y S).find? (behind x y) = (hitsS ws y (S.drop ((S.map (·.2)).countP (· ≤ x)))).head?
  | [], _ => rfl
  | p :: t, h => by
    rw [List.map_cons, List.pairwise_cons] at h
    have ih := hitsS_find ws x y t h.2
    rw [List.map_cons, List.countP_cons]
    by_cases hp : p.2 ≤ x
    · have hz : List.find? (behind x y) (if ws.isPrefixOf ((p :: t).map (·.1)) = true then [(p.2, (y : Int))] else []) = none := find_none (by
        intro m hm
        split at hm
        · rw [List.mem_singleton] at hm
          subst hm
          unfold behind
          simp
          omega
        · simp at hm)
      rw [if_pos (by simpa using hp), List.drop_succ_cons, ← ih, hitsS, List.find?_append, hz, Option.none_or]
    · have h0 : (t.map (·.2)).countP (fun z => decide (z ≤ x)) = 0 := by
        rw [List.countP_eq_zero]
        intro a ha
        have := h.1 a ha
        simp
        omega
      rw [h0, if_neg (by simpa using hp)]
      rw [Nat.zero_add, List.drop_zero]
      refine find_head fun m hm => ?_
      obtain ⟨h1, h2⟩ := hitsS_row ws y _ m hm
      unfold behind
      rw [List.map_cons] at h2
      have hx : x < m.1 := by
        rcases List.mem_cons.1 h2 with h2 | h2
        · omega
        · have := h.1 _ h2; omega
      rw [h1]
      simp [hx]
/-- The first hit of a line, as findM has it. -/
theorem find_hit (ws : List Int) (y : Nat) : ∀ (S : List (Int × Int)), (hitsS ws y S).head? = (pos ws (S.map (·.1))).map (fun k => ((S.map (·.2)).getD k 0, (y : Int)))
  | [] => rfl
  | p :: t => by
    rw [hitsS, List.map_cons, pos]
    by_cases hp : ws.isPrefixOf (p.1 :: t.map (·.1)) = true
    · rw [if_pos hp, if_pos hp]; rfl
    · rw [if_neg hp, if_neg hp, List.nil_append, find_hit ws y t]
      cases pos ws (t.map (·.1)) <;> rfl
theorem findM_hit (ws : List Int) (y : Nat) (S : List (Int × Int)) (i : Nat) (hpos : ∀ p ∈ S, 0 ≤ p.2) : (hitsS ws y (S.drop i)).head? = if 0 ≤ findM S ws i then some (findM S ws i, (y : Int)) else none := by
  rw [find_hit]
  unfold findM
  rw [List.map_drop, List.map_drop]
  cases h : pos ws ((S.map (·.1)).drop i) with
  | none => rfl
  | some k =>
    have hk := (pos_some _ _ _ h).1
    rw [List.length_drop, List.length_map] at hk
    have he : ((S.map (·.2)).drop i).getD k 0 = (S.map (·.2)).getD (i + k) 0 := by
      rw [List.getD_eq_getElem?_getD, List.getD_eq_getElem?_getD, List.getElem?_drop]
    have h0 : 0 ≤ (S.map (·.2)).getD (i + k) 0 := by
      rw [List.getD_eq_getElem?_getD, List.getElem?_map, List.getElem?_eq_getElem (show i + k < S.length by omega)]
      exact hpos _ (List.getElem_mem _)
    simp only [Option.map_some, he]
    rw [if_pos h0]
theorem rows_at (L : List ByteArray) {Y : Nat} (h : Y < L.length) : (L.map sp).drop Y = sp (ln L Y) :: (L.map sp).drop (Y + 1) := by
  have hn : Y < (L.map sp).length := by rw [List.length_map]; exact h
  rw [List.drop_eq_getElem_cons hn, List.getElem_map]
  have := ln_get h
  rw [List.getElem?_eq_getElem h] at this
  rw [Option.some.inj this]
theorem take_at (L : List ByteArray) {y Z : Nat} (hy : y < L.length) (h : Z ≤ y) : ((L.map sp).take (y + 1)).drop Z = sp (ln L Z) :: ((L.map sp).take (y + 1)).drop (Z + 1) := by
  rw [List.drop_take, List.drop_take, rows_at L (show Z < L.length by omega), show y + 1 - Z = (y + 1 - (Z + 1)) + 1 by omega, List.take_succ_cons]
theorem seekG_two (L : List ByteArray) (ws : List Int) (y : Nat) (hy : y < L.length) : ∀ (g i : Nat), 1 ≤ i → i + g = L.length + 1 → L.length ≤ y + i → seekG L ws y g i 0 = (allHits ws (y + i - L.length) (((L.map sp).take (y + 1)).drop (y + i - L.length))).head?
  | 0, i, _, hg, _ => by
    rw [show i = L.length + 1 by omega, List.drop_of_length_le (by rw [List.length_take, List.length_map]; omega)]
    rfl
  | g + 1, i, h1, hg, hi => by
    have ih := seekG_two L ws y hy g (i + 1) (by omega) (by omega) (by omega)
    have hm : (y + i) % L.length = y + i - L.length := by
      rw [Nat.mod_eq_sub_mod hi, Nat.mod_eq_of_lt (by omega)]
    rw [seekG, hm, take_at L hy (show y + i - L.length ≤ y by omega), allHits, List.head?_append, ih, show y + (i + 1) - L.length = y + i - L.length + 1 by omega]
    have hf := findM_hit ws (y + i - L.length) (sp (ln L (y + i - L.length))) 0 (sp_pos _)
    rw [List.drop_zero] at hf
    rw [hf]
    split <;> rfl
theorem seekG_one (L : List ByteArray) (ws : List Int) (y : Nat) (hy : y < L.length) : ∀ (g i : Nat), 1 ≤ i → i + g = L.length + 1 → y + i ≤ L.length → seekG L ws y g i 0 = ((allHits ws (y + i) ((L.map sp).drop (y + i))).head?).or ((allHits ws 0 ((L.map sp).take (y + 1))).head?)
  | 0, i, _, hg, hi => by omega
  | g + 1, i, h1, hg, hi => by
    by_cases he : y + i = L.length
    · have h2 := seekG_two L ws y hy (g + 1) i h1 hg (by omega)
      rw [h2, he, Nat.sub_self, List.drop_zero, List.drop_of_length_le (by rw [List.length_map]; exact Nat.le_refl _)]
      rfl
    · have ih := seekG_one L ws y hy g (i + 1) (by omega) (by omega) (by omega)
      have hm : (y + i) % L.length = y + i := Nat.mod_eq_of_lt (by omega)
      rw [seekG, hm, rows_at L (show y + i < L.length by omega), allHits, List.head?_append, ih]
      have hf := findM_hit ws (y + i) (sp (ln L (y + i))) 0 (sp_pos _)
      rw [List.drop_zero] at hf
      rw [hf, show y + (i + 1) = y + i + 1 by omega]
      split <;> rfl
/-- What seek finds is the first hit behind the place, or the first of all. -/
theorem seek_best (L : List ByteArray) (ws : List Int) (x : Int) (y : Nat) (hy : y < L.length) : seekM L x y ws = bestM ws L x y := by
  unfold seekM bestM
  have h1 := seekG_one L ws y hy L.length 1 (Nat.le_refl _) (by omega) (by omega)
  have hc : (atI (cols (ln L y)) x + 1).toNat = ((sp (ln L y)).map (·.2)).countP (· ≤ x) := by
    unfold atI cols
    omega
  have hf := findM_hit ws y (sp (ln L y)) ((atI (cols (ln L y)) x + 1).toNat) (sp_pos _)
  have hS := hitsS_find ws x y (sp (ln L y)) (sp_lt _)
  rw [← hc] at hS
  rw [seekG, Nat.add_zero, Nat.mod_eq_of_lt hy, h1, hitsTo_all]
  have hall : allHits ws 0 (L.map sp) = allHits ws 0 ((L.map sp).take y) ++ (hitsS ws y (sp (ln L y)) ++ allHits ws (y + 1) ((L.map sp).drop (y + 1))) := by
    conv => lhs; rw [← List.take_append_drop y (L.map sp)]
    rw [allHits_append, List.length_take, List.length_map, Nat.min_eq_left (Nat.le_of_lt hy), Nat.zero_add, rows_at L hy, allHits]
  have htk : allHits ws 0 ((L.map sp).take (y + 1)) = allHits ws 0 ((L.map sp).take y) ++ hitsS ws y (sp (ln L y)) := hitsTo_succ ws L y hy
  have hA : (allHits ws 0 ((L.map sp).take y)).find? (behind x y) = none := find_none fun m hm => by
    have := allHits_row ws _ 0 m hm
    rw [List.length_take, List.length_map, Nat.min_eq_left (Nat.le_of_lt hy)] at this
    unfold behind
    simp
    omega
  have hQ : (allHits ws (y + 1) ((L.map sp).drop (y + 1))).find? (behind x y) = (allHits ws (y + 1) ((L.map sp).drop (y + 1))).head? := find_head fun m hm => by
    have := allHits_row ws _ (y + 1) m hm
    unfold behind
    simp
    omega
  rw [hall, htk, List.find?_append, List.find?_append, hA, hQ, hS, hf, Option.none_or]
  generalize findM (sp (ln L y)) ws (atI (cols (ln L y)) x + 1).toNat = f at *
  generalize allHits ws 0 ((L.map sp).take y) = P at *
  generalize allHits ws (y + 1) ((L.map sp).drop (y + 1)) = Q at *
  by_cases h0 : 0 ≤ f
  · rw [if_pos h0, if_pos h0]; rfl
  · rw [if_neg h0, if_neg h0, Option.none_or]
    cases hq : Q.head? with
    | some m => rfl
    | none =>
      have : Q = [] := by cases Q with | nil => rfl | cons a t => simp at hq
      rw [this, List.append_nil]
end Cpy
end Go.Proofs.YtlodmffiengnaaaDoor
