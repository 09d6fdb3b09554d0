/- Package copying: what is pure: which runes of a line are taken. -/
import Derived.Test.YtlodmffiengnaaaDoorCpyBetM
namespace Go.Proofs.YtlodmffiengnaaaDoor
open Go.ChangeShapes Go.WideShapes Go.ChangeAt Go.RowKit Go.Maps
namespace Cpy
open Txt (runes wd spotsL wideL wideS bs)
/-- Is a rune taken? -/
def inM (first last : Bool) (ax bx : Int) (p : Int × Int) : Bool := (!first || decide (ax ≤ p.2 + wd p.1 - 1)) && (!last || decide (p.2 ≤ bx))
theorem filter_le : ∀ (S : List (Int × Int)) (x : Int), (S.map (·.2)).Pairwise (· < ·) → S.filter (fun p => decide (p.2 ≤ x)) = S.take ((S.map (·.2)).countP (· ≤ x))
  | [], _, _ => rfl
  | p :: t, x, h => by
    rw [List.map_cons, List.pairwise_cons] at h
    have ih := filter_le t x h.2
    rw [List.map_cons, List.countP_cons]
    by_cases hp : p.2 ≤ x
    · rw [List.filter_cons_of_pos (by simpa using hp), ih]
      simp [hp]
    · rw [List.filter_cons_of_neg (by simpa using hp)]
      have h0 : (t.map (·.2)).countP (fun y => decide (y ≤ x)) = 0 := by
        rw [List.countP_eq_zero]
        intro a ha
        have := h.1 a ha
        simp
        omega
      rw [ih, h0]
      simp [hp]
theorem spots_pos : ∀ (l : List (Int × Nat)) (c : Int), ∀ p ∈ spotsL l c, 0 < wd p.1
  | [], _, p, hp => by simp [spotsL] at hp
  | y :: t, c, p, hp => by
    unfold spotsL at hp
    by_cases hw : 0 < wd y.1
    · rw [if_pos hw] at hp
      rcases List.mem_cons.1 hp with rfl | hp
      · exact hw
      · exact spots_pos t _ p hp
    · rw [if_neg hw] at hp
      exact spots_pos t _ p hp
def cutN (l : List (Int × Nat)) (c x : Int) : Nat := if c + wideL l ≤ x then (spotsL l c).length else (atI ((spotsL l c).map (·.2)) x).toNat
theorem filter_ge : ∀ (l : List (Int × Nat)) (c x : Int), c ≤ x → (spotsL l c).filter (fun p => decide (x ≤ p.2 + wd p.1 - 1)) = (spotsL l c).drop (cutN l c x)
  | [], _, _, _ => by simp [spotsL]
  | y :: t, c, x, hc => by
    have hr := Txt.wd_range y.1
    have h0 := wideL_nonneg t
    have e1 : wideL (y :: t) = wd y.1 + wideL t := rfl
    unfold cutN
    rw [e1]
    by_cases hw : 0 < wd y.1
    · have e2 : spotsL (y :: t) c = (y.1, c) :: spotsL t (c + wd y.1) := by rw [spotsL, if_pos hw]
      rw [e2]
      by_cases hx : x ≤ c + wd y.1 - 1
      · rw [List.filter_cons_of_pos (by simpa using hx), if_neg (by omega)]
        have hall : (spotsL t (c + wd y.1)).filter (fun p => decide (x ≤ p.2 + wd p.1 - 1)) = spotsL t (c + wd y.1) := by
          rw [List.filter_eq_self]
          intro p hp
          have h1 := spots_low t _ p hp
          have h2 := spots_pos t _ p hp
          simp
          omega
        have hz : ((spotsL t (c + wd y.1)).map (·.2)).countP (fun z => decide (z ≤ x)) = 0 := by
          rw [List.countP_eq_zero]
          intro a ha
          obtain ⟨p, hp, rfl⟩ := List.mem_map.1 ha
          have h1 := spots_low t _ p hp
          simp
          omega
        rw [hall]
        unfold atI
        rw [List.map_cons, List.countP_cons, hz]
        simp [hc]
      · rw [List.filter_cons_of_neg (by simpa using hx), filter_ge t (c + wd y.1) x (by omega)]
        unfold cutN
        by_cases hwd : c + wd y.1 + wideL t ≤ x
        · rw [if_pos hwd, if_pos (by omega)]
          simp
        · rw [if_neg hwd, if_neg (by omega)]
          obtain ⟨r, u, he⟩ := spots_first t (c + wd y.1) (by omega)
          have hn : 0 ≤ atI ((spotsL t (c + wd y.1)).map (·.2)) x := by
            unfold atI
            rw [he, List.map_cons, List.countP_cons]
            simp only [show c + wd y.1 ≤ x by omega, decide_true, if_true]
            omega
          have hs : atI (((y.1, c) :: spotsL t (c + wd y.1)).map (·.2)) x = atI ((spotsL t (c + wd y.1)).map (·.2)) x + 1 := by
            unfold atI
            rw [List.map_cons, List.countP_cons]
            simp only [hc, decide_true, if_true]
            omega
          rw [hs]
          obtain ⟨m, hm⟩ := Int.eq_ofNat_of_zero_le hn
          rw [hm]
          rfl
    · have e2 : spotsL (y :: t) c = spotsL t c := by rw [spotsL, if_neg hw]
      have e3 : wd y.1 + wideL t = wideL t := by omega
      rw [e2, e3]
      exact filter_ge t c x hc
theorem taken (s : ByteArray) (first last : Bool) (ax bx : Int) (hax : 0 ≤ ax) (hab : first = true → last = true → ax ≤ bx) :
    ((sp s).filter (inM first last ax bx)).map (·.1) = (((sp s).map (·.1)).drop (frM s first ax)).take (toM s last bx - frM s first ax) := by
  have hle := frM_le s first last ax bx hab
  have hB : (sp s).filter (fun p => !first || decide (ax ≤ p.2 + wd p.1 - 1)) = (sp s).drop (frM s first ax) := by
    cases first with
    | false =>
      simp only [Bool.not_false, Bool.true_or]
      unfold frM
      rw [List.filter_eq_self.2 (fun _ _ => rfl)]
      rfl
    | true =>
      simp only [Bool.not_true, Bool.false_or]
      have := filter_ge (runes s) 0 ax hax
      unfold cutN at this
      unfold frM
      rw [if_pos rfl]
      simp only [Int.zero_add] at this
      exact this
  have hA : (sp s).filter (fun p => !last || decide (p.2 ≤ bx)) = (sp s).take (toM s last bx) := by
    cases last with
    | false =>
      simp only [Bool.not_false, Bool.true_or]
      unfold toM
      rw [List.filter_eq_self.2 (fun _ _ => rfl)]
      simp
    | true =>
      simp only [Bool.not_true, Bool.false_or]
      rw [filter_le (sp s) bx (sp_lt s)]
      unfold toM
      rw [if_pos rfl]
      congr 1
      unfold atI cols
      omega
  have hpre : ((sp s).take (frM s first ax)).filter (fun p => !last || decide (p.2 ≤ bx)) = (sp s).take (frM s first ax) := by
    rw [List.filter_eq_self]
    intro p hp
    have hp2 : p ∈ (sp s).take (toM s last bx) := by
      have : (sp s).take (frM s first ax) = ((sp s).take (toM s last bx)).take (frM s first ax) := by rw [List.take_take, Nat.min_eq_left hle]
      rw [this] at hp
      exact List.mem_of_mem_take hp
    rw [← hA] at hp2
    exact (List.mem_filter.1 hp2).2
  have hD : ((sp s).drop (frM s first ax)).filter (fun p => !last || decide (p.2 ≤ bx)) = ((sp s).drop (frM s first ax)).take (toM s last bx - frM s first ax) := by
    have e1 : (sp s).filter (fun p => !last || decide (p.2 ≤ bx)) = ((sp s).take (frM s first ax)).filter (fun p => !last || decide (p.2 ≤ bx)) ++ ((sp s).drop (frM s first ax)).filter (fun p => !last || decide (p.2 ≤ bx)) := by
      rw [← List.filter_append, List.take_append_drop]
    rw [hA, hpre] at e1
    have e2 := congrArg (List.drop (frM s first ax)) e1
    have hl : ((sp s).take (frM s first ax)).length = frM s first ax := by
      rw [List.length_take, Nat.min_eq_left (Nat.le_trans hle (toM_le s last bx))]
    have e3 : ∀ X : List (Int × Int), List.drop (frM s first ax) ((sp s).take (frM s first ax) ++ X) = X := fun X => by
      rw [List.drop_append_of_le_length (by omega), List.drop_of_length_le (by omega), List.nil_append]
    rw [e3] at e2
    rw [← e2, List.drop_take]
  have hI : (sp s).filter (inM first last ax bx) = ((sp s).filter (fun p => !first || decide (ax ≤ p.2 + wd p.1 - 1))).filter (fun p => !last || decide (p.2 ≤ bx)) := by
    rw [List.filter_filter]
    congr 1
    funext p
    unfold inM
    exact Bool.and_comm _ _
  rw [hI, hB, hD, List.map_take, List.map_drop]
theorem bytes_bs (l : List Int) : runesBytes l = bs (E l) := by
  apply ByteArray.ext
  apply Array.ext'
  rw [bytes_E]
  rfl
end Cpy
end Go.Proofs.YtlodmffiengnaaaDoor
