/- The reference's Check of a state: what it says, state by state. -/
import Derived.Test.YtmgmdijhiplalaaDoorParseZero
import Derived.Test.YtmgmdijhiplalaaDoorParseFullB
import Derived.Test.YtmgmdijhiplalaaDoorParseBackT
import Derived.Shelf.Strings.SlTrimAscii
import Derived.Laws.IdiomStrings
import Derived.LoopN
namespace Go.Proofs.YtmgmdijhiplalaaDoor
open Go.ChangeShapes Go.WideShapes Go.ChangeAt Go.RowKit
namespace Prs
/-- One byte in a block of its own, turned into a text. -/
theorem byte_convC (z : Int) (h0 : 0 ≤ z) (h1 : z ≤ 255) (W : World) : (convert 52 9 (.slice (some ⟨W.heap.size, 0, none⟩) 1 1)).run Tryd.prog (W.alloc (.cells #[.int .u8 z] 5)) = .ok (.string (one z.toNat.toUInt8)) (W.alloc (.cells #[.int .u8 z] 5)) := by
  have e : (z.toNat.toUInt8.toNat : Int) = z := by rw [byteN _ (by omega), Int.toNat_of_nonneg h0]
  have h := run_convert_bytes_back (P := Tryd.prog) (W.alloc (.cells #[.int .u8 (z.toNat.toUInt8.toNat : Int)] 5)) 52 9 5 ⟨W.heap.size, 0, none⟩ 1 [z.toNat.toUInt8] und_bytes und_byte und_string (fun j hj => by
      match j, hj with
      | 0, _ => exact (cell1 (heap_alloc_new W _)).1)
  rw [e] at h
  exact h
theorem drop_consC (xs : List Int) (k : Nat) (h : k < xs.length) : xs.drop k = xs.getD k 0 :: xs.drop (k + 1) := by
  rw [List.drop_eq_getElem_cons h, List.getD_eq_getElem?_getD, List.getElem?_eq_getElem h]
  rfl
theorem drop_all (p : UInt8 → Bool) : ∀ l : List UInt8, l.dropWhile p = [] ↔ l.all p = true
  | [] => by simp
  | x :: l => by
    cases hx : p x with
    | true => simp [List.dropWhile, hx, drop_all p l]
    | false => simp [List.dropWhile, hx]
theorem drop_stuck (p : UInt8 → Bool) : ∀ l : List UInt8, (l.dropWhile p).all p = true → l.dropWhile p = []
  | [] => by simp
  | x :: l => by
    cases hx : p x with
    | true => simpa [List.dropWhile, hx] using drop_stuck p l
    | false => simp [List.dropWhile, hx]
theorem trim_all (l cs : List UInt8) : Lib.trimS l cs = [] ↔ l.all (cs.contains ·) = true := by
  unfold Lib.trimS Lib.trimLeftS Lib.trimRightS
  rw [drop_all, List.all_reverse]
  constructor
  · intro h
    have h1 := drop_stuck _ _ h
    rw [drop_all, List.all_reverse] at h1
    exact h1
  · intro h
    rw [← List.all_reverse, ← drop_all] at h
    rw [h]
    rfl
def midSet : List UInt8 := [32, 33, 34, 35, 36, 37, 38, 39, 40, 41, 42, 43, 44, 45, 46, 47]
theorem byte_all (p : UInt8 → Prop) (h : ∀ n : Fin 256, p n.val.toUInt8) (x : UInt8) : p x := by
  have h1 := h ⟨x.toNat, x.toNat_lt⟩
  have h2 : x.toNat.toUInt8 = x := by simp
  rw [h2] at h1
  exact h1
theorem mid_set (x : UInt8) : midSet.contains x = isMid x := byte_all (fun x => midSet.contains x = isMid x) (by decide +kernel) x
theorem trim_mid (b : ByteArray) : Lib.trimS b.data.toList midSet = [] ↔ allB isMid b = true := by
  rw [trim_all, show (fun x => midSet.contains x) = isMid from funext mid_set]
  rfl
theorem mark_in (m : Int) (h0 : 0 ≤ m) (h1 : m ≤ 255) : decide (0 ≤ Lib.indexByte [0, 60, 61, 62, 63] m.toNat.toUInt8) = (decide (m = 0) || isMark m) := by
  have h := byte_all (fun x => decide (0 ≤ Lib.indexByte [0, 60, 61, 62, 63] x) = (decide ((x.toNat : Int) = 0) || isMark (x.toNat : Int))) (by decide +kernel) m.toNat.toUInt8
  rw [byteN _ (by omega), Int.toNat_of_nonneg h0] at h
  exact h
theorem low_full (b : ByteArray) (h0 : b.size ≠ 0) (h : (b.get! 0).toNat < 128) : full b = true := by
  unfold full fullN
  rw [if_neg h0]
  have h1 : ∀ n : Fin 128, Lib.firstT n.val % 8 = 0 := by decide +kernel
  rw [h1 ⟨_, h⟩, if_pos (by omega)]
def midOk (s : St) : Bool := decide (s.mid.size ≤ 2) && allB isMid s.mid
def chk (s : St) : Bool :=
  if s.at' = 0 then (decide (s.left.size = 0) || (decide (128 ≤ (s.left.get! 0).toNat) && !full s.left)) && (decide (s.mark = 0) && (decide (s.mid.size = 0) && (decide (s.ps.length = 0) && (decide (s.txt.size = 0) && !s.late))))
  else if s.at' = 1 ∨ s.at' = 5 then decide (s.mark = 0) && (decide (s.mid.size = 0) && (decide (s.ps.length = 0) && (decide (s.txt.size = 0) && (!s.late && decide (s.left.size = 0)))))
  else if s.at' = 2 then midOk s && (!decide (s.mid.size = 0) && (decide (s.mark = 0) && (decide (s.ps.length = 0) && (decide (s.txt.size = 0) && (!s.late && decide (s.left.size = 0))))))
  else if s.at' = 3 then !anyNo s.ps && (midOk s && (decide (s.ps.length ≤ 16) && ((decide (s.mark = 0) || isMark s.mark) && (decide (s.txt.size = 0) && (!s.late && decide (s.left.size = 0))))))
  else if s.at' = 4 then allB high s.txt && (decide (s.txt.size ≤ 64) && (decide (s.mark = 0) && (decide (s.mid.size = 0) && (decide (s.ps.length = 0) && decide (s.left.size = 0)))))
  else false
theorem allB_nil (p : UInt8 → Bool) (b : ByteArray) (h : b.size = 0) : allB p b = true := by
  have : b = ⟨#[]⟩ := by apply ByteArray.ext; exact Array.eq_empty_of_size_eq_zero h
  rw [this]
  rfl
theorem chk_ok (s : St) : chk s = okS s := by
  rw [Bool.eq_iff_iff, okS_iff]
  constructor
  · intro h
    unfold chk at h
    by_cases h0 : s.at' = 0
    · simp only [h0, if_true, Bool.and_eq_true, Bool.or_eq_true, decide_eq_true_eq, Bool.not_eq_true'] at h
      obtain ⟨h1, h2, h3, h4, h5, h6⟩ := h
      have h4' : s.ps = [] := List.eq_nil_of_length_eq_zero h4
      exact ⟨by omega, by omega, .inl h0, .inr (.inr h3), .inr h2, .inr h4', .inr h5, .inr h6, fun h => by omega, h1.imp id (·.2), .inl h2, by omega, allB_nil _ _ h3, by omega, by rw [h4']; simp, by omega, allB_nil _ _ h5⟩
    · by_cases h1 : s.at' = 1 ∨ s.at' = 5
      · simp only [h0, h1, if_true, if_false, Bool.and_eq_true, decide_eq_true_eq, Bool.not_eq_true'] at h
        obtain ⟨h2, h3, h4, h5, h6, h7⟩ := h
        have h4' : s.ps = [] := List.eq_nil_of_length_eq_zero h4
        exact ⟨by omega, by omega, .inr h7, .inr (.inr h3), .inr h2, .inr h4', .inr h5, .inr h6, fun h => by omega, .inl h7, .inl h2, by omega, allB_nil _ _ h3, by omega, by rw [h4']; simp, by omega, allB_nil _ _ h5⟩
      · by_cases h2 : s.at' = 2
        · simp only [h2, if_true, if_false, midOk, Bool.and_eq_true, decide_eq_true_eq, Bool.not_eq_true', decide_eq_false_iff_not, show ¬ ((2 : Int) = 0) by omega, show ¬ ((2 : Int) = 1 ∨ (2 : Int) = 5) by omega] at h
          obtain ⟨⟨m1, m2⟩, h3, h4, h5, h6, h7, h8⟩ := h
          have h5' : s.ps = [] := List.eq_nil_of_length_eq_zero h5
          exact ⟨by omega, by omega, .inr h8, .inl h2, .inr h4, .inr h5', .inr h6, .inr h7, fun _ => h3, .inl h8, .inl h4, m1, m2, by omega, by rw [h5']; simp, by omega, allB_nil _ _ h6⟩
        · by_cases h3 : s.at' = 3
          · simp only [h3, if_true, if_false, midOk, Bool.and_eq_true, Bool.or_eq_true, decide_eq_true_eq, Bool.not_eq_true', show ¬ ((3 : Int) = 0) by omega, show ¬ ((3 : Int) = 1 ∨ (3 : Int) = 5) by omega, show ¬ ((3 : Int) = 2) by omega] at h
            obtain ⟨h4, ⟨m1, m2⟩, h5, h6, h7, h8, h9⟩ := h
            exact ⟨by omega, by omega, .inr h9, .inr (.inl h3), .inl h3, .inl h3, .inr h7, .inr h8, fun h => by omega, .inl h9, h6, m1, m2, h5, (any_noParam _).1 h4, by omega, allB_nil _ _ h7⟩
          · by_cases h4 : s.at' = 4
            · simp only [h4, if_true, if_false, Bool.and_eq_true, decide_eq_true_eq, show ¬ ((4 : Int) = 0) by omega, show ¬ ((4 : Int) = 1 ∨ (4 : Int) = 5) by omega, show ¬ ((4 : Int) = 2) by omega, show ¬ ((4 : Int) = 3) by omega] at h
              obtain ⟨h5, h6, h7, h8, h9, h10⟩ := h
              have h9' : s.ps = [] := List.eq_nil_of_length_eq_zero h9
              exact ⟨by omega, by omega, .inr h10, .inr (.inr h8), .inr h7, .inr h9', .inl h4, .inl h4, fun h => by omega, .inl h10, .inl h7, by omega, allB_nil _ _ h8, by omega, by rw [h9']; simp, h6, h5⟩
            · simp [h0, h1, h2, h3, h4] at h
  · intro h
    unfold chk
    have a0 := h.a0
    have a5 := h.a5
    by_cases h0 : s.at' = 0
    · rw [if_pos h0]
      simp only [Bool.and_eq_true, Bool.or_eq_true, decide_eq_true_eq, Bool.not_eq_true']
      refine ⟨?_, h.mz.resolve_left (by omega), (h.md.resolve_left (by omega)).resolve_left (by omega), by rw [h.pz.resolve_left (by omega)]; rfl, h.tx.resolve_left (by omega), h.lt.resolve_left (by omega)⟩
      rcases h.fl with hl | hl
      · exact .inl hl
      · by_cases hz : s.left.size = 0
        · exact .inl hz
        · refine .inr ⟨?_, hl⟩
          by_cases hx : (s.left.get! 0).toNat < 128
          · rw [low_full s.left hz hx] at hl
            cases hl
          · omega
    · rw [if_neg h0]
      have hl := h.lf.resolve_left h0
      by_cases h1 : s.at' = 1 ∨ s.at' = 5
      · rw [if_pos h1]
        simp only [Bool.and_eq_true, decide_eq_true_eq, Bool.not_eq_true']
        exact ⟨h.mz.resolve_left (by omega), (h.md.resolve_left (by omega)).resolve_left (by omega), by rw [h.pz.resolve_left (by omega)]; rfl, h.tx.resolve_left (by omega), h.lt.resolve_left (by omega), hl⟩
      · rw [if_neg h1]
        by_cases h2 : s.at' = 2
        · rw [if_pos h2]
          simp only [midOk, Bool.and_eq_true, decide_eq_true_eq, Bool.not_eq_true', decide_eq_false_iff_not]
          exact ⟨⟨h.ms, h.ma⟩, h.m2 h2, h.mz.resolve_left (by omega), by rw [h.pz.resolve_left (by omega)]; rfl, h.tx.resolve_left (by omega), h.lt.resolve_left (by omega), hl⟩
        · rw [if_neg h2]
          by_cases h3 : s.at' = 3
          · rw [if_pos h3]
            simp only [midOk, Bool.and_eq_true, Bool.or_eq_true, decide_eq_true_eq, Bool.not_eq_true']
            exact ⟨(any_noParam _).2 h.pa, ⟨h.ms, h.ma⟩, h.pl, h.mm, h.tx.resolve_left (by omega), h.lt.resolve_left (by omega), hl⟩
          · rw [if_neg h3, if_pos (by omega)]
            simp only [Bool.and_eq_true, decide_eq_true_eq]
            exact ⟨h.ta, h.tl, h.mz.resolve_left (by omega), (h.md.resolve_left (by omega)).resolve_left (by omega), by rw [h.pz.resolve_left (by omega)]; rfl, hl⟩
end Prs
end Go.Proofs.YtmgmdijhiplalaaDoor
