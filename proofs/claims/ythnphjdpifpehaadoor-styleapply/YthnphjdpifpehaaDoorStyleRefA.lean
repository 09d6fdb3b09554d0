/- What one number makes of a style, by cases; maps made by literals. -/
import Derived.Test.YthnphjdpifpehaaDoorStyleNums
import Derived.Maps.Own
import Derived.Maps.OwnOps
import Derived.Maps.Views
namespace Go.Proofs.YthnphjdpifpehaaDoor
open Go.ChangeShapes Go.WideShapes Go.ChangeAt Go.RowKit Go.Maps
namespace Sty
theorem ofInt_wrap (v : BitVec 64) : BitVec.ofInt 64 (IntKind.i64.wrap (v.toNat : Int)) = v := by
  apply BitVec.eq_of_toNat_eq
  rw [BitVec.toNat_ofInt]
  have := v.isLt
  unfold IntKind.wrap
  simp [IntKind.bits, IntKind.signed]
  omega
theorem clear3 (x : Int) : bits .andNot .i64 (bits .andNot .i64 x 1) 2 = bits .andNot .i64 x 3 := by
  unfold bits
  dsimp only
  change IntKind.i64.wrap ↑(BitVec.ofInt 64 (IntKind.i64.wrap ↑(BitVec.ofInt 64 x &&& ~~~BitVec.ofInt 64 1).toNat) &&& ~~~BitVec.ofInt 64 2).toNat = IntKind.i64.wrap ↑(BitVec.ofInt 64 x &&& ~~~BitVec.ofInt 64 3).toNat
  rw [ofInt_wrap, BitVec.and_assoc]
  rfl
def setM : List (Int × Int) := [(1, 1), (2, 2), (3, 4), (4, 8), (5, 16), (7, 32), (9, 64)]
def offM : List (Int × Int) := [(22, 3), (23, 4), (24, 8), (25, 16), (27, 32), (29, 64)]
def lits (l : List (Int × Int)) : DataW Unit := l.foldl (fun D p => D.put (.int .i64 p.1) (.lit (.int .i64 p.2))) (.map [])
def look (l : List (Int × Int)) (n : Int) : Int := l.foldl (fun c p => if n = p.1 then p.2 else c) 0
theorem lits_at : ∀ (l : List (Int × Int)) (D : DataW Unit) (c n : Int), IsMap D → D.atKey (.int .i64 n) (.lit (.int .i64 0)) = .lit (.int .i64 c) →
    (l.foldl (fun D p => D.put (.int .i64 p.1) (.lit (.int .i64 p.2))) D).atKey (.int .i64 n) (.lit (.int .i64 0)) = .lit (.int .i64 (l.foldl (fun c p => if n = p.1 then p.2 else c) c))
  | [], D, c, n, _, h => h
  | p :: l, D, c, n, hD, h => by
    refine lits_at l _ _ n (hD.put _ _) ?_
    dsimp only
    by_cases hn : n = p.1
    · rw [if_pos hn, hn]
      exact atKey_put_same hD (by trivial) _ _
    · rw [if_neg hn, atKey_put_other (by simp [hn]), h]
theorem lits_look (l : List (Int × Int)) (n : Int) : (lits l).atKey (.int .i64 n) (.lit (.int .i64 0)) = .lit (.int .i64 (look l n)) :=
  lits_at l (.map []) 0 n isMap_empty rfl
def MapAt (w : World) (b : Nat) (l : List (Int × Int)) : Prop := ∃ n, w.ownsMap Tryd.prog 3 (plainElem (H := Unit) Tryd.prog 3) b n (lits l)
theorem und_int : Tryd.prog.underlying 3 = some (.int .i64) := by kernel_rfl
theorem und_map : Tryd.prog.underlying 39 = some (.map 3 3) := by kernel_rfl
theorem zero_int (w : World) : (zeroValue 3).run Tryd.prog w = .ok (.int .i64 0) w := by kernel_rfl
theorem MapAt.lookup {w : World} {b : Nat} {l : List (Int × Int)} (h : MapAt w b l) (n : Int) (h0 : -9223372036854775808 ≤ n) (h1 : n ≤ 9223372036854775807) :
    (Instr.lookup 39 (.map (some b)) (.int .i64 n) false).run Tryd.prog w = .ok (.int .i64 (look l n)) w := by
  obtain ⟨k, h⟩ := h
  obtain ⟨c, hrun, hat, _⟩ := h.lookup_int (t := 39) (int_keyed und_int) und_map und_int (zero_int w) (keyOf_int_mk und_int (WalkArith.wf_i64 ⟨h0, h1⟩))
  rw [lits_look] at hat
  have hc : look l n = c := by simpa using hat
  rw [hc]
  exact hrun
theorem MapAt.kept {w w' : World} {b : Nat} {l : List (Int × Int)} {row : Option Nat} (h : MapAt w b l) (hg : w.grownBy w' row) (hne : some b ≠ row) : MapAt w' b l := by
  obtain ⟨k, h⟩ := h
  exact ⟨k, h.kept hg hne⟩
theorem MapAt.block {w w' : World} {b : Nat} {l : List (Int × Int)} (h : MapAt w b l) (hb : w'.heap[b]? = w.heap[b]?) : MapAt w' b l := by
  obtain ⟨k, es, clock, hh, F⟩ := h
  exact ⟨k, es, clock, hb.trans hh, F⟩
theorem small_lt {n : Nat} (h : n < 100) : n < maxLen := by unfold maxLen; omega
theorem put_run {W : World} {b n : Nat} {l : List (Int × Int)} (h : W.ownsMap Tryd.prog 3 (plainElem (H := Unit) Tryd.prog 3) b n (lits l)) (hn : n < 100) (k v : Int)
    (hk : -9223372036854775808 ≤ k ∧ k ≤ 9223372036854775807) (hv : -9223372036854775808 ≤ v ∧ v ≤ 9223372036854775807) :
    ∃ W', Sem.run Tryd.prog (Instr.mapUpdate 39 (.map (some b)) (.int .i64 k) (.int .i64 v)) W = .ok () W' ∧ W'.ownsMap Tryd.prog 3 (plainElem (H := Unit) Tryd.prog 3) b (n + 1) (lits (l ++ [(k, v)])) ∧ W.grownBy W' (some b) := by
  obtain ⟨w', hrun, r1, r2⟩ := h.update (t := 39) (int_keyed und_int) und_map (small_lt hn) (keyOf_int_mk und_int (WalkArith.wf_i64 hk)) (plainElem_int und_int (WalkArith.wf_i64 hv))
  refine ⟨w', hrun, ?_, r2⟩
  unfold lits at r1 ⊢
  rw [List.foldl_append]
  exact r1
/-! What one number makes of a style, case by case. -/
theorem one_le (s : Int × Int × Int) (n : Int) (h : n ≤ 0) : one s n = (0, 0, 0) := by unfold one; rw [if_pos h]
theorem sc_none (n : Int) (h1 : ¬ (30 ≤ n ∧ n ≤ 37)) (h2 : n ≠ 39) (h3 : ¬ (90 ≤ n ∧ n ≤ 97)) : sc n = (0, false) := by unfold sc; rw [if_neg h1, if_neg h2, if_neg h3]
theorem bits_same (n x : Int) (h : ∀ k ∈ looks, n ≠ k.1 ∧ n ≠ k.2.1) : looks.foldl (step n) x = x := by
  have : ∀ (l : List (Int × Int × Int)), (∀ k ∈ l, n ≠ k.1 ∧ n ≠ k.2.1) → l.foldl (step n) x = x := by
    intro l
    induction l with
    | nil => intro _; rfl
    | cons k l ih =>
      intro hl
      have hk := hl k (by simp)
      rw [List.foldl_cons, show step n x k = x by unfold step; rw [if_neg hk.2, if_neg hk.1]]
      exact ih (fun k hk => hl k (by simp [hk]))
  exact this looks h
theorem one_other (f b x n : Int) (h0 : 0 < n) (hb : ∀ k ∈ looks, n ≠ k.1 ∧ n ≠ k.2.1) : one (f, b, x) n = (if (sc n).2 then (sc n).1 else f, if (sc (n - 10)).2 then (sc (n - 10)).1 else b, x) := by
  unfold one
  rw [if_neg (by omega)]
  dsimp only
  rw [bits_same n x hb]
theorem look_set_keys (n : Int) (h : 0 < look setM n) : n = 1 ∨ n = 2 ∨ n = 3 ∨ n = 4 ∨ n = 5 ∨ n = 7 ∨ n = 9 := by
  by_cases h1 : n = 1 ∨ n = 2 ∨ n = 3 ∨ n = 4 ∨ n = 5 ∨ n = 7 ∨ n = 9
  · exact h1
  · unfold look setM at h
    simp only [List.foldl] at h
    repeat' (rw [if_neg (by omega)] at h)
    omega
theorem look_off_keys (n : Int) (h : 0 < look offM n) : n = 22 ∨ n = 23 ∨ n = 24 ∨ n = 25 ∨ n = 27 ∨ n = 29 := by
  by_cases h1 : n = 22 ∨ n = 23 ∨ n = 24 ∨ n = 25 ∨ n = 27 ∨ n = 29
  · exact h1
  · unfold look offM at h
    simp only [List.foldl] at h
    repeat' (rw [if_neg (by omega)] at h)
    omega
theorem look_set_zero (n : Int) (h : n ≠ 1 ∧ n ≠ 2 ∧ n ≠ 3 ∧ n ≠ 4 ∧ n ≠ 5 ∧ n ≠ 7 ∧ n ≠ 9) : look setM n = 0 := by
  unfold look setM
  simp only [List.foldl]
  repeat' (rw [if_neg (by omega)])
theorem look_off_zero (n : Int) (h : n ≠ 22 ∧ n ≠ 23 ∧ n ≠ 24 ∧ n ≠ 25 ∧ n ≠ 27 ∧ n ≠ 29) : look offM n = 0 := by
  unfold look offM
  simp only [List.foldl]
  repeat' (rw [if_neg (by omega)])
theorem one_set (f b x n : Int) (h : 0 < look setM n) : one (f, b, x) n = (f, b, bits .or .i64 x (look setM n)) := by
  rcases look_set_keys n h with rfl | rfl | rfl | rfl | rfl | rfl | rfl <;> rfl
theorem one_off (f b x n : Int) (h : 0 < look offM n) : one (f, b, x) n = (f, b, bits .andNot .i64 x (look offM n)) := by
  rcases look_off_keys n h with rfl | rfl | rfl | rfl | rfl | rfl
  · exact congrArg (fun z => (f, b, z)) (clear3 x)
  all_goals rfl
theorem looks_far (n : Int) (h : 30 ≤ n ∨ n = 6 ∨ n = 8 ∨ (10 ≤ n ∧ n ≤ 21) ∨ n = 26 ∨ n = 28) : ∀ k ∈ looks, n ≠ k.1 ∧ n ≠ k.2.1 := by
  intro k hk
  simp only [looks, List.mem_cons, List.not_mem_nil, or_false] at hk
  rcases hk with rfl | rfl | rfl | rfl | rfl | rfl | rfl <;> dsimp only <;> omega
theorem sc_3x (n : Int) (h0 : 30 ≤ n) (h1 : n ≤ 37) : sc n = (n - 29, true) := by unfold sc; rw [if_pos ⟨h0, h1⟩]
theorem sc_9x (n : Int) (h0 : 90 ≤ n) (h1 : n ≤ 97) : sc n = (n - 81, true) := by unfold sc; rw [if_neg (by omega), if_neg (by omega), if_pos ⟨h0, h1⟩]
theorem one_3x (f b x n : Int) (h0 : 30 ≤ n) (h1 : n ≤ 37) : one (f, b, x) n = (n % 10 + 1, b, x) := by
  rw [one_other f b x n (by omega) (looks_far n (by omega)), sc_none (n - 10) (by omega) (by omega) (by omega), sc_3x n h0 h1, show n % 10 + 1 = n - 29 by omega]
  simp
theorem one_4x (f b x n : Int) (h0 : 40 ≤ n) (h1 : n ≤ 47) : one (f, b, x) n = (f, n % 10 + 1, x) := by
  rw [one_other f b x n (by omega) (looks_far n (by omega)), sc_none n (by omega) (by omega) (by omega), sc_3x (n - 10) (by omega) (by omega), show n % 10 + 1 = n - 10 - 29 by omega]
  simp
theorem one_9x (f b x n : Int) (h0 : 90 ≤ n) (h1 : n ≤ 97) : one (f, b, x) n = (n % 10 + 9, b, x) := by
  rw [one_other f b x n (by omega) (looks_far n (by omega)), sc_none (n - 10) (by omega) (by omega) (by omega), sc_9x n h0 h1, show n % 10 + 9 = n - 81 by omega]
  simp
theorem one_10x (f b x n : Int) (h0 : 100 ≤ n) (h1 : n ≤ 107) : one (f, b, x) n = (f, n % 10 + 9, x) := by
  rw [one_other f b x n (by omega) (looks_far n (by omega)), sc_none n (by omega) (by omega) (by omega), sc_9x (n - 10) (by omega) (by omega), show n % 10 + 9 = n - 10 - 81 by omega]
  simp
theorem one_39 (f b x : Int) : one (f, b, x) 39 = (0, b, x) := by
  rw [one_other f b x 39 (by omega) (looks_far 39 (by omega))]
  rfl
theorem one_49 (f b x : Int) : one (f, b, x) 49 = (f, 0, x) := by
  rw [one_other f b x 49 (by omega) (looks_far 49 (by omega))]
  rfl
theorem one_else (f b x n : Int) (h0 : 0 < n) (hs : look setM n = 0) (ho : look offM n = 0) (h1 : ¬ (30 ≤ n ∧ n ≤ 37)) (h2 : ¬ (40 ≤ n ∧ n ≤ 47)) (h3 : ¬ (90 ≤ n ∧ n ≤ 97)) (h4 : ¬ (100 ≤ n ∧ n ≤ 107)) (h5 : n ≠ 39) (h6 : n ≠ 49) : one (f, b, x) n = (f, b, x) := by
  have k1 : n ≠ 1 ∧ n ≠ 2 ∧ n ≠ 3 ∧ n ≠ 4 ∧ n ≠ 5 ∧ n ≠ 7 ∧ n ≠ 9 := by
    refine ⟨?_, ?_, ?_, ?_, ?_, ?_, ?_⟩ <;> (rintro rfl; revert hs; decide)
  have k2 : n ≠ 22 ∧ n ≠ 23 ∧ n ≠ 24 ∧ n ≠ 25 ∧ n ≠ 27 ∧ n ≠ 29 := by
    refine ⟨?_, ?_, ?_, ?_, ?_, ?_⟩ <;> (rintro rfl; revert ho; decide)
  rw [one_other f b x n h0 (looks_far n (by omega)), sc_none n (by omega) (by omega) (by omega), sc_none (n - 10) (by omega) (by omega) (by omega)]
  simp
theorem quo10 (n : Int) (h0 : 0 ≤ n) (h1 : n ≤ 9223372036854775807) : wrap64 (n.tdiv 10) = n / 10 := by
  rw [Int.tdiv_eq_ediv_of_nonneg h0, show wrap64 (n / 10) = n / 10 by unfold wrap64; omega]
theorem look_set_nonneg (n : Int) : 0 ≤ look setM n := by
  unfold look setM
  simp only [List.foldl]
  repeat' split
  all_goals omega
theorem look_off_nonneg (n : Int) : 0 ≤ look offM n := by
  unfold look offM
  simp only [List.foldl]
  repeat' split
  all_goals omega
end Sty
end Go.Proofs.YthnphjdpifpehaaDoor
