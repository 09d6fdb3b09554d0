/- The numbers of a style make it of none; those from one to another make the other of the one. -/
import Derived.Test.YtfjbngipidimmaaDoorStyleTurn
namespace Go.Proofs.YtfjbngipidimmaaDoor
namespace Sty
theorem fold_same (n : Int) : ∀ (l : List (Int × Int × Int)) (y : Int), (∀ k ∈ l, n ≠ k.1 ∧ n ≠ k.2.1) → l.foldl (step n) y = y
  | [], _, _ => rfl
  | k :: l, y, h => by
    have hk := h k (by simp)
    have hs : step n y k = y := by unfold step; rw [if_neg hk.2, if_neg hk.1]
    rw [List.foldl_cons, hs]
    exact fold_same n l y (fun k hk => h k (by simp [hk]))
theorem looks_far (n : Int) (h : 30 ≤ n) (y : Int) : looks.foldl (step n) y = y := by
  refine fold_same n looks y (fun k hk => ?_)
  simp only [looks, List.mem_cons, List.not_mem_nil, or_false] at hk
  rcases hk with rfl | rfl | rfl | rfl | rfl | rfl | rfl <;> exact ⟨by dsimp only; omega, by dsimp only; omega⟩
theorem isLg_not (a : Int) (l : List Int) (h1 : a ≠ 38) (h2 : a ≠ 48) : isLg (a :: l) = false := by
  match l with
  | [] | [_] => rfl
  | b :: _ :: _ => simp [isLg, h1, h2]
theorem applyL_far (f b y n f' b' : Int) (r : List Int) (h : 30 ≤ n) (h1 : n ≠ 38) (h2 : n ≠ 48) (hf : (if (sc n).2 then (sc n).1 else f) = f') (hb : (if (sc (n - 10)).2 then (sc (n - 10)).1 else b) = b') :
    applyL (f, b, y) (n :: r) = applyL (f', b', y) r := by
  rw [applyL_one _ _ _ (isLg_not n r h1 h2)]
  unfold one
  rw [if_neg (by omega)]
  dsimp only
  rw [hf, hb, looks_far n h]
theorem applyL_38 (s : Int × Int × Int) (a n : Int) (r : List Int) (h : a = 38 ∨ a = 48) : applyL s (a :: 5 :: n :: r) = applyL (lng s a n) r := by
  rw [applyL, if_pos ⟨h, rfl⟩]
theorem sc_a (n c : Int) (h : n = 29 + c) (h0 : 1 ≤ c) (h1 : c ≤ 8) : sc n = (c, true) := by
  unfold sc; rw [if_pos (by omega)]; congr 1; omega
theorem sc_c (n c : Int) (h : n = 81 + c) (h0 : 9 ≤ c) (h1 : c ≤ 16) : sc n = (c, true) := by
  unfold sc; rw [if_neg (by omega), if_neg (by omega), if_pos (by omega)]; congr 1; omega
theorem sc_no (n : Int) (h0 : ¬ (30 ≤ n ∧ n ≤ 37)) (h1 : n ≠ 39) (h2 : ¬ (90 ≤ n ∧ n ≤ 97)) : sc n = (0, false) := by
  unfold sc; rw [if_neg h0, if_neg h1, if_neg h2]
theorem pick_yes {n c f : Int} (h : sc n = (c, true)) : (if (sc n).2 then (sc n).1 else f) = c := by rw [h]; rfl
theorem pick_no {n f : Int} (h : sc n = (0, false)) : (if (sc n).2 then (sc n).1 else f) = f := by rw [h]; rfl
theorem col_fore (f b y c : Int) (r : List Int) (h0 : 0 ≤ c) (h1 : c ≤ 256) : applyL (f, b, y) (colL c 0 ++ r) = applyL (c, b, y) r := by
  unfold colL
  by_cases e0 : c = 0
  · rw [if_pos e0, e0]
    exact applyL_far f b y 39 0 b r (by omega) (by omega) (by omega) (pick_yes rfl) (pick_no rfl)
  · rw [if_neg e0]
    by_cases e1 : c ≤ 8
    · rw [if_pos e1]
      exact applyL_far f b y (29 + c + 0) c b r (by omega) (by omega) (by omega) (pick_yes (sc_a _ _ (by omega) (by omega) (by omega))) (pick_no (sc_no _ (by omega) (by omega) (by omega)))
    · rw [if_neg e1]
      by_cases e2 : c ≤ 16
      · rw [if_pos e2]
        exact applyL_far f b y (81 + c + 0) c b r (by omega) (by omega) (by omega) (pick_yes (sc_c _ _ (by omega) (by omega) (by omega))) (pick_no (sc_no _ (by omega) (by omega) (by omega)))
      · rw [if_neg e2]
        have h := applyL_38 (f, b, y) (38 + 0) (c - 1) r (Or.inl (by omega))
        refine h.trans ?_
        unfold lng
        rw [if_neg (by omega), if_pos (by omega)]
        congr 2
        omega
theorem col_back (f b y c : Int) (r : List Int) (h0 : 0 ≤ c) (h1 : c ≤ 256) : applyL (f, b, y) (colL c 10 ++ r) = applyL (f, c, y) r := by
  unfold colL
  by_cases e0 : c = 0
  · rw [if_pos e0, e0]
    exact applyL_far f b y 49 f 0 r (by omega) (by omega) (by omega) (pick_no rfl) (pick_yes rfl)
  · rw [if_neg e0]
    by_cases e1 : c ≤ 8
    · rw [if_pos e1]
      exact applyL_far f b y (29 + c + 10) f c r (by omega) (by omega) (by omega) (pick_no (sc_no _ (by omega) (by omega) (by omega))) (pick_yes (sc_a _ _ (by omega) (by omega) (by omega)))
    · rw [if_neg e1]
      by_cases e2 : c ≤ 16
      · rw [if_pos e2]
        exact applyL_far f b y (81 + c + 10) f c r (by omega) (by omega) (by omega) (pick_no (sc_no _ (by omega) (by omega) (by omega))) (pick_yes (sc_c _ _ (by omega) (by omega) (by omega)))
      · rw [if_neg e2]
        have h := applyL_38 (f, b, y) (38 + 10) (c - 1) r (Or.inr (by omega))
        refine h.trans ?_
        unfold lng
        rw [if_neg (by omega), if_neg (by omega)]
        congr 3
        omega
theorem one_bit : ∀ y : Fin 128, ∀ k ∈ looks, looks.foldl (step k.1) (y.1 : Int) = bits .or .i64 (y.1 : Int) k.2.2 ∧ (sc k.1).2 = false ∧ (sc (k.1 - 10)).2 = false ∧ 0 < k.1 ∧ k.1 ≠ 38 ∧ k.1 ≠ 48 := by decide +kernel
theorem bits_fold (fx tx : Int) : ∀ (l : List (Int × Int × Int)) (f b y : Int) (r : List Int), (∀ k ∈ l, k ∈ looks) → 0 ≤ y → y ≤ 127 →
    applyL (f, b, y) (bitsL fx tx l ++ r) = applyL (f, b, l.foldl (fun y k => if more fx tx k then bits .or .i64 y k.2.2 else y) y) r
  | [], f, b, y, r, _, _, _ => rfl
  | k :: l, f, b, y, r, hl, h0, h1 => by
    have hk := hl k (by simp)
    have h := one_bit ⟨y.toNat, by omega⟩ k hk
    simp only [show ((y.toNat : Nat) : Int) = y by omega] at h
    obtain ⟨ha, hb, hc, hd, he, hf⟩ := h
    cases hm : more fx tx k with
    | false =>
      have e : bitsL fx tx (k :: l) = bitsL fx tx l := by simp [bitsL, hm]
      rw [e, List.foldl_cons, hm]
      exact bits_fold fx tx l f b y r (fun k hk => hl k (by simp [hk])) h0 h1
    | true =>
      have e : bitsL fx tx (k :: l) = k.1 :: bitsL fx tx l := by simp [bitsL, hm]
      rw [e, List.foldl_cons, hm, List.cons_append, applyL_one _ _ _ (isLg_not _ _ he hf)]
      have ho : one (f, b, y) k.1 = (f, b, bits .or .i64 y k.2.2) := by
        unfold one
        rw [if_neg (by omega), hb, hc]
        dsimp only
        rw [ha]
        rfl
      rw [ho]
      have hin := bits_in ⟨y.toNat, by omega⟩ k hk
      simp only [show ((y.toNat : Nat) : Int) = y by omega] at hin
      exact bits_fold fx tx l f b _ r (fun k hk => hl k (by simp [hk])) hin.1.1 hin.1.2
theorem bits_to : ∀ f t : Fin 128, bits .andNot .i64 (f.1 : Int) (t.1 : Int) = 0 → looks.foldl (fun y k => if more (f.1 : Int) (t.1 : Int) k then bits .or .i64 y k.2.2 else y) (f.1 : Int) = (t.1 : Int) := by decide +kernel
theorem adds_to (ff fb fx tf tb tx : Int) (hf : isSt (ff, fb, fx) = true) (ht : isSt (tf, tb, tx) = true) (hb : bits .andNot .i64 fx tx = 0) :
    applyL (ff, fb, fx) (addsL (ff, fb, fx) (tf, tb, tx)) = (tf, tb, tx) := by
  have h1 := (isSt_iff _).1 hf
  have h2 := (isSt_iff _).1 ht
  dsimp only at h1 h2
  unfold addsL
  dsimp only
  rw [List.append_assoc, bits_fold fx tx looks ff fb fx _ (fun _ h => h) (by omega) (by omega)]
  have hx := bits_to ⟨fx.toNat, by omega⟩ ⟨tx.toNat, by omega⟩
  simp only [show ((fx.toNat : Nat) : Int) = fx by omega, show ((tx.toNat : Nat) : Int) = tx by omega] at hx
  rw [hx hb]
  have hc1 : applyL (ff, fb, tx) ((if tf = ff then [] else colL tf 0) ++ if tb = fb then [] else colL tb 10) = applyL (tf, fb, tx) (if tb = fb then [] else colL tb 10) := by
    by_cases e : tf = ff
    · rw [if_pos e, e]; rfl
    · rw [if_neg e, col_fore _ _ _ _ _ (by omega) (by omega)]
  rw [hc1]
  by_cases e : tb = fb
  · rw [if_pos e, e]; rfl
  · rw [if_neg e]
    have := col_back tf fb tx tb [] (by omega) (by omega)
    rw [List.append_nil] at this
    rw [this]
    rfl
theorem zero_ok : isSt (0, 0, 0) = true := by decide +kernel
theorem andNot_zero : ∀ t : Fin 128, bits .andNot .i64 0 (t.1 : Int) = 0 := by decide +kernel
theorem nums_to (s : Int × Int × Int) (h : isSt s = true) : applyL (0, 0, 0) (numsOf s) = s := by
  obtain ⟨f, b, x⟩ := s
  have h1 := (isSt_iff _).1 h
  dsimp only at h1
  unfold numsOf
  rw [h, if_pos rfl]
  have hz := andNot_zero ⟨x.toNat, by omega⟩
  simp only [show ((x.toNat : Nat) : Int) = x by omega] at hz
  exact adds_to 0 0 0 f b x zero_ok h hz
theorem turn_to (a b : Int × Int × Int) (ha : isSt a = true) (hb : isSt b = true) (hn : a ≠ b) : applyL a (turnOf a b) = b ∧ turnOf a b ≠ [] := by
  have h1 : ¬ (a = b ∨ isSt a = false ∨ isSt b = false) := by
    rintro (h | h | h)
    · exact hn h
    · rw [ha] at h; cases h
    · rw [hb] at h; cases h
  unfold turnOf
  rw [if_neg h1]
  by_cases hz : b = (0, 0, 0) ∨ bits .andNot .i64 a.2.2 b.2.2 ≠ 0
  · rw [if_pos hz]
    refine ⟨?_, by simp⟩
    rw [applyL_one _ _ _ (isLg_not 0 _ (by omega) (by omega))]
    have : one a 0 = (0, 0, 0) := rfl
    rw [this]
    exact nums_to b hb
  · rw [if_neg hz]
    have hz' : bits .andNot .i64 a.2.2 b.2.2 = 0 := by
      by_cases e : bits .andNot .i64 a.2.2 b.2.2 = 0
      · exact e
      · exact absurd (Or.inr e) hz
    have ht := adds_to a.1 a.2.1 a.2.2 b.1 b.2.1 b.2.2 ha hb hz'
    refine ⟨ht, fun e => hn ?_⟩
    rw [show addsL a b = [] from e] at ht
    exact ht
end Sty
end Go.Proofs.YtfjbngipidimmaaDoor
