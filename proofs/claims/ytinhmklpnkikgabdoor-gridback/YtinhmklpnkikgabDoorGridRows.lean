/- Plain mathematics on the rows of a grid: parts of a row set, rows one behind the other, mending, what is a right row. -/
import Derived.Test.YtinhmklpnkikgabDoorGridMend
import Derived.Test.YtinhmklpnkikgabDoorGridMath
namespace Go.Proofs.YtinhmklpnkikgabDoor
namespace Grd
open Txt (wd)
open Sty (isSt)
theorem wd32 : wd 32 = 1 := by decide +kernel
theorem wd_nonneg (r : Int) : 0 ≤ wd r := (Txt.wd_range r).1
/-- A row with the cells at which p holds set to f. -/
def putRow (row : List C) (p : Nat → Bool) (f : Nat → C) : List C := (List.range row.length).map fun x => if p x then f x else row.getD x z0
theorem putRow_len (row : List C) (p : Nat → Bool) (f : Nat → C) : (putRow row p f).length = row.length := by simp [putRow]
theorem putRow_at (row : List C) (p : Nat → Bool) (f : Nat → C) (x : Nat) (hx : x < row.length) : (putRow row p f).getD x z0 = if p x then f x else row.getD x z0 := by
  simp [putRow, List.getD, hx]
theorem ext_getD (a b : List C) (hl : a.length = b.length) (h : ∀ x, x < a.length → a.getD x z0 = b.getD x z0) : a = b := by
  refine List.ext_getElem hl fun i h1 h2 => ?_
  have := h i h1
  simp only [List.getD, List.getElem?_eq_getElem h1, List.getElem?_eq_getElem h2, Option.getD_some] at this
  exact this
theorem getD_set (cs : List C) (x : Nat) (c : C) (j : Nat) (hx : x < cs.length) : (cs.set x c).getD j z0 = if j = x then c else cs.getD j z0 := by
  simp only [List.getD, List.getElem?_set]
  by_cases h : j = x
  · subst h; simp [hx]
  · simp [h, Ne.symm h]
theorem putRow_none (row : List C) (p : Nat → Bool) (f : Nat → C) (h : ∀ x, x < row.length → p x = false) : putRow row p f = row :=
  ext_getD _ _ (putRow_len _ _ _) fun x hx => by
    rw [putRow_len] at hx
    rw [putRow_at _ _ _ _ hx, h x hx]; rfl
theorem putRow_congr (row : List C) (p q : Nat → Bool) (f g : Nat → C) (h : ∀ x, x < row.length → p x = q x ∧ (p x = true → f x = g x)) : putRow row p f = putRow row q g :=
  ext_getD _ _ (by rw [putRow_len, putRow_len]) fun x hx => by
    rw [putRow_len] at hx
    rw [putRow_at _ _ _ _ hx, putRow_at _ _ _ _ hx, ← (h x hx).1]
    by_cases hp : p x = true
    · rw [if_pos hp, if_pos hp, (h x hx).2 hp]
    · rw [if_neg hp, if_neg hp]
/-- One more cell set. -/
theorem putRow_set (row : List C) (p q : Nat → Bool) (f : Nat → C) (k : Nat) (hk : k < row.length) (hq : ∀ x, x < row.length → q x = (p x || decide (x = k))) : (putRow row p f).set k (f k) = putRow row q f :=
  ext_getD _ _ (by simp [putRow_len]) fun x hx => by
    rw [List.length_set, putRow_len] at hx
    rw [getD_set _ _ _ _ (by rw [putRow_len]; exact hk), putRow_at _ _ _ _ hx, putRow_at _ _ _ _ hx, hq x hx]
    by_cases h : x = k
    · subst h; simp
    · simp [h]
/-- The rows below k, each as f makes it, one behind the other. -/
def preF (n : Nat) (cs : List C) (f : Nat → List C → List C) : Nat → List C
  | 0 => []
  | k + 1 => preF n cs f k ++ f k (rowAt n cs k)
def KeepLen (n : Nat) (f : Nat → List C → List C) : Prop := ∀ y row, row.length = n → (f y row).length = n
theorem preF_len (n hh : Nat) (cs : List C) (f : Nat → List C → List C) (hL : cs.length = n * hh) (hf : KeepLen n f) : ∀ k, k ≤ hh → (preF n cs f k).length = k * n
  | 0, _ => by simp [preF]
  | k + 1, h => by
    show (preF n cs f k ++ f k (rowAt n cs k)).length = _
    rw [List.length_append, preF_len n hh cs f hL hf k (by omega), hf _ _ (row_len n hh cs k hL (by omega)), Nat.add_mul, Nat.one_mul]
theorem drop_row (n : Nat) (cs : List C) (k : Nat) : cs.drop (k * n) = rowAt n cs k ++ cs.drop ((k + 1) * n) := by
  unfold rowAt
  rw [Nat.add_mul, Nat.one_mul, ← List.drop_drop, List.take_append_drop]
theorem take_row (n : Nat) (cs : List C) (k : Nat) : cs.take ((k + 1) * n) = cs.take (k * n) ++ rowAt n cs k := by
  unfold rowAt
  rw [Nat.add_mul, Nat.one_mul, List.take_add]
theorem preF_id (n : Nat) (cs : List C) (f : Nat → List C → List C) : ∀ k, (∀ y, y < k → f y (rowAt n cs y) = rowAt n cs y) → preF n cs f k = cs.take (k * n)
  | 0, _ => by simp [preF]
  | k + 1, h => by
    show preF n cs f k ++ f k (rowAt n cs k) = _
    rw [preF_id n cs f k (fun y hy => h y (by omega)), h k (by omega), take_row]
theorem preF_congr (n : Nat) (cs : List C) (f g : Nat → List C → List C) : ∀ k, (∀ y, y < k → f y (rowAt n cs y) = g y (rowAt n cs y)) → preF n cs f k = preF n cs g k
  | 0, _ => rfl
  | k + 1, h => by
    show preF n cs f k ++ f k (rowAt n cs k) = preF n cs g k ++ g k (rowAt n cs k)
    rw [preF_congr n cs f g k (fun y hy => h y (by omega)), h k (by omega)]
theorem preF_rest (n hh : Nat) (cs : List C) (f : Nat → List C → List C) (hL : cs.length = n * hh) (k : Nat) : ∀ m, k + m = hh → (∀ y, k ≤ y → y < hh → f y (rowAt n cs y) = rowAt n cs y) → preF n cs f hh = preF n cs f k ++ cs.drop (k * n) := by
  have key : ∀ m, k + m ≤ hh → (∀ y, k ≤ y → y < hh → f y (rowAt n cs y) = rowAt n cs y) → preF n cs f (k + m) ++ cs.drop ((k + m) * n) = preF n cs f k ++ cs.drop (k * n) := by
    intro m
    induction m with
    | zero => intro _ _; rfl
    | succ m ih =>
      intro h hid
      rw [← ih (by omega) hid, drop_row n cs (k + m)]
      show (preF n cs f (k + m) ++ f (k + m) (rowAt n cs (k + m))) ++ _ = _
      rw [hid (k + m) (by omega) (by omega), List.append_assoc]
      rfl
  intro m hm hid
  have := key m (by omega) hid
  rw [hm] at this
  rw [← this, List.drop_of_length_le (by rw [hL, Nat.mul_comm]; exact Nat.le_refl _), List.append_nil]
theorem rowAt_preF (n hh : Nat) (cs : List C) (f : Nat → List C → List C) (hL : cs.length = n * hh) (hf : KeepLen n f) (y : Nat) : ∀ k, y < k → k ≤ hh → rowAt n (preF n cs f k) y = f y (rowAt n cs y)
  | 0, h, _ => by omega
  | k + 1, h, hk => by
    have hlen := preF_len n hh cs f hL hf k (by omega)
    by_cases he : y = k
    · subst he
      unfold rowAt
      show ((preF n cs f y ++ f y (rowAt n cs y)).drop (y * n)).take n = _
      rw [List.drop_left' hlen, List.take_of_length_le (by rw [hf _ _ (row_len n hh cs y hL (by omega))]; exact Nat.le_refl _)]
      rfl
    · have ih := rowAt_preF n hh cs f hL hf y k (by omega) (by omega)
      unfold rowAt at ih ⊢
      show ((preF n cs f k ++ f k (rowAt n cs k)).drop (y * n)).take n = _
      have : (y + 1) * n ≤ k * n := Nat.mul_le_mul_right _ (by omega)
      rw [Nat.add_mul, Nat.one_mul] at this
      rw [List.drop_append_of_le_length (by omega), List.take_append_of_le_length (by rw [List.length_drop]; omega), ih]
/-- Mending, each cell by what stood there: the order makes no difference. -/
def mendM (cs : List C) : List C := (List.range cs.length).map fun x => if loose cs x then (32, (cs.getD x z0).2) else cs.getD x z0
theorem mendM_len (cs : List C) : (mendM cs).length = cs.length := by simp [mendM]
theorem mendM_at (cs : List C) (x : Nat) (hx : x < cs.length) : (mendM cs).getD x z0 = if loose cs x then (32, (cs.getD x z0).2) else cs.getD x z0 := by
  simp [mendM, List.getD, hx]
theorem mendTo_at (cs : List C) : ∀ k, k ≤ cs.length → ∀ x, x < cs.length → (mendTo cs k).getD x z0 = if x < k ∧ loose cs x = true then (32, (cs.getD x z0).2) else cs.getD x z0
  | 0, _, x, hx => by simp [mendTo]
  | k + 1, hk, x, hx => by
    have ih := mendTo_at cs k (by omega)
    have hl := mendTo_len cs k
    have ek : (mendTo cs k).getD k z0 = cs.getD k z0 := by rw [ih k (by omega), if_neg (by simp)]
    have hlo : loose (mendTo cs k) k = loose cs k := by
      unfold loose
      rw [ek, hl]
      by_cases hr : (cs.getD k z0).1 = 0
      · rw [if_pos hr, if_pos hr]
        by_cases h0 : k = 0
        · simp [h0]
        · have e : (wd ((mendTo cs k).getD (k - 1) z0).1 ≠ 2) = (wd (cs.getD (k - 1) z0).1 ≠ 2) := by
            rw [ih (k - 1) (by omega)]
            by_cases hq : loose cs (k - 1) = true
            · rw [if_pos ⟨by omega, hq⟩]
              have : wd (cs.getD (k - 1) z0).1 ≠ 2 := by
                intro h2
                unfold loose at hq
                have hn : ¬ (cs.getD (k - 1) z0).1 = 0 := by intro h; rw [h, wd0] at h2; omega
                rw [if_neg hn] at hq
                simp only [Bool.and_eq_true, Bool.or_eq_true, decide_eq_true_eq] at hq
                rcases hq.2 with h | h
                · omega
                · rw [show k - 1 + 1 = k by omega] at h; exact h hr
              simp [this, wd32, -List.getD_eq_getElem?_getD]
            · rw [if_neg (fun h => hq h.2)]
          simp only [e]
      · rw [if_neg hr, if_neg hr]
        by_cases hl2 : k + 1 = cs.length
        · simp [hl2]
        · rw [ih (k + 1) (by omega), if_neg (by omega)]
    show (mendStep (mendTo cs k) k).getD x z0 = _
    unfold mendStep
    rw [hlo]
    by_cases hlk : loose cs k = true
    · rw [if_pos hlk]
      unfold setR
      rw [getD_set _ _ _ _ (by rw [hl]; omega), ek]
      by_cases hxk : x = k
      · subst hxk; simp [hlk]
      · rw [if_neg hxk, ih x hx]
        by_cases hc : x < k ∧ loose cs x = true
        · rw [if_pos hc, if_pos ⟨by omega, hc.2⟩]
        · rw [if_neg hc, if_neg (fun h => hc ⟨by omega, h.2⟩)]
    · rw [if_neg hlk, ih x hx]
      by_cases hc : x < k ∧ loose cs x = true
      · rw [if_pos hc, if_pos ⟨by omega, hc.2⟩]
      · rw [if_neg hc, if_neg (fun h => hc ⟨by
          have := h.1
          rcases Nat.lt_or_ge x k with h' | h'
          · exact h'
          · exfalso
            obtain rfl : x = k := by omega
            exact hlk h.2, h.2⟩)]
theorem mendL_eq (cs : List C) : mendL cs = mendM cs :=
  ext_getD _ _ (by rw [mendM_len]; exact mendTo_len _ _) fun x hx => by
    unfold mendL at hx ⊢
    rw [mendTo_len] at hx
    rw [mendTo_at cs _ (Nat.le_refl _) x hx, mendM_at cs x hx]
    by_cases h : loose cs x = true
    · rw [if_pos ⟨hx, h⟩, if_pos h]
    · rw [if_neg (fun q => h q.2), if_neg h]
theorem mendL_len (cs : List C) : (mendL cs).length = cs.length := mendTo_len _ _
theorem mendL_fix (cs : List C) (h : ∀ x, x < cs.length → loose cs x = false) : mendL cs = cs := by
  rw [mendL_eq]
  refine ext_getD _ _ (mendM_len _) fun x hx => ?_
  rw [mendM_len] at hx
  rw [mendM_at cs x hx, h x hx]; rfl
/-- What a row must be so that mending makes a right one of it. -/
def Meant (row : List C) : Prop := ∀ x, x < row.length → ((row.getD x z0).1 ≠ 0 → wd (row.getD x z0).1 ≠ 0) ∧ isSt (row.getD x z0).2 = true ∧
  ((row.getD x z0).1 = 0 → 0 < x → wd (row.getD (x - 1) z0).1 = 2 → (row.getD x z0).2 = (row.getD (x - 1) z0).2)
theorem Meant.alike {row : List C} (h : Meant row) : Alike row := fun x hx h2 h0 => ((h (x + 1) hx).2.2 h0 (by omega) h2).symm
def RightRow (row : List C) : Prop := Meant row ∧ ∀ x, x < row.length → loose row x = false
theorem mend_right (row : List C) (h : Meant row) : RightRow (mendL row) := by
  rw [mendL_eq]
  have hst : ∀ x, x < row.length → ((mendM row).getD x z0).2 = (row.getD x z0).2 := fun x hx => by
    rw [mendM_at row x hx]; split <;> rfl
  have hz : ∀ x, x < row.length → ((mendM row).getD x z0).1 = 0 → (row.getD x z0).1 = 0 ∧ loose row x = false := fun x hx h0 => by
    rw [mendM_at row x hx] at h0
    by_cases hl : loose row x = true
    · rw [if_pos hl] at h0; exact absurd (show (32 : Int) = 0 from h0) (by decide)
    · rw [if_neg hl] at h0; exact ⟨h0, by simpa using hl⟩
  have hw : ∀ x, x < row.length → wd ((mendM row).getD x z0).1 = 2 → wd (row.getD x z0).1 = 2 ∧ loose row x = false := fun x hx h0 => by
    rw [mendM_at row x hx] at h0
    by_cases hl : loose row x = true
    · rw [if_pos hl] at h0; dsimp only at h0; rw [wd32] at h0; exact absurd h0 (by decide)
    · rw [if_neg hl] at h0; exact ⟨h0, by simpa using hl⟩
  refine ⟨fun x hx => ?_, fun x hx => ?_⟩
  · rw [mendM_len] at hx
    refine ⟨fun _ => ?_, ?_, fun h0 hp h2 => ?_⟩
    · rw [mendM_at row x hx] at *
      by_cases hl : loose row x = true
      · rw [if_pos hl]; dsimp only; rw [wd32]; decide
      · rename_i hne
        rw [if_neg hl] at hne ⊢
        exact (h x hx).1 hne
    · rw [hst x hx]; exact (h x hx).2.1
    · rw [hst x hx, hst (x - 1) (by omega)]
      exact (h x hx).2.2 (hz x hx h0).1 hp (hw (x - 1) (by omega) h2).1
  · rw [mendM_len] at hx
    unfold loose
    by_cases hr : ((mendM row).getD x z0).1 = 0
    · rw [if_pos hr]
      obtain ⟨h0, hl⟩ := hz x hx hr
      unfold loose at hl
      rw [if_pos h0] at hl
      simp only [Bool.or_eq_false_iff, decide_eq_false_iff_not, Decidable.not_not] at hl
      have hnl : loose row (x - 1) = false := by
        unfold loose
        have hn : ¬ (row.getD (x - 1) z0).1 = 0 := by intro h; rw [h, wd0] at hl; exact absurd hl.2 (by decide)
        rw [if_neg hn, show x - 1 + 1 = x by omega, h0]
        simp
        intro _; omega
      rw [mendM_at row (x - 1) (by omega), hnl]
      simp [hl.1, hl.2, -List.getD_eq_getElem?_getD]
    · rw [if_neg hr]
      by_cases h2 : wd ((mendM row).getD x z0).1 = 2
      · obtain ⟨hw2, hl⟩ := hw x hx h2
        have hn : ¬ (row.getD x z0).1 = 0 := by intro h; rw [h, wd0] at hw2; exact absurd hw2 (by decide)
        unfold loose at hl
        rw [if_neg hn] at hl
        simp only [hw2, decide_true, Bool.true_and, Bool.or_eq_false_iff, decide_eq_false_iff_not, Decidable.not_not] at hl
        have hnl : loose row (x + 1) = false := by
          unfold loose
          rw [if_pos hl.2]
          simp [hw2, -List.getD_eq_getElem?_getD]
        rw [mendM_len, mendM_at row (x + 1) (by omega), hnl]
        simp [hl.1, hl.2, -List.getD_eq_getElem?_getD]
      · simp [h2, -List.getD_eq_getElem?_getD]
theorem firstErr_zero (f : Nat → Int) : ∀ m k, firstErr f k m = 0 ↔ ∀ i, i < m → f (k + i) = 0
  | 0, k => by simp [firstErr]
  | m + 1, k => by
    show (if f k = 0 then firstErr f (k + 1) m else f k) = 0 ↔ _
    by_cases h : f k = 0
    · rw [if_pos h, firstErr_zero f m (k + 1)]
      constructor
      · intro hh i hi
        rcases i with _ | i
        · exact h
        · have := hh i (by omega); rwa [show k + 1 + i = k + (i + 1) by omega] at this
      · intro hh i hi
        have := hh (i + 1) (by omega); rwa [show k + (i + 1) = k + 1 + i by omega] at this
    · rw [if_neg h]
      exact ⟨fun e => absurd e h, fun hh => absurd (hh 0 (by omega)) h⟩
theorem cellErr_zero (row : List C) (x : Nat) : cellErr row x = 0 ↔ ((row.getD x z0).1 ≠ 0 → wd (row.getD x z0).1 ≠ 0) ∧ isSt (row.getD x z0).2 = true ∧ loose row x = false ∧ ((row.getD x z0).1 = 0 → (row.getD x z0).2 = (row.getD (x - 1) z0).2) := by
  unfold cellErr
  by_cases h1 : ((row.getD x z0).1 ≠ 0 ∧ wd (row.getD x z0).1 = 0) ∨ isSt (row.getD x z0).2 = false
  · rw [if_pos h1]
    constructor
    · intro h; exact absurd h (by decide)
    · intro h
      rcases h1 with h1 | h1
      · exact absurd h1.2 (h.1 h1.1)
      · rw [h.2.1] at h1; exact absurd h1 (by decide)
  · rw [if_neg h1]
    by_cases h2 : loose row x = true ∨ ((row.getD x z0).1 = 0 ∧ (row.getD x z0).2 ≠ (row.getD (x - 1) z0).2)
    · rw [if_pos h2]
      constructor
      · intro h; exact absurd h (by decide)
      · intro h
        rcases h2 with h2 | h2
        · rw [h.2.2.1] at h2; exact absurd h2 (by decide)
        · exact absurd (h.2.2.2 h2.1) h2.2
    · rw [if_neg h2]
      refine ⟨fun _ => ⟨fun h0 hw => h1 (.inl ⟨h0, hw⟩), ?_, ?_, fun h0 => ?_⟩, fun _ => rfl⟩
      · cases hs : isSt (row.getD x z0).2 with
        | true => rfl
        | false => exact absurd (.inr hs) h1
      · cases hs : loose row x with
        | false => rfl
        | true => exact absurd (.inl hs) h2
      · exact Decidable.byContradiction fun hne => h2 (.inr ⟨h0, hne⟩)
theorem rowErr_zero (row : List C) : rowErr row = 0 ↔ RightRow row := by
  unfold rowErr
  rw [firstErr_zero]
  constructor
  · intro h
    refine ⟨fun x hx => ?_, fun x hx => ?_⟩
    · have := h x hx
      rw [Nat.zero_add, cellErr_zero] at this
      exact ⟨this.1, this.2.1, fun h0 _ _ => this.2.2.2 h0⟩
    · have := h x hx
      rw [Nat.zero_add, cellErr_zero] at this
      exact this.2.2.1
  · rintro ⟨hm, hl⟩ x hx
    rw [Nat.zero_add, cellErr_zero]
    refine ⟨(hm x hx).1, (hm x hx).2.1, hl x hx, fun h0 => ?_⟩
    have := hl x hx
    unfold loose at this
    rw [if_pos h0] at this
    simp only [Bool.or_eq_false_iff, decide_eq_false_iff_not, Decidable.not_not] at this
    exact (hm x hx).2.2 h0 (by omega) this.2
theorem gridErr_zero (n hh : Nat) (cs : List C) : gridErr n hh cs = 0 ↔ isSize n hh = true ∧ cs.length = n * hh ∧ ∀ y, y < hh → RightRow (rowAt n cs y) := by
  unfold gridErr
  by_cases h : isSize (n : Int) hh = false ∨ (cs.length : Int) ≠ (n : Int) * hh
  · rw [if_pos h]
    constructor
    · intro e; exact absurd e (by decide)
    · rintro ⟨h1, h2, _⟩
      rcases h with h | h
      · rw [h1] at h; exact absurd h (by decide)
      · exact absurd (by exact_mod_cast h2) h
  · rw [if_neg h, firstErr_zero, Int.toNat_natCast, Int.toNat_natCast]
    have h' := not_or.1 h
    refine ⟨fun q => ⟨by simpa using h'.1, by exact_mod_cast Decidable.not_not.1 h'.2, fun y hy => ?_⟩, fun q y hy => ?_⟩
    · have := q y hy
      rw [Nat.zero_add] at this
      exact (rowErr_zero _).1 this
    · rw [Nat.zero_add]
      exact (rowErr_zero _).2 (q.2.2 y hy)
theorem meant_put (row : List C) (p : Nat → Bool) (f : Nat → C) (h : Meant row) (h1 : ∀ x, x < row.length → p x = true → ((f x).1 ≠ 0 → wd (f x).1 ≠ 0) ∧ isSt (f x).2 = true)
    (h2 : ∀ x, x + 1 < row.length → p x = true → p (x + 1) = true → (f (x + 1)).1 = 0 → wd (f x).1 = 2 → (f (x + 1)).2 = (f x).2)
    (h3 : ∀ x, x + 1 < row.length → p x = false → p (x + 1) = true → (f (x + 1)).1 ≠ 0) (h4 : ∀ x, x + 1 < row.length → p x = true → p (x + 1) = false → wd (f x).1 ≠ 2) : Meant (putRow row p f) := by
  intro x hx
  rw [putRow_len] at hx
  rw [putRow_at _ _ _ _ hx]
  refine ⟨?_, ?_, ?_⟩
  · cases hp : p x with
    | true => exact (h1 x hx hp).1
    | false => exact (h x hx).1
  · cases hp : p x with
    | true => exact (h1 x hx hp).2
    | false => exact (h x hx).2.1
  · intro h0 hpos hw
    obtain ⟨u, rfl⟩ : ∃ u, x = u + 1 := ⟨x - 1, by omega⟩
    rw [Nat.add_sub_cancel] at hw ⊢
    rw [putRow_at _ _ _ u (by omega)] at hw ⊢
    cases hp : p (u + 1) with
    | true =>
      rw [hp] at h0
      cases hq : p u with
      | true =>
        rw [hq] at hw
        exact h2 u hx hq hp h0 hw
      | false => exact absurd h0 (h3 u hx hq hp)
    | false =>
      rw [hp] at h0
      cases hq : p u with
      | true =>
        rw [hq] at hw
        exact absurd hw (h4 u hx hq hp)
      | false =>
        rw [hq] at hw
        exact (h (u + 1) hx).2.2 h0 hpos hw
theorem meant_fill (row : List C) (p : Nat → Bool) (c : C) (h : Meant row) (hc : wd c.1 = 1) (hs : isSt c.2 = true) : Meant (putRow row p fun _ => c) := by
  have hn : c.1 ≠ 0 := by intro h; rw [h, wd0] at hc; exact absurd hc (by decide)
  have hw : wd c.1 ≠ 2 := by rw [hc]; decide
  exact meant_put row p _ h (fun x _ _ => ⟨fun _ => by rw [hc]; decide, hs⟩) (fun x _ _ _ h0 _ => absurd h0 hn) (fun x _ _ _ => hn) (fun x _ _ _ => hw)
/-- The cells of 'fr' upon a row, from s on (s may be below 0). -/
def layP (m : Nat) (s : Int) (x : Nat) : Bool := decide (s ≤ x ∧ (x : Int) < s + m)
def layF (fr : List C) (s : Int) (x : Nat) : C := fr.getD ((x : Int) - s).toNat z0
theorem meant_lay (row fr : List C) (s : Int) (h : Meant row) (hf : RightRow fr) : Meant (putRow row (layP fr.length s) (layF fr s)) := by
  obtain ⟨hm, hl⟩ := hf
  refine meant_put row _ _ h (fun x hx hp => ?_) (fun x hx hp hq h0 hw => ?_) (fun x hx hp hq h0 => ?_) (fun x hx hp hq hw => ?_)
  · unfold layP at hp; unfold layF
    simp only [decide_eq_true_eq] at hp
    have := hm (((x : Int) - s).toNat) (by omega)
    exact ⟨this.1, this.2.1⟩
  · unfold layP at hp hq; unfold layF at h0 hw ⊢
    simp only [decide_eq_true_eq] at hp hq
    have e : (((x + 1 : Nat) : Int) - s).toNat - 1 = ((x : Int) - s).toNat := by omega
    have := (hm ((((x + 1 : Nat) : Int) - s).toNat) (by omega)).2.2 h0 (by omega)
    rw [e] at this
    exact this hw
  · unfold layP at hp hq; unfold layF at h0
    simp only [decide_eq_true_eq, decide_eq_false_iff_not] at hp hq
    have e : (((x + 1 : Nat) : Int) - s).toNat = 0 := by omega
    rw [e] at h0
    have := hl 0 (by omega)
    unfold loose at this
    rw [if_pos h0] at this
    simp at this
  · unfold layP at hp hq; unfold layF at hw
    simp only [decide_eq_true_eq, decide_eq_false_iff_not] at hp hq
    have e : ((x : Int) - s).toNat + 1 = fr.length := by omega
    have := hl (((x : Int) - s).toNat) (by omega)
    unfold loose at this
    have hn : ¬ (fr.getD ((x : Int) - s).toNat z0).1 = 0 := by intro h; rw [h, wd0] at hw; exact absurd hw (by decide)
    rw [if_neg hn, e] at this
    simp [hw, -List.getD_eq_getElem?_getD] at this
/-- One rune written at x, where it has room. -/
def writeOne (look : Int × Int × Int) (row : List C) (x : Nat) (r : Int) : List C :=
  if wd r = 0 then row else if wd r = 2 then (row.set x (r, look)).set (x + 1) (0, look) else row.set x (r, look)
def writeR (look : Int × Int × Int) : List (Int × Nat) → List C → Nat → List C
  | [], row, _ => row
  | r :: rs, row, x => if (row.length : Int) - x < wd r.1 then row else writeR look rs (writeOne look row x r.1) (x + (wd r.1).toNat)
theorem writeOne_len (look : Int × Int × Int) (row : List C) (x : Nat) (r : Int) : (writeOne look row x r).length = row.length := by
  unfold writeOne; repeat' split
  all_goals simp
theorem writeR_len (look : Int × Int × Int) : ∀ (rs : List (Int × Nat)) (row : List C) (x : Nat), (writeR look rs row x).length = row.length
  | [], _, _ => rfl
  | r :: rs, row, x => by
    unfold writeR
    split
    · rfl
    · rw [writeR_len, writeOne_len]
theorem meant_one (look : Int × Int × Int) (row : List C) (x : Nat) (r : Int) (h : Meant row) (hs : isSt look = true) (hr : wd r ≤ (row.length : Int) - x) : Meant (writeOne look row x r) := by
  unfold writeOne
  by_cases h0 : wd r = 0
  · rw [if_pos h0]; exact h
  · rw [if_neg h0]
    have hn : r ≠ 0 := by intro h; rw [h, wd0] at h0; exact h0 rfl
    have hpos := wd_nonneg r
    by_cases h2 : wd r = 2
    · rw [if_pos h2]
      have e : (row.set x (r, look)).set (x + 1) (0, look) = putRow row (fun j => decide (j = x ∨ j = x + 1)) (fun j => if j = x then (r, look) else (0, look)) := by
        refine ext_getD _ _ (by simp [putRow_len]) fun j hj => ?_
        rw [List.length_set, List.length_set] at hj
        rw [getD_set _ _ _ _ (by rw [List.length_set]; omega), getD_set _ _ _ _ (by omega), putRow_at _ _ _ _ hj]
        by_cases h1 : j = x + 1
        · subst h1; simp
        · by_cases h3 : j = x
          · subst h3; simp
          · simp [h1, h3]
      rw [e]
      refine meant_put row _ _ h (fun j hj hp => ?_) (fun j hj hp hq hz hw => ?_) (fun j hj hp hq => ?_) (fun j hj hp hq => ?_)
      · by_cases h3 : j = x
        · rw [if_pos h3]; exact ⟨fun _ => h0, hs⟩
        · rw [if_neg h3]; exact ⟨fun h => absurd rfl h, hs⟩
      · simp only [decide_eq_true_eq] at hp hq
        by_cases h3 : j = x
        · rw [if_pos h3, if_neg (by omega)]
        · rw [if_neg h3] at hw; dsimp only at hw; rw [wd0] at hw; exact absurd hw (by decide)
      · simp only [decide_eq_true_eq, decide_eq_false_iff_not] at hp hq
        rw [if_pos (by omega)]; exact hn
      · simp only [decide_eq_true_eq, decide_eq_false_iff_not] at hp hq
        rw [if_neg (by omega), wd0]; decide
    · rw [if_neg h2]
      have e : row.set x (r, look) = putRow row (fun j => decide (j = x)) (fun _ => (r, look)) := by
        refine ext_getD _ _ (by simp [putRow_len]) fun j hj => ?_
        rw [List.length_set] at hj
        rw [getD_set _ _ _ _ (by omega), putRow_at _ _ _ _ hj]
        by_cases h3 : j = x
        · subst h3; simp
        · simp [h3]
      rw [e]
      have h1 : wd r ≠ 2 := h2
      exact meant_put row _ _ h (fun j hj hp => ⟨fun _ => h0, hs⟩) (fun j hj hp hq hz hw => absurd hz hn) (fun j hj hp hq => hn) (fun j hj hp hq => h1)
theorem meant_write (look : Int × Int × Int) (hs : isSt look = true) : ∀ (rs : List (Int × Nat)) (row : List C) (x : Nat), Meant row → Meant (writeR look rs row x)
  | [], _, _, h => h
  | r :: rs, row, x, h => by
    unfold writeR
    split
    · exact h
    · exact meant_write look hs rs _ _ (meant_one look row x r.1 h hs (by omega))
theorem replicate_right (n : Nat) : RightRow (List.replicate n (32, 0, 0, 0)) := by
  have hg : ∀ x, x < n → (List.replicate n ((32, 0, 0, 0) : C)).getD x z0 = (32, 0, 0, 0) := fun x hx => by simp [List.getD, hx]
  refine ⟨fun x hx => ?_, fun x hx => ?_⟩
  · rw [List.length_replicate] at hx
    rw [hg x hx]
    exact ⟨fun _ => by dsimp only; rw [wd32]; decide, by decide, fun h => absurd h (by decide)⟩
  · rw [List.length_replicate] at hx
    unfold loose
    rw [hg x hx, if_neg (by decide)]
    dsimp only
    rw [wd32]
    rfl
theorem rowAt_replicate (n hh y : Nat) (c : C) (hy : y < hh) : rowAt n (List.replicate (n * hh) c) y = List.replicate n c := by
  have h : (y + 1) * n ≤ hh * n := Nat.mul_le_mul_right _ hy
  rw [Nat.add_mul, Nat.one_mul, Nat.mul_comm hh n] at h
  unfold rowAt
  rw [List.drop_replicate, List.take_replicate]
  congr 1
  omega
end Grd
end Go.Proofs.YtinhmklpnkikgabDoor
