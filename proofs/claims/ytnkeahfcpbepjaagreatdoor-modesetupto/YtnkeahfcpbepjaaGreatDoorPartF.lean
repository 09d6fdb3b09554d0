/- Plain mathematics on the rows of a grid: parts of a row set, rows one behind the other, mending, what is a right row. -/
import Derived.Test.YtnkeahfcpbepjaaGreatDoorPartE
import Derived.WalkSmall
import Derived.Maps.AppendAt
import Derived.Test.YtnkeahfcpbepjaaGreatDoorPartD
import Derived.Shelf.Strings.BuilderRune
import Derived.Lib.RuneCount
import Derived.Lib.SliceRun
import Derived.Deep.MidRow
namespace Go.Proofs.YtnkeahfcpbepjaaGreatDoor
namespace Grd
open Txt (wd)
open Sty (isSt)
theorem wd32 : wd 32 = 1 := by decide +kernel
theorem wd_nonneg (r : Int) : 0 ≤ wd r := (Txt.wd_range r).1
/-- A row with the cells at which p holds set to f. -/
def putRow (row : List C) (p : Nat → Bool) (f : Nat → C) : List C := (List.range row.length).map fun x => if p x then f x else row.getD x z0
theorem putRow_len (row : List C) (p : Nat → Bool) (f : Nat → C) : (putRow row p f).length = row.length := by simp [putRow]
theorem putRow_at (row : List C) (p : Nat → Bool) (f : Nat → C) (x : Nat) (hx : x < row.length) : (putRow row p f).getD x z0 = if p x then f x else row.getD x z0 := by
  simp [putRow, List.getD, hx]
theorem ext_getD (a b : List C) (hl : a.length = b.length) (h : ∀ x, x < a.length → a.getD x z0 = b.getD x z0) : a = b := by
  refine List.ext_getElem hl fun i h1 h2 => ?_
  have := h i h1
  simp only [List.getD, List.getElem?_eq_getElem h1, List.getElem?_eq_getElem h2, Option.getD_some] at this
  exact this
theorem getD_set (cs : List C) (x : Nat) (c : C) (j : Nat) (hx : x < cs.length) : (cs.set x c).getD j z0 = if j = x then c else cs.getD j z0 := by
  simp only [List.getD, List.getElem?_set]
  by_cases h : j = x
  · subst h; simp [hx]
  · simp [h, Ne.symm h]
theorem putRow_none (row : List C) (p : Nat → Bool) (f : Nat → C) (h : ∀ x, x < row.length → p x = false) : putRow row p f = row :=
  ext_getD _ _ (putRow_len _ _ _) fun x hx => by
    rw [putRow_len] at hx
    rw [putRow_at _ _ _ _ hx, h x hx]; rfl
theorem putRow_congr (row : List C) (p q : Nat → Bool) (f g : Nat → C) (h : ∀ x, x < row.length → p x = q x ∧ (p x = true → f x = g x)) : putRow row p f = putRow row q g :=
  ext_getD _ _ (by rw [putRow_len, putRow_len]) fun x hx => by
    rw [putRow_len] at hx
    rw [putRow_at _ _ _ _ hx, putRow_at _ _ _ _ hx, ← (h x hx).1]
    by_cases hp : p x = true
    · rw [if_pos hp, if_pos hp, (h x hx).2 hp]
    · rw [if_neg hp, if_neg hp]
/-- One more cell set. -/
theorem putRow_set (row : List C) (p q : Nat → Bool) (f : Nat → C) (k : Nat) (hk : k < row.length) (hq : ∀ x, x < row.length → q x = (p x || decide (x = k))) : (putRow row p f).set k (f k) = putRow row q f :=
  ext_getD _ _ (by simp [putRow_len]) fun x hx => by
    rw [List.length_set, putRow_len] at hx
    rw [getD_set _ _ _ _ (by rw [putRow_len]; exact hk), putRow_at _ _ _ _ hx, putRow_at _ _ _ _ hx, hq x hx]
    by_cases h : x = k
    · subst h; simp
    · simp [h]
/-- The rows below k, each as f makes it, one behind the other. -/
def preF (n : Nat) (cs : List C) (f : Nat → List C → List C) : Nat → List C
  | 0 => []
  | k + 1 => preF n cs f k ++ f k (rowAt n cs k)
def KeepLen (n : Nat) (f : Nat → List C → List C) : Prop := ∀ y row, row.length = n → (f y row).length = n
theorem preF_len (n hh : Nat) (cs : List C) (f : Nat → List C → List C) (hL : cs.length = n * hh) (hf : KeepLen n f) : ∀ k, k ≤ hh → (preF n cs f k).length = k * n
  | 0, _ => by simp [preF]
  | k + 1, h => by
    show (preF n cs f k ++ f k (rowAt n cs k)).length = _
    rw [List.length_append, preF_len n hh cs f hL hf k (by omega), hf _ _ (row_len n hh cs k hL (by omega)), Nat.add_mul, Nat.one_mul]
theorem drop_row (n : Nat) (cs : List C) (k : Nat) : cs.drop (k * n) = rowAt n cs k ++ cs.drop ((k + 1) * n) := by
  unfold rowAt
  rw [Nat.add_mul, Nat.one_mul, ← List.drop_drop, List.take_append_drop]
theorem take_row (n : Nat) (cs : List C) (k : Nat) : cs.take ((k + 1) * n) = cs.take (k * n) ++ rowAt n cs k := by
  unfold rowAt
  rw [Nat.add_mul, Nat.one_mul, List.take_add]
theorem preF_id (n : Nat) (cs : List C) (f : Nat → List C → List C) : ∀ k, (∀ y, y < k → f y (rowAt n cs y) = rowAt n cs y) → preF n cs f k = cs.take (k * n)
  | 0, _ => by simp [preF]
  | k + 1, h => by
    show preF n cs f k ++ f k (rowAt n cs k) = _
    rw [preF_id n cs f k (fun y hy => h y (by omega)), h k (by omega), take_row]
theorem preF_congr (n : Nat) (cs : List C) (f g : Nat → List C → List C) : ∀ k, (∀ y, y < k → f y (rowAt n cs y) = g y (rowAt n cs y)) → preF n cs f k = preF n cs g k
  | 0, _ => rfl
  | k + 1, h => by
    show preF n cs f k ++ f k (rowAt n cs k) = preF n cs g k ++ g k (rowAt n cs k)
    rw [preF_congr n cs f g k (fun y hy => h y (by omega)), h k (by omega)]
theorem preF_rest (n hh : Nat) (cs : List C) (f : Nat → List C → List C) (hL : cs.length = n * hh) (k : Nat) : ∀ m, k + m = hh → (∀ y, k ≤ y → y < hh → f y (rowAt n cs y) = rowAt n cs y) → preF n cs f hh = preF n cs f k ++ cs.drop (k * n) := by
  have key : ∀ m, k + m ≤ hh → (∀ y, k ≤ y → y < hh → f y (rowAt n cs y) = rowAt n cs y) → preF n cs f (k + m) ++ cs.drop ((k + m) * n) = preF n cs f k ++ cs.drop (k * n) := by
    intro m
    induction m with
    | zero => intro _ _; rfl
    | succ m ih =>
      intro h hid
      rw [← ih (by omega) hid, drop_row n cs (k + m)]
      show (preF n cs f (k + m) ++ f (k + m) (rowAt n cs (k + m))) ++ _ = _
      rw [hid (k + m) (by omega) (by omega), List.append_assoc]
      rfl
  intro m hm hid
  have := key m (by omega) hid
  rw [hm] at this
  rw [← this, List.drop_of_length_le (by rw [hL, Nat.mul_comm]; exact Nat.le_refl _), List.append_nil]
theorem rowAt_preF (n hh : Nat) (cs : List C) (f : Nat → List C → List C) (hL : cs.length = n * hh) (hf : KeepLen n f) (y : Nat) : ∀ k, y < k → k ≤ hh → rowAt n (preF n cs f k) y = f y (rowAt n cs y)
  | 0, h, _ => by omega
  | k + 1, h, hk => by
    have hlen := preF_len n hh cs f hL hf k (by omega)
    by_cases he : y = k
    · subst he
      unfold rowAt
      show ((preF n cs f y ++ f y (rowAt n cs y)).drop (y * n)).take n = _
      rw [List.drop_left' hlen, List.take_of_length_le (by rw [hf _ _ (row_len n hh cs y hL (by omega))]; exact Nat.le_refl _)]
      rfl
    · have ih := rowAt_preF n hh cs f hL hf y k (by omega) (by omega)
      unfold rowAt at ih ⊢
      show ((preF n cs f k ++ f k (rowAt n cs k)).drop (y * n)).take n = _
      have : (y + 1) * n ≤ k * n := Nat.mul_le_mul_right _ (by omega)
      rw [Nat.add_mul, Nat.one_mul] at this
      rw [List.drop_append_of_le_length (by omega), List.take_append_of_le_length (by rw [List.length_drop]; omega), ih]
/-- Mending, each cell by what stood there: the order makes no difference. -/
def mendM (cs : List C) : List C := (List.range cs.length).map fun x => if loose cs x then (32, (cs.getD x z0).2) else cs.getD x z0
theorem mendM_len (cs : List C) : (mendM cs).length = cs.length := by simp [mendM]
theorem mendM_at (cs : List C) (x : Nat) (hx : x < cs.length) : (mendM cs).getD x z0 = if loose cs x then (32, (cs.getD x z0).2) else cs.getD x z0 := by
  simp [mendM, List.getD, hx]
theorem mendTo_at (cs : List C) : ∀ k, k ≤ cs.length → ∀ x, x < cs.length → (mendTo cs k).getD x z0 = if x < k ∧ loose cs x = true then (32, (cs.getD x z0).2) else cs.getD x z0
  | 0, _, x, hx => by simp [mendTo]
  | k + 1, hk, x, hx => by
    have ih := mendTo_at cs k (by omega)
    have hl := mendTo_len cs k
    have ek : (mendTo cs k).getD k z0 = cs.getD k z0 := by rw [ih k (by omega), if_neg (by simp)]
    have hlo : loose (mendTo cs k) k = loose cs k := by
      unfold loose
      rw [ek, hl]
      by_cases hr : (cs.getD k z0).1 = 0
      · rw [if_pos hr, if_pos hr]
        by_cases h0 : k = 0
        · simp [h0]
        · have e : (wd ((mendTo cs k).getD (k - 1) z0).1 ≠ 2) = (wd (cs.getD (k - 1) z0).1 ≠ 2) := by
            rw [ih (k - 1) (by omega)]
            by_cases hq : loose cs (k - 1) = true
            · rw [if_pos ⟨by omega, hq⟩]
              have : wd (cs.getD (k - 1) z0).1 ≠ 2 := by
                intro h2
                unfold loose at hq
                have hn : ¬ (cs.getD (k - 1) z0).1 = 0 := by intro h; rw [h, wd0] at h2; omega
                rw [if_neg hn] at hq
                simp only [Bool.and_eq_true, Bool.or_eq_true, decide_eq_true_eq] at hq
                rcases hq.2 with h | h
                · omega
                · rw [show k - 1 + 1 = k by omega] at h; exact h hr
              simp [this, wd32, -List.getD_eq_getElem?_getD]
            · rw [if_neg (fun h => hq h.2)]
          simp only [e]
      · rw [if_neg hr, if_neg hr]
        by_cases hl2 : k + 1 = cs.length
        · simp [hl2]
        · rw [ih (k + 1) (by omega), if_neg (by omega)]
    show (mendStep (mendTo cs k) k).getD x z0 = _
    unfold mendStep
    rw [hlo]
    by_cases hlk : loose cs k = true
    · rw [if_pos hlk]
      unfold setR
      rw [getD_set _ _ _ _ (by rw [hl]; omega), ek]
      by_cases hxk : x = k
      · subst hxk; simp [hlk]
      · rw [if_neg hxk, ih x hx]
        by_cases hc : x < k ∧ loose cs x = true
        · rw [if_pos hc, if_pos ⟨by omega, hc.2⟩]
        · rw [if_neg hc, if_neg (fun h => hc ⟨by omega, h.2⟩)]
    · rw [if_neg hlk, ih x hx]
      by_cases hc : x < k ∧ loose cs x = true
      · rw [if_pos hc, if_pos ⟨by omega, hc.2⟩]
      · rw [if_neg hc, if_neg (fun h => hc ⟨by
          have := h.1
          rcases Nat.lt_or_ge x k with h' | h'
          · exact h'
          · exfalso
            obtain rfl : x = k := by omega
            exact hlk h.2, h.2⟩)]
theorem mendL_eq (cs : List C) : mendL cs = mendM cs :=
  ext_getD _ _ (by rw [mendM_len]; exact mendTo_len _ _) fun x hx => by
    unfold mendL at hx ⊢
    rw [mendTo_len] at hx
    rw [mendTo_at cs _ (Nat.le_refl _) x hx, mendM_at cs x hx]
    by_cases h : loose cs x = true
    · rw [if_pos ⟨hx, h⟩, if_pos h]
    · rw [if_neg (fun q => h q.2), if_neg h]
theorem mendL_len (cs : List C) : (mendL cs).length = cs.length := mendTo_len _ _
theorem mendL_fix (cs : List C) (h : ∀ x, x < cs.length → loose cs x = false) : mendL cs = cs := by
  rw [mendL_eq]
  refine ext_getD _ _ (mendM_len _) fun x hx => ?_
  rw [mendM_len] at hx
  rw [mendM_at cs x hx, h x hx]; rfl
/-- What a row must be so that mending makes a right one of it. -/
def Meant (row : List C) : Prop := ∀ x, x < row.length → ((row.getD x z0).1 ≠ 0 → wd (row.getD x z0).1 ≠ 0) ∧ isSt (row.getD x z0).2 = true ∧
  ((row.getD x z0).1 = 0 → 0 < x → wd (row.getD (x - 1) z0).1 = 2 → (row.getD x z0).2 = (row.getD (x - 1) z0).2)
theorem Meant.alike {row : List C} (h : Meant row) : Alike row := fun x hx h2 h0 => ((h (x + 1) hx).2.2 h0 (by omega) h2).symm
def RightRow (row : List C) : Prop := Meant row ∧ ∀ x, x < row.length → loose row x = false
theorem mend_right (row : List C) (h : Meant row) : RightRow (mendL row) := by
  rw [mendL_eq]
  have hst : ∀ x, x < row.length → ((mendM row).getD x z0).2 = (row.getD x z0).2 := fun x hx => by
    rw [mendM_at row x hx]; split <;> rfl
  have hz : ∀ x, x < row.length → ((mendM row).getD x z0).1 = 0 → (row.getD x z0).1 = 0 ∧ loose row x = false := fun x hx h0 => by
    rw [mendM_at row x hx] at h0
    by_cases hl : loose row x = true
    · rw [if_pos hl] at h0; exact absurd (show (32 : Int) = 0 from h0) (by decide)
    · rw [if_neg hl] at h0; exact ⟨h0, by simpa using hl⟩
  have hw : ∀ x, x < row.length → wd ((mendM row).getD x z0).1 = 2 → wd (row.getD x z0).1 = 2 ∧ loose row x = false := fun x hx h0 => by
    rw [mendM_at row x hx] at h0
    by_cases hl : loose row x = true
    · rw [if_pos hl] at h0; dsimp only at h0; rw [wd32] at h0; exact absurd h0 (by decide)
    · rw [if_neg hl] at h0; exact ⟨h0, by simpa using hl⟩
  refine ⟨fun x hx => ?_, fun x hx => ?_⟩
  · rw [mendM_len] at hx
    refine ⟨fun _ => ?_, ?_, fun h0 hp h2 => ?_⟩
    · rw [mendM_at row x hx] at *
      by_cases hl : loose row x = true
      · rw [if_pos hl]; dsimp only; rw [wd32]; decide
      · rename_i hne
        rw [if_neg hl] at hne ⊢
        exact (h x hx).1 hne
    · rw [hst x hx]; exact (h x hx).2.1
    · rw [hst x hx, hst (x - 1) (by omega)]
      exact (h x hx).2.2 (hz x hx h0).1 hp (hw (x - 1) (by omega) h2).1
  · rw [mendM_len] at hx
    unfold loose
    by_cases hr : ((mendM row).getD x z0).1 = 0
    · rw [if_pos hr]
      obtain ⟨h0, hl⟩ := hz x hx hr
      unfold loose at hl
      rw [if_pos h0] at hl
      simp only [Bool.or_eq_false_iff, decide_eq_false_iff_not, Decidable.not_not] at hl
      have hnl : loose row (x - 1) = false := by
        unfold loose
        have hn : ¬ (row.getD (x - 1) z0).1 = 0 := by intro h; rw [h, wd0] at hl; exact absurd hl.2 (by decide)
        rw [if_neg hn, show x - 1 + 1 = x by omega, h0]
        simp
        intro _; omega
      rw [mendM_at row (x - 1) (by omega), hnl]
      simp [hl.1, hl.2, -List.getD_eq_getElem?_getD]
    · rw [if_neg hr]
      by_cases h2 : wd ((mendM row).getD x z0).1 = 2
      · obtain ⟨hw2, hl⟩ := hw x hx h2
        have hn : ¬ (row.getD x z0).1 = 0 := by intro h; rw [h, wd0] at hw2; exact absurd hw2 (by decide)
        unfold loose at hl
        rw [if_neg hn] at hl
        simp only [hw2, decide_true, Bool.true_and, Bool.or_eq_false_iff, decide_eq_false_iff_not, Decidable.not_not] at hl
        have hnl : loose row (x + 1) = false := by
          unfold loose
          rw [if_pos hl.2]
          simp [hw2, -List.getD_eq_getElem?_getD]
        rw [mendM_len, mendM_at row (x + 1) (by omega), hnl]
        simp [hl.1, hl.2, -List.getD_eq_getElem?_getD]
      · simp [h2, -List.getD_eq_getElem?_getD]
theorem firstErr_zero (f : Nat → Int) : ∀ m k, firstErr f k m = 0 ↔ ∀ i, i < m → f (k + i) = 0
  | 0, k => by simp [firstErr]
  | m + 1, k => by
    show (if f k = 0 then firstErr f (k + 1) m else f k) = 0 ↔ _
    by_cases h : f k = 0
    · rw [if_pos h, firstErr_zero f m (k + 1)]
      constructor
      · intro hh i hi
        rcases i with _ | i
        · exact h
        · have := hh i (by omega); rwa [show k + 1 + i = k + (i + 1) by omega] at this
      · intro hh i hi
        have := hh (i + 1) (by omega); rwa [show k + (i + 1) = k + 1 + i by omega] at this
    · rw [if_neg h]
      exact ⟨fun e => absurd e h, fun hh => absurd (hh 0 (by omega)) h⟩
theorem cellErr_zero (row : List C) (x : Nat) : cellErr row x = 0 ↔ ((row.getD x z0).1 ≠ 0 → wd (row.getD x z0).1 ≠ 0) ∧ isSt (row.getD x z0).2 = true ∧ loose row x = false ∧ ((row.getD x z0).1 = 0 → (row.getD x z0).2 = (row.getD (x - 1) z0).2) := by
  unfold cellErr
  by_cases h1 : ((row.getD x z0).1 ≠ 0 ∧ wd (row.getD x z0).1 = 0) ∨ isSt (row.getD x z0).2 = false
  · rw [if_pos h1]
    constructor
    · intro h; exact absurd h (by decide)
    · intro h
      rcases h1 with h1 | h1
      · exact absurd h1.2 (h.1 h1.1)
      · rw [h.2.1] at h1; exact absurd h1 (by decide)
  · rw [if_neg h1]
    by_cases h2 : loose row x = true ∨ ((row.getD x z0).1 = 0 ∧ (row.getD x z0).2 ≠ (row.getD (x - 1) z0).2)
    · rw [if_pos h2]
      constructor
      · intro h; exact absurd h (by decide)
      · intro h
        rcases h2 with h2 | h2
        · rw [h.2.2.1] at h2; exact absurd h2 (by decide)
        · exact absurd (h.2.2.2 h2.1) h2.2
    · rw [if_neg h2]
      refine ⟨fun _ => ⟨fun h0 hw => h1 (.inl ⟨h0, hw⟩), ?_, ?_, fun h0 => ?_⟩, fun _ => rfl⟩
      · cases hs : isSt (row.getD x z0).2 with
        | true => rfl
        | false => exact absurd (.inr hs) h1
      · cases hs : loose row x with
        | false => rfl
        | true => exact absurd (.inl hs) h2
      · exact Decidable.byContradiction fun hne => h2 (.inr ⟨h0, hne⟩)
theorem rowErr_zero (row : List C) : rowErr row = 0 ↔ RightRow row := by
  unfold rowErr
  rw [firstErr_zero]
  constructor
  · intro h
    refine ⟨fun x hx => ?_, fun x hx => ?_⟩
    · have := h x hx
      rw [Nat.zero_add, cellErr_zero] at this
      exact ⟨this.1, this.2.1, fun h0 _ _ => this.2.2.2 h0⟩
    · have := h x hx
      rw [Nat.zero_add, cellErr_zero] at this
      exact this.2.2.1
  · rintro ⟨hm, hl⟩ x hx
    rw [Nat.zero_add, cellErr_zero]
    refine ⟨(hm x hx).1, (hm x hx).2.1, hl x hx, fun h0 => ?_⟩
    have := hl x hx
    unfold loose at this
    rw [if_pos h0] at this
    simp only [Bool.or_eq_false_iff, decide_eq_false_iff_not, Decidable.not_not] at this
    exact (hm x hx).2.2 h0 (by omega) this.2
theorem gridErr_zero (n hh : Nat) (cs : List C) : gridErr n hh cs = 0 ↔ isSize n hh = true ∧ cs.length = n * hh ∧ ∀ y, y < hh → RightRow (rowAt n cs y) := by
  unfold gridErr
  by_cases h : isSize (n : Int) hh = false ∨ (cs.length : Int) ≠ (n : Int) * hh
  · rw [if_pos h]
    constructor
    · intro e; exact absurd e (by decide)
    · rintro ⟨h1, h2, _⟩
      rcases h with h | h
      · rw [h1] at h; exact absurd h (by decide)
      · exact absurd (by exact_mod_cast h2) h
  · rw [if_neg h, firstErr_zero, Int.toNat_natCast, Int.toNat_natCast]
    have h' := not_or.1 h
    refine ⟨fun q => ⟨by simpa using h'.1, by exact_mod_cast Decidable.not_not.1 h'.2, fun y hy => ?_⟩, fun q y hy => ?_⟩
    · have := q y hy
      rw [Nat.zero_add] at this
      exact (rowErr_zero _).1 this
    · rw [Nat.zero_add]
      exact (rowErr_zero _).2 (q.2.2 y hy)
theorem meant_put (row : List C) (p : Nat → Bool) (f : Nat → C) (h : Meant row) (h1 : ∀ x, x < row.length → p x = true → ((f x).1 ≠ 0 → wd (f x).1 ≠ 0) ∧ isSt (f x).2 = true)
    (h2 : ∀ x, x + 1 < row.length → p x = true → p (x + 1) = true → (f (x + 1)).1 = 0 → wd (f x).1 = 2 → (f (x + 1)).2 = (f x).2)
    (h3 : ∀ x, x + 1 < row.length → p x = false → p (x + 1) = true → (f (x + 1)).1 ≠ 0) (h4 : ∀ x, x + 1 < row.length → p x = true → p (x + 1) = false → wd (f x).1 ≠ 2) : Meant (putRow row p f) := by
  intro x hx
  rw [putRow_len] at hx
  rw [putRow_at _ _ _ _ hx]
  refine ⟨?_, ?_, ?_⟩
  · cases hp : p x with
    | true => exact (h1 x hx hp).1
    | false => exact (h x hx).1
  · cases hp : p x with
    | true => exact (h1 x hx hp).2
    | false => exact (h x hx).2.1
  · intro h0 hpos hw
    obtain ⟨u, rfl⟩ : ∃ u, x = u + 1 := ⟨x - 1, by omega⟩
    rw [Nat.add_sub_cancel] at hw ⊢
    rw [putRow_at _ _ _ u (by omega)] at hw ⊢
    cases hp : p (u + 1) with
    | true =>
      rw [hp] at h0
      cases hq : p u with
      | true =>
        rw [hq] at hw
        exact h2 u hx hq hp h0 hw
      | false => exact absurd h0 (h3 u hx hq hp)
    | false =>
      rw [hp] at h0
      cases hq : p u with
      | true =>
        rw [hq] at hw
        exact absurd hw (h4 u hx hq hp)
      | false =>
        rw [hq] at hw
        exact (h (u + 1) hx).2.2 h0 hpos hw
theorem meant_fill (row : List C) (p : Nat → Bool) (c : C) (h : Meant row) (hc : wd c.1 = 1) (hs : isSt c.2 = true) : Meant (putRow row p fun _ => c) := by
  have hn : c.1 ≠ 0 := by intro h; rw [h, wd0] at hc; exact absurd hc (by decide)
  have hw : wd c.1 ≠ 2 := by rw [hc]; decide
  exact meant_put row p _ h (fun x _ _ => ⟨fun _ => by rw [hc]; decide, hs⟩) (fun x _ _ _ h0 _ => absurd h0 hn) (fun x _ _ _ => hn) (fun x _ _ _ => hw)
/-- The cells of 'fr' upon a row, from s on (s may be below 0). -/
def layP (m : Nat) (s : Int) (x : Nat) : Bool := decide (s ≤ x ∧ (x : Int) < s + m)
def layF (fr : List C) (s : Int) (x : Nat) : C := fr.getD ((x : Int) - s).toNat z0
theorem meant_lay (row fr : List C) (s : Int) (h : Meant row) (hf : RightRow fr) : Meant (putRow row (layP fr.length s) (layF fr s)) := by
  obtain ⟨hm, hl⟩ := hf
  refine meant_put row _ _ h (fun x hx hp => ?_) (fun x hx hp hq h0 hw => ?_) (fun x hx hp hq h0 => ?_) (fun x hx hp hq hw => ?_)
  · unfold layP at hp; unfold layF
    simp only [decide_eq_true_eq] at hp
    have := hm (((x : Int) - s).toNat) (by omega)
    exact ⟨this.1, this.2.1⟩
  · unfold layP at hp hq; unfold layF at h0 hw ⊢
    simp only [decide_eq_true_eq] at hp hq
    have e : (((x + 1 : Nat) : Int) - s).toNat - 1 = ((x : Int) - s).toNat := by omega
    have := (hm ((((x + 1 : Nat) : Int) - s).toNat) (by omega)).2.2 h0 (by omega)
    rw [e] at this
    exact this hw
  · unfold layP at hp hq; unfold layF at h0
    simp only [decide_eq_true_eq, decide_eq_false_iff_not] at hp hq
    have e : (((x + 1 : Nat) : Int) - s).toNat = 0 := by omega
    rw [e] at h0
    have := hl 0 (by omega)
    unfold loose at this
    rw [if_pos h0] at this
    simp at this
  · unfold layP at hp hq; unfold layF at hw
    simp only [decide_eq_true_eq, decide_eq_false_iff_not] at hp hq
    have e : ((x : Int) - s).toNat + 1 = fr.length := by omega
    have := hl (((x : Int) - s).toNat) (by omega)
    unfold loose at this
    have hn : ¬ (fr.getD ((x : Int) - s).toNat z0).1 = 0 := by intro h; rw [h, wd0] at hw; exact absurd hw (by decide)
    rw [if_neg hn, e] at this
    simp [hw, -List.getD_eq_getElem?_getD] at this
/-- One rune written at x, where it has room. -/
def writeOne (look : Int × Int × Int) (row : List C) (x : Nat) (r : Int) : List C :=
  if wd r = 0 then row else if wd r = 2 then (row.set x (r, look)).set (x + 1) (0, look) else row.set x (r, look)
def writeR (look : Int × Int × Int) : List (Int × Nat) → List C → Nat → List C
  | [], row, _ => row
  | r :: rs, row, x => if (row.length : Int) - x < wd r.1 then row else writeR look rs (writeOne look row x r.1) (x + (wd r.1).toNat)
theorem writeOne_len (look : Int × Int × Int) (row : List C) (x : Nat) (r : Int) : (writeOne look row x r).length = row.length := by
  unfold writeOne; repeat' split
  all_goals simp
theorem writeR_len (look : Int × Int × Int) : ∀ (rs : List (Int × Nat)) (row : List C) (x : Nat), (writeR look rs row x).length = row.length
  | [], _, _ => rfl
  | r :: rs, row, x => by
    unfold writeR
    split
    · rfl
    · rw [writeR_len, writeOne_len]
theorem meant_one (look : Int × Int × Int) (row : List C) (x : Nat) (r : Int) (h : Meant row) (hs : isSt look = true) (hr : wd r ≤ (row.length : Int) - x) : Meant (writeOne look row x r) := by
  unfold writeOne
  by_cases h0 : wd r = 0
  · rw [if_pos h0]; exact h
  · rw [if_neg h0]
    have hn : r ≠ 0 := by intro h; rw [h, wd0] at h0; exact h0 rfl
    have hpos := wd_nonneg r
    by_cases h2 : wd r = 2
    · rw [if_pos h2]
      have e : (row.set x (r, look)).set (x + 1) (0, look) = putRow row (fun j => decide (j = x ∨ j = x + 1)) (fun j => if j = x then (r, look) else (0, look)) := by
        refine ext_getD _ _ (by simp [putRow_len]) fun j hj => ?_
        rw [List.length_set, List.length_set] at hj
        rw [getD_set _ _ _ _ (by rw [List.length_set]; omega), getD_set _ _ _ _ (by omega), putRow_at _ _ _ _ hj]
        by_cases h1 : j = x + 1
        · subst h1; simp
        · by_cases h3 : j = x
          · subst h3; simp
          · simp [h1, h3]
      rw [e]
      refine meant_put row _ _ h (fun j hj hp => ?_) (fun j hj hp hq hz hw => ?_) (fun j hj hp hq => ?_) (fun j hj hp hq => ?_)
      · by_cases h3 : j = x
        · rw [if_pos h3]; exact ⟨fun _ => h0, hs⟩
        · rw [if_neg h3]; exact ⟨fun h => absurd rfl h, hs⟩
      · simp only [decide_eq_true_eq] at hp hq
        by_cases h3 : j = x
        · rw [if_pos h3, if_neg (by omega)]
        · rw [if_neg h3] at hw; dsimp only at hw; rw [wd0] at hw; exact absurd hw (by decide)
      · simp only [decide_eq_true_eq, decide_eq_false_iff_not] at hp hq
        rw [if_pos (by omega)]; exact hn
      · simp only [decide_eq_true_eq, decide_eq_false_iff_not] at hp hq
        rw [if_neg (by omega), wd0]; decide
    · rw [if_neg h2]
      have e : row.set x (r, look) = putRow row (fun j => decide (j = x)) (fun _ => (r, look)) := by
        refine ext_getD _ _ (by simp [putRow_len]) fun j hj => ?_
        rw [List.length_set] at hj
        rw [getD_set _ _ _ _ (by omega), putRow_at _ _ _ _ hj]
        by_cases h3 : j = x
        · subst h3; simp
        · simp [h3]
      rw [e]
      have h1 : wd r ≠ 2 := h2
      exact meant_put row _ _ h (fun j hj hp => ⟨fun _ => h0, hs⟩) (fun j hj hp hq hz hw => absurd hz hn) (fun j hj hp hq => hn) (fun j hj hp hq => h1)
theorem meant_write (look : Int × Int × Int) (hs : isSt look = true) : ∀ (rs : List (Int × Nat)) (row : List C) (x : Nat), Meant row → Meant (writeR look rs row x)
  | [], _, _, h => h
  | r :: rs, row, x, h => by
    unfold writeR
    split
    · exact h
    · exact meant_write look hs rs _ _ (meant_one look row x r.1 h hs (by omega))
theorem replicate_right (n : Nat) : RightRow (List.replicate n (32, 0, 0, 0)) := by
  have hg : ∀ x, x < n → (List.replicate n ((32, 0, 0, 0) : C)).getD x z0 = (32, 0, 0, 0) := fun x hx => by simp [List.getD, hx]
  refine ⟨fun x hx => ?_, fun x hx => ?_⟩
  · rw [List.length_replicate] at hx
    rw [hg x hx]
    exact ⟨fun _ => by dsimp only; rw [wd32]; decide, by decide, fun h => absurd h (by decide)⟩
  · rw [List.length_replicate] at hx
    unfold loose
    rw [hg x hx, if_neg (by decide)]
    dsimp only
    rw [wd32]
    rfl
theorem rowAt_replicate (n hh y : Nat) (c : C) (hy : y < hh) : rowAt n (List.replicate (n * hh) c) y = List.replicate n c := by
  have h : (y + 1) * n ≤ hh * n := Nat.mul_le_mul_right _ hy
  rw [Nat.add_mul, Nat.one_mul, Nat.mul_comm hh n] at h
  unfold rowAt
  rw [List.drop_replicate, List.take_replicate]
  congr 1
  omega
end Grd
end Go.Proofs.YtnkeahfcpbepjaaGreatDoor

/- The walk of text.Columns: where the runes of a text stand. -/
namespace Go.Proofs.YtnkeahfcpbepjaaGreatDoor
open Go.ChangeShapes Go.WideShapes Go.ChangeAt Go.RowKit Go.Maps
namespace Txt
def colsL : List (Int × Nat) → Int → List Int
  | [], _ => []
  | x :: t, c => if 0 < wd x.1 then c :: colsL t (c + wd x.1) else colsL t c
def colsB (l : List UInt8) : List Int := colsL (rn l) 0
theorem colsL_length : ∀ (l : List (Int × Nat)) (c : Int), (colsL l c).length ≤ l.length
  | [], _ => by simp [colsL]
  | x :: t, c => by
    unfold colsL
    split
    · have := colsL_length t (c + wd x.1); simp; omega
    · have := colsL_length t c; simp; omega
theorem own_below {w w' : World} {base : Nat} {e : TypeId} {size : Nat} {v : Value} {n : Nat} {xs : List Value} (h : w.ownsRow base e size v n xs) (hb : Below w.heap.size w w') : w'.ownsRow base e size v n xs := by
  refine ⟨h.1, ?_⟩
  rcases h.2 with h2 | ⟨g, cap, cur, hv, hg, hh, r⟩
  · exact .inl h2
  · exact .inr ⟨g, cap, cur, hv, hg, by rw [hb.block g (Array.getElem?_eq_some_iff.1 hh).1]; exact hh, r⟩
theorem own_iter {w : World} {base : Nat} {e : TypeId} {size : Nat} {v : Value} {n : Nat} {xs : List Value} (h : w.ownsRow base e size v n xs) {k : Nat} (hk : k < base) (s : ByteArray) (p : Nat) : (w.iterAt k s p).ownsRow base e size v n xs := ownsRow_iterAt h hk s p
theorem info_int : (Tryz.prog.info? 3).map (fun i => (i.zero, i.size, i.bytes)) = some (some (.int .i64 0), 1, 8) := by kernel_rfl

end Txt
end Go.Proofs.YtnkeahfcpbepjaaGreatDoor

/- The shelf's contract for (*strings.Builder).WriteRune, laid at this program by hand. -/
namespace Go.Proofs
open Go.Shelf
def Tryz.lays168_ren : Go.Shelf.Ren := ⟨fun | 168 => 113 | 240 => 150 | 242 => 151 | 276 => 166 | 278 => 167 | n => n, fun | 0 => 0 | 3 => 3 | 4 => 4 | 5 => 5 | 9 => 9 | 20 => 20 | 21 => 21 | 37 => 105 | 46 => 137 | 51 => 154 | 70 => 104 | 72 => 107 | 75 => 109 | 80 => 112 | 164 => 161 | n => n, fun | n => n⟩
theorem Tryz.lays168 : Go.Proofs.Lays.n168 Tryz.prog Tryz.lays168_ren := {
  mixed := by kernel_rfl
  f168 := Tryz.func113.trans (congrArg some (by kernel_rfl))
  f240 := Tryz.func150.trans (congrArg some (by kernel_rfl))
  f242 := Tryz.func151.trans (congrArg some (by kernel_rfl))
  f276 := Tryz.func166.trans (congrArg some (by kernel_rfl))
  f278 := Tryz.func167.trans (congrArg some (by kernel_rfl))
  t0 := Tryz.underlying0
  a0 := Tryz.isAgg0
  z0 := Tryz.sizeOf0
  v0 := Tryz.zeroValue0
  t3 := Tryz.underlying3
  a3 := Tryz.isAgg3
  z3 := Tryz.sizeOf3
  v3 := Tryz.zeroValue3
  t4 := Tryz.underlying4
  a4 := Tryz.isAgg4
  z4 := Tryz.sizeOf4
  v4 := Tryz.zeroValue4
  t5 := Tryz.underlying5
  a5 := Tryz.isAgg5
  z5 := Tryz.sizeOf5
  v5 := Tryz.zeroValue5
  t9 := Tryz.underlying9
  a9 := Tryz.isAgg9
  z9 := Tryz.sizeOf9
  v9 := Tryz.zeroValue9
  t20 := Tryz.underlying20
  a20 := Tryz.isAgg20
  z20 := Tryz.sizeOf20
  v20 := Tryz.zeroValue20
  t21 := Tryz.underlying21
  a21 := Tryz.isAgg21
  z21 := Tryz.sizeOf21
  v21 := Tryz.zeroValue21
  t37 := Tryz.underlying105
  a37 := Tryz.isAgg105
  z37 := Tryz.sizeOf105
  v37 := Tryz.zeroValue105
  t46 := Tryz.underlying137
  a46 := Tryz.isAgg137
  z46 := Tryz.sizeOf137
  v46 := Tryz.zeroValue137
  t51 := Tryz.underlying154
  a51 := Tryz.isAgg154
  z51 := Tryz.sizeOf154
  v51 := Tryz.zeroValue154
  t70 := Tryz.underlying104
  a70 := Tryz.isAgg104
  z70 := Tryz.sizeOf104
  v70 := Tryz.zeroValue104
  t72 := Tryz.underlying107
  a72 := Tryz.isAgg107
  z72 := Tryz.sizeOf107
  v72 := Tryz.zeroValue107
  t75 := Tryz.underlying109
  a75 := Tryz.isAgg109
  z75 := Tryz.sizeOf109
  v75 := Tryz.zeroValue109
  t164 := Tryz.underlying161
  a164 := Tryz.isAgg161
  z164 := Tryz.sizeOf161
  v164 := Tryz.zeroValue161
}
theorem Tryz.Builder_Extra_168 : Builder.Extra Tryz.prog Tryz.lays168_ren := {
  sizeBuilder := by kernel_rfl
  liesBuilder := by kernel_rfl
  t5 := Tryz.underlying5
  a5 := Tryz.isAgg5
  z5 := Tryz.sizeOf5
  v5 := Tryz.zeroValue5
  infoByte := by kernel_rfl
  cellsByte := by kernel_rfl
  sizeByte := by kernel_rfl
  neB5 := by decide }
open Go.RowKit in
theorem Tryz.Builder_WriteRune_k (B b : Nat) (bs : List Value) (r : Int) (hr0 : -2147483648 ≤ r) (hr1 : r ≤ 2147483647) (w : World) (h : Lib.IsBuilderF 107 5 B b bs w) (hlen : bs.length + 4 ≤ 140737488355328) (hBw : B ≤ w.heap.size) :
    Calls Tryz.prog 113 #[.pointer (some ⟨b, 0, none⟩), .int .i32 r] w fun e w' => e = .returned (.tuple #[.int .i64 (Lib.runeCells r).length, .nilIface]) ∧ (Lib.BuilderAtF 107 5 B b (.pointer (some ⟨b, 0, none⟩)) (bs ++ Lib.runeCells r) w' ∧ Below B w w' ∧ Lib.OthersKept 5 (some b) w w') := Any.Builder_WriteRune_k Tryz.lays168 Tryz.Builder_Extra_168 B b bs r hr0 hr1 w h hlen hBw
end Go.Proofs

/- The walk of text.Clean. -/
namespace Go.Proofs.YtnkeahfcpbepjaaGreatDoor
open Go.ChangeShapes Go.WideShapes Go.ChangeAt Go.RowKit Go.Maps
namespace Txt
def cleanL : List (Int × Nat) → List UInt8
  | [] => []
  | x :: t => (if 0 < wd x.1 then Lib.encodeRune x.1 else []) ++ cleanL t
def cleanB (l : List UInt8) : List UInt8 := cleanL (rn l)
theorem encodeRune_length (r : Int) : 1 ≤ (Lib.encodeRune r).length ∧ (Lib.encodeRune r).length ≤ 4 := by
  rw [← Lib.runeCells_length]; exact Lib.runeCells_le r
theorem encode_eq (r : Int) : Utf8.encode r = bs (Lib.encodeRune r) := by
  by_cases h1 : 0 ≤ r ∧ r ≤ 127
  · have hv : Utf8.valid r = true := by simp [Utf8.valid]; omega
    simp only [Utf8.encode, hv, if_true]
    rw [if_pos (by omega)]
    unfold Lib.encodeRune
    rw [Lib.encodeRuneZ_one h1.1 h1.2]
    rfl
  · by_cases h2 : 128 ≤ r ∧ r ≤ 2047
    · have hv : Utf8.valid r = true := by simp [Utf8.valid]; omega
      simp only [Utf8.encode, hv, if_true]
      rw [if_neg (by omega), if_pos (by omega)]
      unfold Lib.encodeRune
      rw [Lib.encodeRuneZ_two h2.1 h2.2, show 0xC0 + r.toNat / 64 = (192 + r / 64).toNat by omega, show 0x80 + r.toNat % 64 = (128 + r % 64).toNat by omega]
      rfl
    · by_cases h3 : (2048 ≤ r ∧ r < 55296) ∨ (57343 < r ∧ r ≤ 65535)
      · have hv : Utf8.valid r = true := by simp [Utf8.valid]; omega
        simp only [Utf8.encode, hv, if_true]
        rw [if_neg (by omega), if_neg (by omega), if_pos (by omega)]
        unfold Lib.encodeRune
        rw [Lib.encodeRuneZ_three h3, show 0xE0 + r.toNat / 4096 = (224 + r / 4096).toNat by omega, show 0x80 + r.toNat / 64 % 64 = (128 + r / 64 % 64).toNat by omega, show 0x80 + r.toNat % 64 = (128 + r % 64).toNat by omega]
        rfl
      · by_cases h4 : 65536 ≤ r ∧ r ≤ 1114111
        · have hv : Utf8.valid r = true := by simp [Utf8.valid]; omega
          simp only [Utf8.encode, hv, if_true]
          rw [if_neg (by omega), if_neg (by omega), if_neg (by omega)]
          unfold Lib.encodeRune
          rw [Lib.encodeRuneZ_four h4.1 h4.2, show 0xF0 + r.toNat / 262144 = (240 + r / 262144).toNat by omega, show 0x80 + r.toNat / 4096 % 64 = (128 + r / 4096 % 64).toNat by omega, show 0x80 + r.toNat / 64 % 64 = (128 + r / 64 % 64).toNat by omega, show 0x80 + r.toNat % 64 = (128 + r % 64).toNat by omega]
          rfl
        · have hv : Utf8.valid r = false := by simp [Utf8.valid]; omega
          unfold Lib.encodeRune
          rw [Lib.encodeRuneZ_bad (by omega)]
          simp only [Utf8.encode, hv, Utf8.runeError, Bool.false_eq_true, if_false]
          decide
theorem builder_below {T e : TypeId} {B b : Nat} {bs : List Value} {w w' : World} (h : Lib.IsBuilderF T e B b bs w) (hb : Below w.heap.size w w') : Lib.IsBuilderF T e B b bs w' := by
  have key : ∀ p, Lib.BuilderAtF T e B b p bs w → Lib.BuilderAtF T e B b p bs w' := by
    rintro p ⟨hB, v, hh, hown, hne⟩
    refine ⟨hB, v, by rw [hb.block b (Array.getElem?_eq_some_iff.1 hh).1]; exact hh, ⟨hown.1, ?_⟩, hne⟩
    rcases hown.2 with hn | ⟨g, cap, cur, fz, hv, hbg, hg, rest⟩
    · exact .inl hn
    · exact .inr ⟨g, cap, cur, fz, hv, hbg, by rw [hb.block g (Array.getElem?_eq_some_iff.1 hg).1]; exact hg, rest⟩
  exact h.elim (fun x => .inl (key _ x)) (fun x => .inr (key _ x))
set_option maxHeartbeats 4000000 in
set_option maxRecDepth 1000000 in
theorem clean_any (s : ByteArray) (w : World) (hT : Tab w) (hs : s.size ≤ 17592186044416) :
    Calls Tryz.prog 61 #[.string s] w fun e w' => e = .returned (.string (bs (cleanL (runes s)))) ∧ Below w.heap.size w w' := by
  have HP : Hid (0 < w.heap.size) := hT.pos
  have HT : Hid (Tab w) := hT
  clear hT
  go_enter Tryz.func61, Tryz.ntmps61
  go_wp2
  go_loopw [] (fun wr => ∃ (pos f : Nat) (acc : List UInt8), Lib.IsBuilderF 107 5 w.heap.size w.heap.size (Lib.byteCells acc) wr ∧ wr.heap[w.heap.size + 1]? = some (.stringIter s pos) ∧ Below w.heap.size w wr ∧ acc ++ cleanL (rs s f pos) = cleanL (runes s) ∧ s.size ≤ pos + f ∧ acc.length ≤ 4 * pos ∧ pos ≤ s.size) (fun wr => s.size - wr.iterPos (w.heap.size + 1))
  case atStart =>
    refine ⟨0, s.size, [], (Lib.IsBuilderF.of (Lib.fresh_isBuilder 107 5 w)).alloc _, ?_, ((Below.refl _ w).alloc (Nat.le_refl _) _).alloc (by simp) _, by simp [runes], by omega, by simp, by omega⟩
    have := World.iter_heap (w.alloc (.cells #[.pointer none, .slice none 0 0] 107)) s 0
    simpa using this
  case round =>
    obtain ⟨pos, f, acc, hI, hit, hbw, hacc, hf, hal, hps⟩ := hrel
    have HC : Hid (acc ++ cleanL (rs s f pos) = cleanL (runes s)) := hacc
    clear hacc
    have hsz : w.heap.size + 1 < wr.heap.size := (Array.getElem?_eq_some_iff.1 hit).1
    by_cases hp : pos < s.size
    · have hnx : ∀ ty, (Instr.next (.pointer (some ⟨w.heap.size + 1, 0, none⟩)) true ty).run Tryz.prog wr = _ := fun ty => Lib.run_next_any_at wr (w.heap.size + 1) s pos ty hit hp
      have hwd := width_pos s pos hp
      have hfit := decode_fits s pos hp
      have hd1 := decode_le s pos
      obtain ⟨f, rfl⟩ : ∃ g, f = g + 1 := ⟨f - 1, by omega⟩
      have HR : Hid (rs s (f + 1) pos = (((Utf8.decode s pos).1 : Int), (Utf8.decode s pos).2) :: rs s f (pos + (Utf8.decode s pos).2)) := rs_step s f pos hp
      have hw := wd_range (Utf8.decode s pos).1
      have hI2 := hI.iterAt hit (pos + (Utf8.decode s pos).2)
      have hit2 := Lib.iterAt_heap wr (w.heap.size + 1) s pos (pos + (Utf8.decode s pos).2) hit
      have hbw2 := Lib.below_iterAt hbw (k := w.heap.size + 1) (by omega) s (pos + (Utf8.decode s pos).2)
      have hsz2 : w.heap.size + 1 < (wr.iterAt (w.heap.size + 1) s (pos + (Utf8.decode s pos).2)).heap.size := by rw [Lib.iterAt_size]; exact hsz
      have HI : Hid (wr.iterPos (w.heap.size + 1) = pos) := by simp only [Hid, World.iterPos, hit]
      clear hit hI
      generalize Utf8.decode s pos = d at *
      by_cases hpos : 0 < wd d.1
      · go_wp2_with (first
          | (go_at_call 79; refine (width_any _ _ (HT.out.below hbw2 (by have := HP.out; omega))).mono ?_; rintro e W1 ⟨rfl, b1⟩)
          | (go_at_call 113; refine (Tryz.Builder_WriteRune_k w.heap.size w.heap.size _ _ (by omega) (by omega) _ (builder_below hI2 b1) (by rw [Lib.byteCells_length]; omega) (by have := b1.size; omega)).mono ?_; rintro e W2 ⟨rfl, h2, b2, k2⟩))
        have hit3 := k2.iter ((b1.block _ hsz2).trans hit2) (by omega)
        have hl4 := encodeRune_length d.1
        go_roundw
        case rel =>
          refine ⟨pos + d.2, f, acc ++ Lib.encodeRune d.1, ?_, hit3, (hbw2.trans (b1.mono (by omega))).trans b2, ?_, by omega, by simp; omega, by omega⟩
          · rw [Lib.byteCells_append, Lib.byteCells_encodeRune]; exact Or.inr h2
          · rw [← HC.out, HR.out]; simp [cleanL, hpos]
        case measure =>
          rw [HI.out]
          simp only [World.iterPos, hit3]
          omega
      · have hz : ¬ 0 < wd d.1 := hpos
        go_wp2_with (go_at_call 79; refine (width_any _ _ (HT.out.below hbw2 (by have := HP.out; omega))).mono ?_; rintro e W1 ⟨rfl, b1⟩)
        go_roundw
        case rel =>
          refine ⟨pos + d.2, f, acc, builder_below hI2 b1, (b1.block _ hsz2).trans hit2, hbw2.trans (b1.mono (by omega)), ?_, by omega, by omega, by omega⟩
          rw [← HC.out, HR.out]; simp only [cleanL]; rw [if_neg (by omega)]; rfl
        case measure =>
          rw [HI.out]
          simp only [World.iterPos, (b1.block _ hsz2).trans hit2]
          omega
    · have hnx : ∀ ty, (Instr.next (.pointer (some ⟨w.heap.size + 1, 0, none⟩)) true ty).run Tryz.prog wr = _ := fun ty => Lib.run_next_end_at wr (w.heap.size + 1) s pos ty hit hp
      go_wp2_with (go_at_call 114; refine (Tryz.Builder_String_any_k w.heap.size w.heap.size acc _ hI (by omega)).mono ?_; rintro e W1 ⟨rfl, _, b1, _⟩)
      go_ret
      have := HC.out
      rw [rs_end s f pos hp, cleanL, List.append_nil] at this
      subst this
      exact ⟨rfl, hbw.trans b1⟩

end Txt
end Go.Proofs.YtnkeahfcpbepjaaGreatDoor

/- A screen: its data, its words in memory; the small questions of package put. -/
namespace Go.Proofs.YtnkeahfcpbepjaaGreatDoor
open Go.ChangeShapes Go.WideShapes Go.ChangeAt Go.RowKit
namespace Put
open Grd (C SliceAt CellsAt gridErr z0)
open Sty (isSt)
open Txt (wd)
structure Scr where
  w : Int
  h : Int
  cs : List C
  x : Int
  y : Int
  late : Bool
  sf : Int
  sb : Int
  sx : Int
  top : Int
  bot : Int
  modes : Int
  tabs : List Bool
  kx : Int
  ky : Int
  kf : Int
  kb : Int
  kbits : Int
  km : Int
  last : Int
  title : ByteArray
  gone : List (List C)
def scrA (s : Scr) (cv tv gv : Value) : Array Value := #[.int .i64 s.w, .int .i64 s.h, cv, .int .i64 s.x, .int .i64 s.y, .bool s.late, .int .i64 s.sf, .int .i64 s.sb, .int .i64 s.sx, .int .i64 s.top, .int .i64 s.bot, .int .i64 s.modes, tv, .int .i64 s.kx, .int .i64 s.ky, .int .i64 s.kf, .int .i64 s.kb, .int .i64 s.kbits, .int .i64 s.km, .int .i32 s.last, .string s.title, gv]
def BoolsV (w : World) (v : Value) (l : List Bool) : Prop := (l = [] ∧ ∃ p c, v = .slice p 0 c) ∨ ∃ b o c, v = .slice (some ⟨b, o, none⟩) l.length c ∧ l.length ≤ c ∧ c ≤ 9223372036854775807 ∧ ∀ j, j < l.length → w.cell? ⟨b, o + j, none⟩ = some (.bool (l.getD j false))
def RowsV (w : World) (v : Value) (l : List (List C)) : Prop := (l = [] ∧ ∃ p c, v = .slice p 0 c) ∨ ∃ b o c, v = .slice (some ⟨b, o, none⟩) l.length c ∧ l.length ≤ c ∧ c ≤ 9223372036854775807 ∧ ∀ j, j < l.length → ∃ rv, w.cell? ⟨b, o + j, none⟩ = some rv ∧ SliceAt w rv (l.getD j [])
theorem cell_stay {w w' : World} (hb : Below w.heap.size w w') {a : Addr} {v : Value} (h : w.cell? a = some v) : w'.cell? a = some v := Grd.cell_keep hb h
theorem BoolsV.next {w w' : World} {v : Value} {l : List Bool} (h : BoolsV w v l) (hb : Below w.heap.size w w') : BoolsV w' v l := by
  rcases h with h | ⟨b, o, c, hv, h1, h2, hc⟩
  · exact .inl h
  · exact .inr ⟨b, o, c, hv, h1, h2, fun j hj => cell_stay hb (hc j hj)⟩
theorem BoolsV.slice {w : World} {v : Value} {l : List Bool} (h : BoolsV w v l) : ∃ p c, v = .slice p l.length c := by
  rcases h with ⟨rfl, p, c, rfl⟩ | ⟨b, o, c, rfl, -⟩
  · exact ⟨p, c, rfl⟩
  · exact ⟨_, c, rfl⟩
theorem RowsV.next {w w' : World} {v : Value} {l : List (List C)} (h : RowsV w v l) (hb : Below w.heap.size w w') : RowsV w' v l := by
  rcases h with h | ⟨b, o, c, hv, h1, h2, hc⟩
  · exact .inl h
  · refine .inr ⟨b, o, c, hv, h1, h2, fun j hj => ?_⟩
    obtain ⟨rv, h1, h2⟩ := hc j hj
    exact ⟨rv, cell_stay hb h1, h2.below hb⟩
theorem RowsV.slice {w : World} {v : Value} {l : List (List C)} (h : RowsV w v l) : ∃ p c, v = .slice p l.length c := by
  rcases h with ⟨rfl, p, c, rfl⟩ | ⟨b, o, c, rfl, -⟩
  · exact ⟨p, c, rfl⟩
  · exact ⟨_, c, rfl⟩
/-- A screen's words, and what they speak of. -/
structure ScrV (W : World) (s : Scr) (cv tv gv : Value) : Prop where
  c : SliceAt W cv s.cs
  t : BoolsV W tv s.tabs
  g : RowsV W gv s.gone
theorem ScrV.next {W W' : World} {s : Scr} {cv tv gv : Value} (h : ScrV W s cv tv gv) (hb : Below W.heap.size W W') : ScrV W' s cv tv gv := ⟨h.c.below hb, h.t.next hb, h.g.next hb⟩
theorem cells22 {W : World} {R : Nat} {t : TypeId} {v0 v1 v2 v3 v4 v5 v6 v7 v8 v9 v10 v11 v12 v13 v14 v15 v16 v17 v18 v19 v20 v21 : Value} (h : W.heap[R]? = some (.cells #[v0, v1, v2, v3, v4, v5, v6, v7, v8, v9, v10, v11, v12, v13, v14, v15, v16, v17, v18, v19, v20, v21] t (0, 0))) :
    (W.cell? ⟨R, 0, none⟩ = some v0 ∧ W.cell? ⟨R, 1, none⟩ = some v1 ∧ W.cell? ⟨R, 2, none⟩ = some v2 ∧ W.cell? ⟨R, 3, none⟩ = some v3 ∧ W.cell? ⟨R, 4, none⟩ = some v4 ∧ W.cell? ⟨R, 5, none⟩ = some v5 ∧ W.cell? ⟨R, 6, none⟩ = some v6 ∧ W.cell? ⟨R, 7, none⟩ = some v7 ∧ W.cell? ⟨R, 8, none⟩ = some v8 ∧ W.cell? ⟨R, 9, none⟩ = some v9 ∧ W.cell? ⟨R, 10, none⟩ = some v10) ∧
    (W.cell? ⟨R, 11, none⟩ = some v11 ∧ W.cell? ⟨R, 12, none⟩ = some v12 ∧ W.cell? ⟨R, 13, none⟩ = some v13 ∧ W.cell? ⟨R, 14, none⟩ = some v14 ∧ W.cell? ⟨R, 15, none⟩ = some v15 ∧ W.cell? ⟨R, 16, none⟩ = some v16 ∧ W.cell? ⟨R, 17, none⟩ = some v17 ∧ W.cell? ⟨R, 18, none⟩ = some v18 ∧ W.cell? ⟨R, 19, none⟩ = some v19 ∧ W.cell? ⟨R, 20, none⟩ = some v20 ∧ W.cell? ⟨R, 21, none⟩ = some v21) ∧ ∀ i, W.frozen? ⟨R, i, none⟩ = false := by
  refine ⟨?_, ?_, fun i => by simp [World.frozen?, h]⟩ <;> simp [World.cell?, h]
theorem scr_cells {W : World} {R : Nat} {t : TypeId} {s : Scr} {cv tv gv : Value} (h : W.heap[R]? = some (.cells (scrA s cv tv gv) t (0, 0))) :
    (W.cell? ⟨R, 0, none⟩ = some (.int .i64 s.w) ∧ W.cell? ⟨R, 1, none⟩ = some (.int .i64 s.h) ∧ W.cell? ⟨R, 2, none⟩ = some (cv) ∧ W.cell? ⟨R, 3, none⟩ = some (.int .i64 s.x) ∧ W.cell? ⟨R, 4, none⟩ = some (.int .i64 s.y) ∧ W.cell? ⟨R, 5, none⟩ = some (.bool s.late) ∧ W.cell? ⟨R, 6, none⟩ = some (.int .i64 s.sf) ∧ W.cell? ⟨R, 7, none⟩ = some (.int .i64 s.sb) ∧ W.cell? ⟨R, 8, none⟩ = some (.int .i64 s.sx) ∧ W.cell? ⟨R, 9, none⟩ = some (.int .i64 s.top) ∧ W.cell? ⟨R, 10, none⟩ = some (.int .i64 s.bot)) ∧
    (W.cell? ⟨R, 11, none⟩ = some (.int .i64 s.modes) ∧ W.cell? ⟨R, 12, none⟩ = some (tv) ∧ W.cell? ⟨R, 13, none⟩ = some (.int .i64 s.kx) ∧ W.cell? ⟨R, 14, none⟩ = some (.int .i64 s.ky) ∧ W.cell? ⟨R, 15, none⟩ = some (.int .i64 s.kf) ∧ W.cell? ⟨R, 16, none⟩ = some (.int .i64 s.kb) ∧ W.cell? ⟨R, 17, none⟩ = some (.int .i64 s.kbits) ∧ W.cell? ⟨R, 18, none⟩ = some (.int .i64 s.km) ∧ W.cell? ⟨R, 19, none⟩ = some (.int .i32 s.last) ∧ W.cell? ⟨R, 20, none⟩ = some (.string s.title) ∧ W.cell? ⟨R, 21, none⟩ = some (gv)) ∧ ∀ i, W.frozen? ⟨R, i, none⟩ = false := cells22 h
/- The questions. -/
def hasC (w h x y : Int) : Bool := decide (0 ≤ x) && (decide (x < w) && (decide (0 ≤ y) && decide (y < h)))
def regionOk (h top bot : Int) : Bool := decide (0 ≤ top) && (decide (top ≤ bot) && (decide (bot < h) && (decide (top < bot) || decide (h = 1))))
def titleOk (t : ByteArray) : Bool := (t.toList == (Txt.bs (Txt.cleanL (Txt.runes t))).toList) && decide (Lib.runeCount t ≤ 20)
def goneBad (l : List (List C)) : Bool := l.any fun row => !decide (gridErr row.length 1 row = 0)
def goneErr (l : List (List C)) : Int := if 50 < l.length then 2 else if goneBad l then 5 else 0
theorem ret_bool {a b : Bool} (h : a = b) : Ending.returned (.bool a) = Ending.returned (.bool b) := by rw [h]
theorem ret_int {a b : Int} (h : a = b) : Ending.returned (.int .i64 a) = Ending.returned (.int .i64 b) := by rw [h]
set_option maxHeartbeats 2000000 in
theorem hasCell_any (a h : Int) (cv : Value) (x y : Int) (w : World) : Calls Tryz.prog 76 #[.agg #[.int .i64 a, .int .i64 h, cv], .int .i64 x, .int .i64 y] w fun e w' => e = .returned (.bool (hasC a h x y)) ∧ Below w.heap.size w w' := by
  have x0 := heap_alloc_new w (.cells #[.int .i64 a, .int .i64 h, cv] 24)
  obtain ⟨c0, c1, c2, -⟩ := Grd.cells3 x0
  have kb : Below w.heap.size w (w.alloc (.cells #[.int .i64 a, .int .i64 h, cv] 24)) := (Below.refl _ _).alloc (Nat.le_refl _) _
  have HKB : Hid _ := kb
  clear kb x0
  go_enter Tryz.func76, Tryz.ntmps76
  go_wp2
  all_goals (go_ret; refine ⟨ret_bool ?_, HKB.out⟩; clear c0 c1 c2)
  all_goals (unfold hasC; rw [Bool.eq_iff_iff]; simp; try omega)
set_option maxHeartbeats 4000000 in
theorem hasRegion_any (s : Scr) (cv tv gv : Value) (w : World) : Calls Tryz.prog 77 #[.agg (scrA s cv tv gv)] w fun e w' => e = .returned (.bool (regionOk s.h s.top s.bot)) ∧ Below w.heap.size w w' := by
  have x0 := heap_alloc_new w (.cells (scrA s cv tv gv) 32)
  have kb : Below w.heap.size w (w.alloc (.cells (scrA s cv tv gv) 32)) := (Below.refl _ _).alloc (Nat.le_refl _) _
  unfold scrA at x0 kb ⊢
  obtain ⟨⟨c0, c1, c2, c3, c4, c5, c6, c7, c8, c9, c10⟩, -, -⟩ := cells22 x0
  have HKB : Hid _ := kb
  clear kb x0 c0 c2 c3 c4 c5 c6 c7 c8
  go_enter Tryz.func77, Tryz.ntmps77
  go_wp2
  all_goals (go_ret; refine ⟨ret_bool ?_, HKB.out⟩; clear c1 c9 c10)
  all_goals (unfold regionOk; rw [Bool.eq_iff_iff]; simp; try omega)
theorem iter_below (w : World) (t : ByteArray) (pos : Nat) : Below w.heap.size w (w.iter t pos) := by
  exact (Below.refl _ w).alloc (Nat.le_refl _) _
set_option maxHeartbeats 4000000 in
theorem isTitle_any (t : ByteArray) (w : World) (hT : Txt.Tab w) (ht : t.size ≤ 1048576) : Calls Tryz.prog 80 #[.string t] w fun e w' => e = .returned (.bool (titleOk t)) ∧ Below w.heap.size w w' := by
  have HC := Txt.clean_any t w hT (by omega)
  have HE : Hid (titleOk t = ((t.toList == (Txt.bs (Txt.cleanL (Txt.runes t))).toList) && decide (Lib.runeCount t ≤ 20))) := rfl
  generalize titleOk t = res at HE ⊢
  generalize Txt.bs (Txt.cleanL (Txt.runes t)) = u at HC HE
  have HRC := fun W => Tryz.utf8_RuneCountInString t W (by omega)
  clear hT
  cases hq : (t.toList == u.toList) with
  | false =>
    rw [hq] at HE
    go_enter Tryz.func80, Tryz.ntmps80
    go_wp2_with fail
    refine HC.mono ?_
    rintro e W1 ⟨rfl, b1⟩
    go_wp2_with fail
    go_ret
    exact ⟨ret_bool (by rw [HE.out]; rfl), b1⟩
  | true =>
    rw [hq, Bool.true_and] at HE
    go_enter Tryz.func80, Tryz.ntmps80
    go_wp2_with fail
    refine HC.mono ?_
    rintro e W1 ⟨rfl, b1⟩
    go_wp2_with fail
    refine (HRC W1).mono ?_
    rintro e W2 ⟨rfl, pos, hW2⟩
    have b2 : Below W1.heap.size W1 W2 := by rw [hW2]; exact iter_below _ _ _
    clear hW2
    go_wp2_with fail
    go_ret
    refine ⟨ret_bool ?_, b1.trans (b2.mono b1.size)⟩
    rw [HE.out, decide_eq_decide]
    omega
theorem any_drop {α : Type} (p : α → Bool) (l : List α) (k : Nat) (h : k < l.length) (d : α) : (l.drop k).any p = (p (l.getD k d) || (l.drop (k + 1)).any p) := by
  rw [List.drop_eq_getElem_cons h, List.any_cons, List.getD_eq_getElem?_getD, List.getElem?_eq_getElem h]
  rfl
set_option maxHeartbeats 4000000 in
set_option maxRecDepth 100000 in
theorem checkGone_any (l : List (List C)) (v : Value) (w : World) (hT : Txt.Tab w) (hR : RowsV w v l) (hl : l.length ≤ 1048576) : Calls Tryz.prog 81 #[v] w fun e w' => e = .returned (.int .i64 (goneErr l)) ∧ Below w.heap.size w w' := by
  obtain ⟨pa, pc, hv⟩ := hR.slice
  have HR : Hid (RowsV w v l) := hR
  have HT : Hid (Txt.Tab w) := hT
  subst hv
  have HE : Hid (goneErr l = if 50 < l.length then 2 else if goneBad l then 5 else 0) := rfl
  generalize goneErr l = res at HE ⊢
  clear hR hT
  by_cases h50 : 50 < l.length
  · have h51 : (50 : Int) < (l.length : Int) := by omega
    rw [if_pos h50] at HE
    go_enter Tryz.func81, Tryz.ntmps81
    go_wp2_with fail
    go_ret
    exact ⟨ret_int HE.out.symm, Below.refl _ _⟩
  · have h51 : ¬ (50 : Int) < (l.length : Int) := by omega
    rw [if_neg h50] at HE
    go_enter Tryz.func81, Tryz.ntmps81
    go_wp2_with fail
    go_loopg [10] l.length (fun q i wr => ∃ k : Nat, k ≤ l.length ∧ l.length - k ≤ q ∧ i = .int .i64 k ∧ Below w.heap.size w wr ∧ goneBad (l.drop k) = goneBad l)
    case atStart => exact ⟨0, by omega, by omega, rfl, Below.refl _ _, rfl⟩
    case round =>
      obtain ⟨k, hk, hq, rfl, hb, hg⟩ := hrel
      have HB : Hid (Below w.heap.size w wr) := hb
      have HG : Hid (goneBad (l.drop k) = goneBad l) := hg
      clear hb hg
      by_cases hlt : k < l.length
      · have lt1 : ((k : Int) < (l.length : Int)) := by omega
        rcases HR.out with ⟨he, -⟩ | ⟨b, o, c, hvv, -, -, hc⟩
        · rw [he] at hlt
          exact absurd hlt (by simp)
        injection hvv with hvv1 hvv2 hvv3
        subst hvv1 hvv3
        obtain ⟨rv, hc1, hS⟩ := hc k hlt
        have q0 := cell_stay HB.out hc1
        have HS : Hid (SliceAt wr rv (l.getD k [])) := hS.below HB.out
        have HD : Hid (goneBad l = (!decide (gridErr (l.getD k []).length 1 (l.getD k []) = 0) || goneBad (l.drop (k + 1)))) := by
          unfold Hid
          rw [← HG.out]
          exact any_drop _ l k hlt []
        generalize l.getD k [] = row at *
        obtain ⟨ra, rc, hrv⟩ := hS.shape
        subst hrv
        have HCK := Grd.check_any (row.length : Int) 1 (.slice ra row.length rc) row wr (HT.out.below HB.out (HT.out.pos)) HS.out
        clear hc hc1 hS
        by_cases hz : gridErr row.length 1 row = 0
        · rw [hz] at HCK
          have HD2 : Hid (goneBad (l.drop (k + 1)) = goneBad l) := by
            unfold Hid
            rw [HD.out, hz]
            rfl
          go_wp2_with fail
          refine HCK.mono ?_
          rintro e W1 ⟨rfl, b1⟩
          clear HCK
          go_wp2_with fail
          go_roundg (l.length - (k + 1))
          case measure => omega
          case rel => exact ⟨k + 1, by omega, by omega, by go_num, HB.out.trans (b1.mono HB.out.size), HD2.out⟩
        · have HD2 : Hid (goneBad l = true) := by
            unfold Hid
            rw [HD.out, decide_eq_false hz]
            rfl
          have HZ : Hid (¬ gridErr row.length 1 row = 0) := hz
          have hzb : (gridErr row.length 1 row == 0) = false := by rw [beq_eq_false_iff_ne]; exact hz
          have hzc : (gridErr row.length 1 row != 0) = true := by simp [bne, hzb]
          clear hz
          generalize gridErr row.length 1 row = ge at *
          go_wp2_with fail
          refine HCK.mono ?_
          rintro e W1 ⟨rfl, b1⟩
          clear HCK
          go_wp2_with fail
          go_ret
          exact ⟨ret_int (by rw [HE.out, HD2.out]; rfl), HB.out.trans (b1.mono HB.out.size)⟩
      · have lt1 : ¬ ((k : Int) < (l.length : Int)) := by omega
        have HD2 : Hid (goneBad l = false) := by
          unfold Hid
          rw [← HG.out, List.drop_eq_nil_of_le (by omega)]
          rfl
        go_wp2_with fail
        go_ret
        exact ⟨ret_int (by rw [HE.out, HD2.out]; rfl), HB.out⟩
end Put
end Go.Proofs.YtnkeahfcpbepjaaGreatDoor

/- near, reach, holds, and the reference's limit. -/
namespace Go.Proofs.YtnkeahfcpbepjaaGreatDoor
open Go.ChangeShapes Go.WideShapes Go.ChangeAt Go.RowKit
namespace Grd
theorem min2 (a b : Int) (w : World) : (Builtin.min_ #[3, 3] 3 #[.int .i64 a, .int .i64 b]).run Tryz.prog w = .ok (.int .i64 (min a b)) w := by
  simp [Builtin.min_, Builtin.min2, go_sem]
  repeat' split
  all_goals omega
theorem max2 (a b : Int) (w : World) : (Builtin.max_ #[3, 3] 3 #[.int .i64 a, .int .i64 b]).run Tryz.prog w = .ok (.int .i64 (max a b)) w := by
  simp [Builtin.max_, Builtin.max2, go_sem]
  repeat' split
  all_goals omega
def nearI (n : Int) : Int := min (max n (-1000)) 1000
end Grd
end Go.Proofs.YtnkeahfcpbepjaaGreatDoor

/- slices.Clone of cells. -/
namespace Go.Proofs.YtnkeahfcpbepjaaGreatDoor
open Go.ChangeShapes Go.WideShapes Go.ChangeAt Go.RowKit
namespace Grd
theorem own_of_row {w : World} {base : Nat} {v : Value} {cs : List C} (h : w.ownsRow base 91 4 v cs.length (flat cs)) (hn : v ≠ .slice none 0 0) : OwnG w base v cs := by
  obtain ⟨_, h | ⟨g, cap, cur, hv, hg, hh, hc, hm, hs, htk⟩⟩ := h
  · exact absurd h.1 hn
  · refine ⟨g, cap, cur.toList.drop (cs.length * 4), ⟨91, rfl⟩, hv, hg, hc, by unfold maxLen at hm; omega, ?_⟩
    rw [hh, ← htk, List.take_append_drop]
theorem cellsAt_src {w : World} {b o : Nat} {cs : List C} (h : CellsAt w b o cs) : ∀ j u, (flat cs)[j]? = some u → w.cell? ((⟨b, o, none⟩ : Addr).add j) = some u := by
  intro j u hj
  have hlt := (List.getElem?_eq_some_iff.1 hj).1
  rw [flat_len] at hlt
  have hd : j / 4 < cs.length := by omega
  have hm : j % 4 < 4 := by omega
  have e : j = j / 4 * 4 + j % 4 := by omega
  rw [e, flat_at cs (j / 4) (j % 4) hd hm] at hj
  obtain ⟨h0, h1, h2, h3⟩ := h (j / 4) hd
  rw [add_plain, show o + j = o + j / 4 * 4 + j % 4 by omega, ← hj]
  generalize j / 4 = d at *
  rcases (show j % 4 = 0 ∨ j % 4 = 1 ∨ j % 4 = 2 ∨ j % 4 = 3 by omega) with hq | hq | hq | hq <;> rw [hq]
  · exact h0
  · exact h1
  · exact h2
  · exact h3
set_option maxHeartbeats 1000000 in
theorem clone_cells (b o c : Nat) (cs : List C) (w : World) (hC : CellsAt w b o cs) (hbig : cs.length * 32 ≤ 140737488355328) :
    Calls Tryz.prog 115 #[.slice (some ⟨b, o, none⟩) cs.length c] w fun e w' => ∃ v', e = .returned v' ∧ OwnG w' w.heap.size v' cs ∧ Below w.heap.size w w' := by
  obtain ⟨i0, hi, hzz⟩ := Option.map_eq_some_iff.1 info_cell
  simp only [Prod.mk.injEq] at hzz
  obtain ⟨hz0, hz1, hz2⟩ := hzz
  have kb : Below w.heap.size w (w.alloc (.cells #[] 91)) := (Below.refl _ _).alloc (Nat.le_refl _) _
  have HS : Hid (∀ j u, (flat cs)[j]? = some u → (w.alloc (.cells #[] 91)).cell? ((⟨b, o, none⟩ : Addr).add j) = some u) := cellsAt_src (hC.below kb)
  have HF : Hid ((flat cs).length = cs.length * 4) := flat_len cs
  have HO : Hid (∀ u ∈ flat cs, u.oneCell' = true) := flat_one cs
  have qn : ∀ (w : World) (a : Option Addr) (n c n' c' : Nat), (binOp .eql 22 (.slice a n c) (.slice none n' c')).run Tryz.prog w = .ok (.bool a.isNone) w := fun w a n c n' c' => Lib.run_eql_slice_nil w _ _ a n c n' c' und_cells
  clear hC
  go_enter Tryz.func115, Tryz.ntmps115
  go_wp2_with (at_builtin; refine wpList_append_own _ rfl _ _ 22 rfl w.heap.size 91 i0 (.agg #[.int .i32 0, .int .i64 0, .int .i64 0, .int .i64 0]) 4 32 und_cells hi hz0 hz1 hz2 rfl (by decide) _ _ _ rfl (World.ownsRow_made w #[] 0 (Nat.le_refl _) (Nat.zero_le _) rfl) ⟨b, o, none⟩ cs.length c (flat cs) rfl HF.out HS.out HO.out ?qc4 ?qc5 ?qc6 ?_)
  case qc4 => unfold maxLen; omega
  case qc5 => omega
  case qc6 => simp
  intro v' w1 hown hgrow hnil
  go_wp2_with fail
  go_ret
  exact ⟨v', rfl, own_of_row hown hnil, ((Below.refl _ w).alloc (Nat.le_refl _) _).grown hgrow (by simp) (by intro k hk; simp [Value.ownBlock] at hk; omega)⟩
end Grd
end Go.Proofs.YtnkeahfcpbepjaaGreatDoor

/- copyOf, holds. -/
namespace Go.Proofs.YtnkeahfcpbepjaaGreatDoor
open Go.ChangeShapes Go.WideShapes Go.ChangeAt Go.RowKit
namespace Grd
end Grd
end Go.Proofs.YtnkeahfcpbepjaaGreatDoor

/- One cell stored into a row in the middle of a block. -/
namespace Go.Proofs.YtnkeahfcpbepjaaGreatDoor
open Go.ChangeShapes Go.WideShapes Go.ChangeAt Go.RowKit
namespace Grd
theorem set_take (L : List Value) (o : Nat) (v : Value) (h : o < L.length) : (L.set o v).take (o + 1) = L.take o ++ [v] := by
  rw [List.set_eq_take_append_cons_drop, if_pos h, List.take_append, List.length_take, Nat.min_eq_left (by omega), Nat.add_sub_cancel_left, List.take_of_length_le (by rw [List.length_take]; omega)]
  rfl
theorem set_drop (L : List Value) (o k : Nat) (v : Value) (h : o < k) : (L.set o v).drop k = L.drop k := by
  rw [List.drop_set, if_pos h]
theorem heap_setCells (g : Nat) (t : TypeId) : ∀ (vs : List Value) (o : Nat) (w : World) (L : List Value), w.heap[g]? = some (.cells L.toArray t (0, 0)) → o + vs.length ≤ L.length → (w.setCells g o vs).heap[g]? = some (.cells (L.take o ++ (vs ++ L.drop (o + vs.length))).toArray t (0, 0))
  | [], o, w, L, h, _ => by
    show w.heap[g]? = _
    rw [h]; simp
  | v :: r, o, w, L, h, hl => by
    rw [List.length_cons] at hl
    have h1 := heap_setCell_same w g o _ t v h
    have h2 := heap_setCells g t r (o + 1) (w.setCell ⟨g, o, none⟩ v) (L.set o v) (by rw [h1]; simp) (by rw [List.length_set]; omega)
    show ((w.setCell ⟨g, o, none⟩ v).setCells g (o + 1) r).heap[g]? = _
    rw [h2, set_take L o v (by omega), set_drop L o _ v (by omega), List.append_assoc, List.length_cons, show o + 1 + r.length = o + (r.length + 1) by omega]
    rfl
theorem words_len (c : C) : (words c).length = 4 := rfl
theorem flat_cut (cs : List C) (x : Nat) (h : x < cs.length) : flat cs = flat (cs.take x) ++ (words (cs.getD x z0) ++ flat (cs.drop (x + 1))) := by
  have e : cs = cs.take x ++ (cs.getD x z0 :: cs.drop (x + 1)) := by
    have : cs.getD x z0 = cs[x] := by simp [List.getD, h]
    rw [this, List.getElem_cons_drop, List.take_append_drop]
  conv => lhs; rw [e]
  rw [flat_append]; rfl
theorem flat_put (cs : List C) (x : Nat) (c : C) (h : x < cs.length) : flat (cs.set x c) = flat (cs.take x) ++ (words c ++ flat (cs.drop (x + 1))) := by
  rw [List.set_eq_take_append_cons_drop, if_pos h, flat_append]; rfl
/-- A cell stored at x of the row that lies behind 'pre'. -/
theorem store_cell {w : World} {g : Nat} {t : TypeId} {pre post : List Value} {cs : List C} (h : w.heap[g]? = some (.cells (pre ++ (flat cs ++ post)).toArray t (0, 0))) (x : Nat) (hx : x < cs.length) (c : C) :
    (w.setCells g (pre.length + x * 4) (words c)).heap[g]? = some (.cells (pre ++ (flat (cs.set x c) ++ post)).toArray t (0, 0)) := by
  have hl : (flat (cs.take x)).length = x * 4 := by rw [flat_len, List.length_take, Nat.min_eq_left (by omega)]
  have h1 := heap_setCells g t (words c) (pre.length + x * 4) w _ h (by
    rw [List.length_append, List.length_append, flat_len, words_len]; omega)
  rw [h1, flat_put cs x c hx, flat_cut cs x hx]
  have e1 : (pre ++ ((flat (cs.take x) ++ (words (cs.getD x z0) ++ flat (cs.drop (x + 1)))) ++ post)).take (pre.length + x * 4) = pre ++ flat (cs.take x) := by
    rw [List.take_append, List.take_of_length_le (by omega), Nat.add_sub_cancel_left, List.append_assoc, List.take_left' hl]
  have e2 : (pre ++ ((flat (cs.take x) ++ (words (cs.getD x z0) ++ flat (cs.drop (x + 1)))) ++ post)).drop (pre.length + x * 4 + (words c).length) = flat (cs.drop (x + 1)) ++ post := by
    rw [words_len, Nat.add_assoc, List.drop_append, List.drop_of_length_le (by omega), Nat.add_sub_cancel_left, List.append_assoc, ← hl, List.drop_append, List.drop_of_length_le (by omega), Nat.add_sub_cancel_left, List.append_assoc]
    rfl
  rw [e1, e2]
  simp only [List.append_assoc]
theorem there_cell {w : World} {g : Nat} {t : TypeId} {pre post : List Value} {cs : List C} (h : w.heap[g]? = some (.cells (pre ++ (flat cs ++ post)).toArray t (0, 0))) (x : Nat) (hx : x < cs.length) : w.there g (pre.length + x * 4) 4 := fun j hj => by
  refine ⟨?_, frozen_of h _⟩
  unfold World.cell?
  rw [h]
  have : pre.length + x * 4 + j < (pre ++ (flat cs ++ post)).length := by rw [List.length_append, List.length_append, flat_len]; omega
  simp [List.getElem?_eq_getElem this]
theorem range_cell {w : World} {b o : Nat} {cs : List C} (h : CellsAt w b o cs) (x : Nat) (hx : x < cs.length) : w.rangeAt b (o + x * 4) (words (cs.getD x z0)) := fun j v hv => by
  obtain ⟨h0, h1, h2, h3⟩ := h x hx
  have hj : j < 4 := by have := (List.getElem?_eq_some_iff.1 hv).1; rwa [words_len] at this
  match j, hj with
  | 0, _ => rw [← hv]; exact h0
  | 1, _ => rw [← hv]; exact h1
  | 2, _ => rw [← hv]; exact h2
  | 3, _ => rw [← hv]; exact h3
theorem words_agg (c : C) : (.agg (words c).toArray : Value) = .agg #[.int .i32 c.1, .int .i64 c.2.1, .int .i64 c.2.2.1, .int .i64 c.2.2.2] := rfl
theorem words_one (c : C) : (#[.int .i32 c.1, .int .i64 c.2.1, .int .i64 c.2.2.1, .int .i64 c.2.2.2] : Array Value).all (·.oneCell') = true := by simp [Value.oneCell']
end Grd
end Go.Proofs.YtnkeahfcpbepjaaGreatDoor

/- The reference's MendRow. -/
namespace Go.Proofs.YtnkeahfcpbepjaaGreatDoor
open Go.ChangeShapes Go.WideShapes Go.ChangeAt Go.RowKit
namespace Grd
open Txt (wd)
/-- The cells below i are mended, the others not yet. -/
def mendPre (cs : List C) (i : Nat) : List C := (mendM cs).take i ++ cs.drop i
theorem mendPre_len (cs : List C) (i : Nat) (h : i ≤ cs.length) : (mendPre cs i).length = cs.length := by
  unfold mendPre; rw [List.length_append, List.length_take, List.length_drop, mendM_len]; omega
theorem mendPre_at (cs : List C) (i j : Nat) (hi : i ≤ cs.length) (h : i ≤ j) : (mendPre cs i).getD j z0 = cs.getD j z0 := by
  unfold mendPre
  simp only [List.getD]
  rw [List.getElem?_append_right (by rw [List.length_take, mendM_len]; omega), List.length_take, mendM_len, Nat.min_eq_left hi, List.getElem?_drop, show i + (j - i) = j by omega]
theorem mendPre_same (cs : List C) (i : Nat) (h : i < cs.length) (hl : loose cs i = false) : mendPre cs (i + 1) = mendPre cs i := by
  unfold mendPre
  have e1 : (mendM cs).take (i + 1) = (mendM cs).take i ++ [cs.getD i z0] := by
    rw [List.take_add_one]
    congr 1
    have := mendM_at cs i h
    rw [hl] at this
    simp only [List.getD] at this
    have hlt : i < (mendM cs).length := by rw [mendM_len]; exact h
    rw [List.getElem?_eq_getElem hlt] at this ⊢
    simp only [Option.getD_some] at this
    rw [this]
    rfl
  have e2 : cs.drop i = cs.getD i z0 :: cs.drop (i + 1) := by
    have : cs.getD i z0 = cs[i] := by simp [List.getD, h]
    rw [this, List.getElem_cons_drop]
  rw [e1, e2, List.append_assoc]
  rfl
theorem mendPre_set (cs : List C) (i : Nat) (h : i < cs.length) (hl : loose cs i = true) : mendPre cs (i + 1) = setR (mendPre cs i) i := by
  have hle := mendPre_len cs i (by omega)
  have hle2 := mendPre_len cs (i + 1) (by omega)
  refine ext_getD _ _ (by unfold setR; rw [List.length_set, hle, hle2]) fun j hj => ?_
  rw [hle2] at hj
  unfold setR
  rw [getD_set _ _ _ _ (by rw [hle]; exact h), mendPre_at cs i i (by omega) (Nat.le_refl _)]
  by_cases hji : j = i
  · subst hji
    rw [if_pos rfl]
    unfold mendPre
    have hlt : j < (mendM cs).length := by rw [mendM_len]; exact h
    have := mendM_at cs j h
    rw [if_pos hl] at this
    rw [← this]
    simp only [List.getD]
    rw [List.getElem?_append_left (by rw [List.length_take]; omega), List.getElem?_take]
    simp
  · rw [if_neg hji]
    by_cases hlt : i < j
    · rw [mendPre_at cs (i + 1) j (by omega) (by omega), mendPre_at cs i j (by omega) (by omega)]
    · unfold mendPre
      simp only [List.getD]
      rw [List.getElem?_append_left (by rw [List.length_take, mendM_len]; omega), List.getElem?_append_left (by rw [List.length_take, mendM_len]; omega), List.getElem?_take, List.getElem?_take, if_pos (by omega), if_pos (by omega)]
theorem mendPre_zero (cs : List C) : mendPre cs 0 = cs := by simp [mendPre]
theorem mendPre_all (cs : List C) (i : Nat) (h : cs.length ≤ i) : mendPre cs i = mendL cs := by
  unfold mendPre
  rw [mendL_eq, List.take_of_length_le (by rw [mendM_len]; exact h), List.drop_of_length_le h, List.append_nil]
/-- The cell at i is the second half of the rune before it. -/
def second (cs : List C) (i : Nat) : Bool := decide (0 < i ∧ i < cs.length ∧ (cs.getD i z0).1 = 0 ∧ wd (cs.getD (i - 1) z0).1 = 2)
theorem loose_wide (cs : List C) (i : Nat) (hw : wd (cs.getD i z0).1 = 2) : loose cs i = (decide (i + 1 = cs.length) || decide ((cs.getD (i + 1) z0).1 ≠ 0)) := by
  have hn : ¬ (cs.getD i z0).1 = 0 := by intro h; rw [h, wd0] at hw; exact absurd hw (by decide)
  unfold loose
  rw [if_neg hn, hw]
  simp
theorem loose_none (cs : List C) (i : Nat) (hi : i < cs.length) (hr : (cs.getD i z0).1 = 0) (hs : second cs i = false) : loose cs i = true := by
  unfold loose
  unfold second at hs
  rw [if_pos hr]
  rw [decide_eq_false_iff_not] at hs
  by_cases h0 : i = 0
  · simp [h0]
  · have : wd (cs.getD (i - 1) z0).1 ≠ 2 := fun h => hs ⟨by omega, hi, hr, h⟩
    simp [this, -List.getD_eq_getElem?_getD]
theorem loose_narrow (cs : List C) (i : Nat) (hr : ¬ (cs.getD i z0).1 = 0) (hw : ¬ wd (cs.getD i z0).1 = 2) : loose cs i = false := by
  unfold loose
  rw [if_neg hr]
  simp [hw, -List.getD_eq_getElem?_getD]
end Grd
end Go.Proofs.YtnkeahfcpbepjaaGreatDoor

/- The walk of the reference's MendRow. -/
namespace Go.Proofs.YtnkeahfcpbepjaaGreatDoor
open Go.ChangeShapes Go.WideShapes Go.ChangeAt Go.RowKit
namespace Grd
open Txt (wd)
theorem widthOf_to (r : Int) (w : World) (v : Int) (h : wd r = v) : Calls Tryz.prog 69 #[.int .i32 r] w fun e w' => e = .returned (.int .i64 v) ∧ Below w.heap.size w w' := by
  have := Txt.widthOf_any r w
  rwa [h] at this
/-- A slice that reads as a row, alone in the block g. -/
def RowB (w : World) (g : Nat) (v : Value) (row : List C) : Prop := ∃ (cap : Nat) (rest : List Value), v = .slice (some ⟨g, 0, none⟩) row.length cap ∧ row.length ≤ cap ∧ cap ≤ 9223372036854775807 ∧ w.heap[g]? = some (.cells (flat row ++ rest).toArray 91 (0, 0))
theorem RowB.below {w w' : World} {g : Nat} {v : Value} {row : List C} (h : RowB w g v row) (hb : Below w.heap.size w w') : RowB w' g v row := by
  obtain ⟨cap, rest, hv, h1, h2, h3⟩ := h
  exact ⟨cap, rest, hv, h1, h2, carry h3 hb⟩
theorem RowB.cells {w : World} {g : Nat} {v : Value} {row : List C} (h : RowB w g v row) : CellsAt w g 0 row := by
  obtain ⟨cap, rest, _, _, _, h3⟩ := h
  exact cellsAt_flat h3
theorem RowB.own {w : World} {g base : Nat} {v : Value} {row : List C} (h : RowB w g v row) (hb : base ≤ g) : OwnG w base v row := by
  obtain ⟨cap, rest, hv, h1, h2, h3⟩ := h
  exact ⟨g, cap, rest, ⟨_, rfl⟩, hv, hb, h1, h2, h3⟩
theorem rowB_of_row {w : World} {base : Nat} {v : Value} {cs : List C} (h : w.ownsRow base 91 4 v cs.length (flat cs)) (hn : v ≠ .slice none 0 0) : ∃ g, base ≤ g ∧ RowB w g v cs := by
  obtain ⟨_, h | ⟨g, cap, cur, hv, hg, hh, hc, hm, hs, htk⟩⟩ := h
  · exact absurd h.1 hn
  · refine ⟨g, hg, cap, cur.toList.drop (cs.length * 4), hv, hc, by unfold maxLen at hm; omega, ?_⟩
    rw [hh, ← htk, List.take_append_drop]
set_option maxHeartbeats 1000000 in
theorem clone_row (b o c : Nat) (cs : List C) (w : World) (hC : CellsAt w b o cs) (hbig : cs.length * 32 ≤ 140737488355328) :
    Calls Tryz.prog 115 #[.slice (some ⟨b, o, none⟩) cs.length c] w fun e w' => ∃ v' g, e = .returned v' ∧ w.heap.size ≤ g ∧ RowB w' g v' cs ∧ Below w.heap.size w w' := by
  obtain ⟨i0, hi, hzz⟩ := Option.map_eq_some_iff.1 info_cell
  simp only [Prod.mk.injEq] at hzz
  obtain ⟨hz0, hz1, hz2⟩ := hzz
  have kb : Below w.heap.size w (w.alloc (.cells #[] 91)) := (Below.refl _ _).alloc (Nat.le_refl _) _
  have HS : Hid (∀ j u, (flat cs)[j]? = some u → (w.alloc (.cells #[] 91)).cell? ((⟨b, o, none⟩ : Addr).add j) = some u) := cellsAt_src (hC.below kb)
  have HF : Hid ((flat cs).length = cs.length * 4) := flat_len cs
  have HO : Hid (∀ u ∈ flat cs, u.oneCell' = true) := flat_one cs
  have qn : ∀ (w : World) (a : Option Addr) (n c n' c' : Nat), (binOp .eql 22 (.slice a n c) (.slice none n' c')).run Tryz.prog w = .ok (.bool a.isNone) w := fun w a n c n' c' => Lib.run_eql_slice_nil w _ _ a n c n' c' und_cells
  clear hC
  go_enter Tryz.func115, Tryz.ntmps115
  go_wp2_with (at_builtin; refine wpList_append_own _ rfl _ _ 22 rfl w.heap.size 91 i0 (.agg #[.int .i32 0, .int .i64 0, .int .i64 0, .int .i64 0]) 4 32 und_cells hi hz0 hz1 hz2 rfl (by decide) _ _ _ rfl (World.ownsRow_made w #[] 0 (Nat.le_refl _) (Nat.zero_le _) rfl) ⟨b, o, none⟩ cs.length c (flat cs) rfl HF.out HS.out HO.out ?qc4 ?qc5 ?qc6 ?_)
  case qc4 => unfold maxLen; omega
  case qc5 => omega
  case qc6 => simp
  intro v' w1 hown hgrow hnil
  obtain ⟨g, hg, hrow⟩ := rowB_of_row (by simpa using hown) hnil
  go_wp2_with fail
  go_ret
  exact ⟨v', g, rfl, hg, hrow, ((Below.refl _ w).alloc (Nat.le_refl _) _).grown hgrow (by simp) (by intro k hk; simp [Value.ownBlock] at hk; omega)⟩
set_option maxHeartbeats 4000000 in
theorem mendRow_any (b o c : Nat) (cs : List C) (w : World) (hC : CellsAt w b o cs) (hn : cs.length ≤ 1000000) :
    Calls Tryz.prog 100 #[.slice (some ⟨b, o, none⟩) cs.length c] w fun e w' => ∃ v' g, e = .returned v' ∧ w.heap.size ≤ g ∧ RowB w' g v' (mendL cs) ∧ Below w.heap.size w w' := by
  have HC := clone_row b o c cs w hC (by omega)
  clear hC
  generalize hl : cs.length = L at *
  have HL : Hid (cs.length = L) := hl
  clear hl
  go_enter Tryz.func100, Tryz.ntmps100
  go_wp2_with (go_at_call 115; refine HC.mono ?_; rintro e W1 ⟨_, g, rfl, hg, ⟨cap, rest, rfl, hlc, hcm, hgh⟩, b1⟩)
  rw [HL.out] at hlc
  have hgW : g < W1.heap.size := blk_lt hgh
  have ap0 : Apart w.heap.size [g] w W1 := .of b1 (Nat.le_refl _)
  have hl0 : cs.length = L := HL.out
  simp only [hl0]
  clear hl0 HC
  go_loopg [4] L (fun q i wr => ∃ k : Nat, i = .int .i64 (k : Int) ∧ k ≤ L ∧ L - k ≤ q ∧ second cs k = false ∧ Apart w.heap.size [g] w wr ∧ wr.heap[g]? = some (.cells (flat (mendPre cs k) ++ rest).toArray 91 (0, 0)))
  case atStart => exact ⟨0, rfl, by omega, by omega, by simp [second], ap0, by rw [mendPre_zero]; exact hgh⟩
  case round =>
    clear hgh ap0 b1
    obtain ⟨k, rfl, hk, hq, hsec, hap, hv⟩ := hrel
    by_cases hlt : k < L
    · have lt1 : ((k : Int) < (L : Int)) := by omega
      have hpl : (mendPre cs k).length = L := by rw [mendPre_len cs k (by rw [HL.out]; omega), HL.out]
      have hC : CellsAt wr g 0 (mendPre cs k) := cellsAt_flat hv
      have c0 := (hC k (by rw [hpl]; exact hlt)).1
      rw [mendPre_at cs k k (by rw [HL.out]; omega) (Nat.le_refl _), Nat.zero_add] at c0
      have c1 : k + 1 < L → wr.cell? ⟨g, (k + 1) * 4, none⟩ = some (.int .i32 (cs.getD (k + 1) z0).1) := fun h => by
        have := (hC (k + 1) (by rw [hpl]; exact h)).1
        rwa [mendPre_at cs k (k + 1) (by rw [HL.out]; omega) (by omega), Nat.zero_add] at this
      have hNW : w.heap.size ≤ wr.heap.size := hap.1.size
      clear hC
      by_cases hw2 : wd (cs.getD k z0).1 = 2
      · by_cases hk1 : k + 1 < L
        · have c1 := c1 hk1
          by_cases hz : (cs.getD (k + 1) z0).1 = 0
          · have HE : Hid (mendPre cs (k + 2) = mendPre cs k) := by
              have l0 : loose cs k = false := by
                rw [loose_wide cs k hw2, hz, HL.out]
                simp
                omega
              have l1 : loose cs (k + 1) = false := by
                unfold loose
                rw [if_pos hz, Nat.add_sub_cancel]
                simp [hw2, -List.getD_eq_getElem?_getD]
              unfold Hid
              rw [mendPre_same cs (k + 1) (by rw [HL.out]; exact hk1) l1, mendPre_same cs k (by rw [HL.out]; exact hlt) l0]
            have HS2 : Hid (second cs (k + 2) = false) := by
              unfold Hid second
              rw [decide_eq_false_iff_not]
              rintro ⟨_, _, _, h2⟩
              rw [show k + 2 - 1 = k + 1 by omega, hz, wd0] at h2
              exact absurd h2 (by decide)
            have HW : Hid (wd (cs.getD k z0).1 = 2) := hw2
            have lt2 : ((k : Int) + 1 < (L : Int)) := by omega
            rw [hz] at c1
            clear hsec hw2 hz hpl
            generalize (cs.getD k z0).1 = r0 at *
            go_wp2_with (go_at_call 69; refine (widthOf_to r0 _ _ HW.out).mono ?_; rintro e W2 ⟨rfl, b2⟩; have d0 := cell_keep b2 c0; have d1 := cell_keep b2 c1; have hv2 := carry hv b2; have hfz : W2.frozen? ⟨g, k * 4, none⟩ = false := frozen_of hv2 _)
            go_roundg (L - (k + 2))
            case measure => omega
            case rel => exact ⟨k + 2, by first | rfl | (simp; omega), by omega, by omega, HS2.out, hap.step b2 hNW, by rw [HE.out]; exact hv2⟩
          · have hlo : loose cs k = true := by
              rw [loose_wide cs k hw2]
              simp [hz, -List.getD_eq_getElem?_getD]
            have HE : Hid (flat (mendPre cs (k + 1)) ++ rest = (flat (mendPre cs k) ++ rest).set (k * 4) (.int .i32 32)) := by
              unfold Hid
              rw [mendPre_set cs k (by rw [HL.out]; exact hlt) hlo, List.set_append_left _ _ (by rw [flat_len, hpl]; omega), flat_set _ k (by rw [hpl]; exact hlt)]
            have HS1 : Hid (second cs (k + 1) = false) := by
              unfold Hid second
              rw [decide_eq_false_iff_not]
              rintro ⟨_, _, h1, h2⟩
              rw [Nat.add_sub_cancel] at h2
              exact hz h1
            have HW : Hid (wd (cs.getD k z0).1 = 2) := hw2
            have lt2 : ((k : Int) + 1 < (L : Int)) := by omega
            have ne : ((cs.getD (k + 1) z0).1 == 0) = false := by simpa [-List.getD_eq_getElem?_getD] using hz
            clear hsec hw2 hz hpl hlo
            generalize (cs.getD k z0).1 = r0 at *
            generalize (cs.getD (k + 1) z0).1 = r1 at *
            go_wp2_with (go_at_call 69; refine (widthOf_to r0 _ _ HW.out).mono ?_; rintro e W2 ⟨rfl, b2⟩; have d0 := cell_keep b2 c0; have d1 := cell_keep b2 c1; have hv2 := carry hv b2; have hfz : W2.frozen? ⟨g, k * 4, none⟩ = false := frozen_of hv2 _)
            go_roundg (L - (k + 1))
            case measure => omega
            case rel =>
              refine ⟨k + 1, rfl, by omega, by omega, HS1.out, (hap.step b2 hNW).setCell g _ _ (by simp) hg, ?_⟩
              rw [HE.out]
              have := heap_setCell_same W2 g (k * 4) _ _ (.int .i32 32) hv2
              simpa using this
        · have hlo : loose cs k = true := by
            rw [loose_wide cs k hw2, HL.out]
            simp
            omega
          have HE : Hid (flat (mendPre cs (k + 1)) ++ rest = (flat (mendPre cs k) ++ rest).set (k * 4) (.int .i32 32)) := by
            unfold Hid
            rw [mendPre_set cs k (by rw [HL.out]; exact hlt) hlo, List.set_append_left _ _ (by rw [flat_len, hpl]; omega), flat_set _ k (by rw [hpl]; exact hlt)]
          have HS1 : Hid (second cs (k + 1) = false) := by
            unfold Hid second
            rw [decide_eq_false_iff_not]
            rintro ⟨_, h0, _⟩
            rw [HL.out] at h0
            omega
          have HW : Hid (wd (cs.getD k z0).1 = 2) := hw2
          have lt2 : ¬ ((k : Int) + 1 < (L : Int)) := by omega
          have ld2 : decide ((k : Int) + 1 < (L : Int)) = false := decide_eq_false lt2
          clear hsec hw2 hpl hlo c1
          generalize (cs.getD k z0).1 = r0 at *
          go_wp2_with (go_at_call 69; refine (widthOf_to r0 _ _ HW.out).mono ?_; rintro e W2 ⟨rfl, b2⟩; have d0 := cell_keep b2 c0; have hv2 := carry hv b2; have hfz : W2.frozen? ⟨g, k * 4, none⟩ = false := frozen_of hv2 _)
          go_roundg (L - (k + 1))
          case measure => omega
          case rel =>
            refine ⟨k + 1, rfl, by omega, by omega, HS1.out, (hap.step b2 hNW).setCell g _ _ (by simp) hg, ?_⟩
            rw [HE.out]
            have := heap_setCell_same W2 g (k * 4) _ _ (.int .i32 32) hv2
            simpa using this
      · by_cases hz : (cs.getD k z0).1 = 0
        · have hlo : loose cs k = true := loose_none cs k (by rw [HL.out]; exact hlt) hz hsec
          have HE : Hid (flat (mendPre cs (k + 1)) ++ rest = (flat (mendPre cs k) ++ rest).set (k * 4) (.int .i32 32)) := by
            unfold Hid
            rw [mendPre_set cs k (by rw [HL.out]; exact hlt) hlo, List.set_append_left _ _ (by rw [flat_len, hpl]; omega), flat_set _ k (by rw [hpl]; exact hlt)]
          have HS1 : Hid (second cs (k + 1) = false) := by
            unfold Hid second
            rw [decide_eq_false_iff_not]
            rintro ⟨_, _, h1, h2⟩
            rw [Nat.add_sub_cancel] at h2
            exact hw2 h2
          have HW : Hid (wd (cs.getD k z0).1 = 0) := by unfold Hid; rw [hz, wd0]
          rw [hz] at c0 HW
          clear hsec hw2 hz hpl hlo c1
          obtain ⟨r0, hr0⟩ : ∃ q : Int, q = 0 := ⟨0, rfl⟩
          rw [← hr0] at c0 HW
          subst hr0
          go_wp2_with (go_at_call 69; refine (widthOf_to 0 _ _ HW.out).mono ?_; rintro e W2 ⟨rfl, b2⟩; have d0 := cell_keep b2 c0; have hv2 := carry hv b2; have hfz : W2.frozen? ⟨g, k * 4, none⟩ = false := frozen_of hv2 _)
          go_roundg (L - (k + 1))
          case measure => omega
          case rel =>
            refine ⟨k + 1, rfl, by omega, by omega, HS1.out, (hap.step b2 hNW).setCell g _ _ (by simp) hg, ?_⟩
            rw [HE.out]
            have := heap_setCell_same W2 g (k * 4) _ _ (.int .i32 32) hv2
            simpa using this
        · have hlo : loose cs k = false := loose_narrow cs k hz hw2
          have HE : Hid (mendPre cs (k + 1) = mendPre cs k) := mendPre_same cs k (by rw [HL.out]; exact hlt) hlo
          have HS1 : Hid (second cs (k + 1) = false) := by
            unfold Hid second
            rw [decide_eq_false_iff_not]
            rintro ⟨_, _, h1, h2⟩
            rw [Nat.add_sub_cancel] at h2
            exact hw2 h2
          obtain ⟨wv, hwv⟩ : ∃ q, wd (cs.getD k z0).1 = q := ⟨_, rfl⟩
          have HW : Hid (wd (cs.getD k z0).1 = wv) := hwv
          have n2 : (wv == 2) = false := by rw [← hwv]; simpa [-List.getD_eq_getElem?_getD] using hw2
          have nz : ((cs.getD k z0).1 == 0) = false := by simpa [-List.getD_eq_getElem?_getD] using hz
          clear hsec hw2 hz hpl hlo c1 hwv
          generalize (cs.getD k z0).1 = r0 at *
          go_wp2_with (go_at_call 69; refine (widthOf_to r0 _ _ HW.out).mono ?_; rintro e W2 ⟨rfl, b2⟩; have d0 := cell_keep b2 c0; have hv2 := carry hv b2; have hfz : W2.frozen? ⟨g, k * 4, none⟩ = false := frozen_of hv2 _)
          go_roundg (L - (k + 1))
          case measure => omega
          case rel => exact ⟨k + 1, rfl, by omega, by omega, HS1.out, hap.step b2 hNW, by rw [HE.out]; exact hv2⟩
    · have lt1 : ¬ ((k : Int) < (L : Int)) := by omega
      have hml : (mendL cs).length = L := by rw [mendL_len, HL.out]
      rw [mendPre_all cs k (by rw [HL.out]; omega)] at hv
      go_wp2_with fail
      go_ret
      exact ⟨_, rfl, g, hg, ⟨cap, rest, by rw [hml]; rfl, by rw [hml]; exact hlc, hcm, hv⟩, hap.1⟩
end Grd
end Go.Proofs.YtnkeahfcpbepjaaGreatDoor
