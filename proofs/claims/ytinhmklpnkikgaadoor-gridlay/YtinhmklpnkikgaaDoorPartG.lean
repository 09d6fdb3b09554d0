/- Plain mathematics on the rows of a grid: parts of a row set, rows one behind the other, mending, what is a right row. -/
import Derived.Test.YtinhmklpnkikgaaDoorPartF
import Derived.Test.YtinhmklpnkikgaaDoorPartE
import Derived.Deep.MidRow
import Derived.Test.YtinhmklpnkikgaaDoorPartD
import Derived.Lib.OthersKept
import Derived.Shelf.Strings.BuilderRune
import Derived.Lib.TrimByte
namespace Go.Proofs.YtinhmklpnkikgaaDoor
namespace Grd
open Txt (wd)
open Sty (isSt)
theorem wd32 : wd 32 = 1 := by decide +kernel
theorem wd_nonneg (r : Int) : 0 ≤ wd r := (Txt.wd_range r).1
/-- A row with the cells at which p holds set to f. -/
def putRow (row : List C) (p : Nat → Bool) (f : Nat → C) : List C := (List.range row.length).map fun x => if p x then f x else row.getD x z0
theorem putRow_len (row : List C) (p : Nat → Bool) (f : Nat → C) : (putRow row p f).length = row.length := by simp [putRow]
theorem putRow_at (row : List C) (p : Nat → Bool) (f : Nat → C) (x : Nat) (hx : x < row.length) : (putRow row p f).getD x z0 = if p x then f x else row.getD x z0 := by
  simp [putRow, List.getD, hx]
theorem ext_getD (a b : List C) (hl : a.length = b.length) (h : ∀ x, x < a.length → a.getD x z0 = b.getD x z0) : a = b := by
  refine List.ext_getElem hl fun i h1 h2 => ?_
  have := h i h1
  simp only [List.getD, List.getElem?_eq_getElem h1, List.getElem?_eq_getElem h2, Option.getD_some] at this
  exact this
theorem getD_set (cs : List C) (x : Nat) (c : C) (j : Nat) (hx : x < cs.length) : (cs.set x c).getD j z0 = if j = x then c else cs.getD j z0 := by
  simp only [List.getD, List.getElem?_set]
  by_cases h : j = x
  · subst h; simp [hx]
  · simp [h, Ne.symm h]
theorem putRow_none (row : List C) (p : Nat → Bool) (f : Nat → C) (h : ∀ x, x < row.length → p x = false) : putRow row p f = row :=
  ext_getD _ _ (putRow_len _ _ _) fun x hx => by
    rw [putRow_len] at hx
    rw [putRow_at _ _ _ _ hx, h x hx]; rfl
theorem putRow_congr (row : List C) (p q : Nat → Bool) (f g : Nat → C) (h : ∀ x, x < row.length → p x = q x ∧ (p x = true → f x = g x)) : putRow row p f = putRow row q g :=
  ext_getD _ _ (by rw [putRow_len, putRow_len]) fun x hx => by
    rw [putRow_len] at hx
    rw [putRow_at _ _ _ _ hx, putRow_at _ _ _ _ hx, ← (h x hx).1]
    by_cases hp : p x = true
    · rw [if_pos hp, if_pos hp, (h x hx).2 hp]
    · rw [if_neg hp, if_neg hp]
/-- One more cell set. -/
theorem putRow_set (row : List C) (p q : Nat → Bool) (f : Nat → C) (k : Nat) (hk : k < row.length) (hq : ∀ x, x < row.length → q x = (p x || decide (x = k))) : (putRow row p f).set k (f k) = putRow row q f :=
  ext_getD _ _ (by simp [putRow_len]) fun x hx => by
    rw [List.length_set, putRow_len] at hx
    rw [getD_set _ _ _ _ (by rw [putRow_len]; exact hk), putRow_at _ _ _ _ hx, putRow_at _ _ _ _ hx, hq x hx]
    by_cases h : x = k
    · subst h; simp
    · simp [h]
/-- The rows below k, each as f makes it, one behind the other. -/
def preF (n : Nat) (cs : List C) (f : Nat → List C → List C) : Nat → List C
  | 0 => []
  | k + 1 => preF n cs f k ++ f k (rowAt n cs k)
def KeepLen (n : Nat) (f : Nat → List C → List C) : Prop := ∀ y row, row.length = n → (f y row).length = n
theorem preF_len (n hh : Nat) (cs : List C) (f : Nat → List C → List C) (hL : cs.length = n * hh) (hf : KeepLen n f) : ∀ k, k ≤ hh → (preF n cs f k).length = k * n
  | 0, _ => by simp [preF]
  | k + 1, h => by
    show (preF n cs f k ++ f k (rowAt n cs k)).length = _
    rw [List.length_append, preF_len n hh cs f hL hf k (by omega), hf _ _ (row_len n hh cs k hL (by omega)), Nat.add_mul, Nat.one_mul]
theorem drop_row (n : Nat) (cs : List C) (k : Nat) : cs.drop (k * n) = rowAt n cs k ++ cs.drop ((k + 1) * n) := by
  unfold rowAt
  rw [Nat.add_mul, Nat.one_mul, ← List.drop_drop, List.take_append_drop]
theorem take_row (n : Nat) (cs : List C) (k : Nat) : cs.take ((k + 1) * n) = cs.take (k * n) ++ rowAt n cs k := by
  unfold rowAt
  rw [Nat.add_mul, Nat.one_mul, List.take_add]
theorem preF_id (n : Nat) (cs : List C) (f : Nat → List C → List C) : ∀ k, (∀ y, y < k → f y (rowAt n cs y) = rowAt n cs y) → preF n cs f k = cs.take (k * n)
  | 0, _ => by simp [preF]
  | k + 1, h => by
    show preF n cs f k ++ f k (rowAt n cs k) = _
    rw [preF_id n cs f k (fun y hy => h y (by omega)), h k (by omega), take_row]
theorem preF_congr (n : Nat) (cs : List C) (f g : Nat → List C → List C) : ∀ k, (∀ y, y < k → f y (rowAt n cs y) = g y (rowAt n cs y)) → preF n cs f k = preF n cs g k
  | 0, _ => rfl
  | k + 1, h => by
    show preF n cs f k ++ f k (rowAt n cs k) = preF n cs g k ++ g k (rowAt n cs k)
    rw [preF_congr n cs f g k (fun y hy => h y (by omega)), h k (by omega)]
theorem preF_rest (n hh : Nat) (cs : List C) (f : Nat → List C → List C) (hL : cs.length = n * hh) (k : Nat) : ∀ m, k + m = hh → (∀ y, k ≤ y → y < hh → f y (rowAt n cs y) = rowAt n cs y) → preF n cs f hh = preF n cs f k ++ cs.drop (k * n) := by
  have key : ∀ m, k + m ≤ hh → (∀ y, k ≤ y → y < hh → f y (rowAt n cs y) = rowAt n cs y) → preF n cs f (k + m) ++ cs.drop ((k + m) * n) = preF n cs f k ++ cs.drop (k * n) := by
    intro m
    induction m with
    | zero => intro _ _; rfl
    | succ m ih =>
      intro h hid
      rw [← ih (by omega) hid, drop_row n cs (k + m)]
      show (preF n cs f (k + m) ++ f (k + m) (rowAt n cs (k + m))) ++ _ = _
      rw [hid (k + m) (by omega) (by omega), List.append_assoc]
      rfl
  intro m hm hid
  have := key m (by omega) hid
  rw [hm] at this
  rw [← this, List.drop_of_length_le (by rw [hL, Nat.mul_comm]; exact Nat.le_refl _), List.append_nil]
theorem rowAt_preF (n hh : Nat) (cs : List C) (f : Nat → List C → List C) (hL : cs.length = n * hh) (hf : KeepLen n f) (y : Nat) : ∀ k, y < k → k ≤ hh → rowAt n (preF n cs f k) y = f y (rowAt n cs y)
  | 0, h, _ => by omega
  | k + 1, h, hk => by
    have hlen := preF_len n hh cs f hL hf k (by omega)
    by_cases he : y = k
    · subst he
      unfold rowAt
      show ((preF n cs f y ++ f y (rowAt n cs y)).drop (y * n)).take n = _
      rw [List.drop_left' hlen, List.take_of_length_le (by rw [hf _ _ (row_len n hh cs y hL (by omega))]; exact Nat.le_refl _)]
      rfl
    · have ih := rowAt_preF n hh cs f hL hf y k (by omega) (by omega)
      unfold rowAt at ih ⊢
      show ((preF n cs f k ++ f k (rowAt n cs k)).drop (y * n)).take n = _
      have : (y + 1) * n ≤ k * n := Nat.mul_le_mul_right _ (by omega)
      rw [Nat.add_mul, Nat.one_mul] at this
      rw [List.drop_append_of_le_length (by omega), List.take_append_of_le_length (by rw [List.length_drop]; omega), ih]
/-- Mending, each cell by what stood there: the order makes no difference. -/
def mendM (cs : List C) : List C := (List.range cs.length).map fun x => if loose cs x then (32, (cs.getD x z0).2) else cs.getD x z0
theorem mendM_len (cs : List C) : (mendM cs).length = cs.length := by simp [mendM]
theorem mendM_at (cs : List C) (x : Nat) (hx : x < cs.length) : (mendM cs).getD x z0 = if loose cs x then (32, (cs.getD x z0).2) else cs.getD x z0 := by
  simp [mendM, List.getD, hx]
theorem mendTo_at (cs : List C) : ∀ k, k ≤ cs.length → ∀ x, x < cs.length → (mendTo cs k).getD x z0 = if x < k ∧ loose cs x = true then (32, (cs.getD x z0).2) else cs.getD x z0
  | 0, _, x, hx => by simp [mendTo]
  | k + 1, hk, x, hx => by
    have ih := mendTo_at cs k (by omega)
    have hl := mendTo_len cs k
    have ek : (mendTo cs k).getD k z0 = cs.getD k z0 := by rw [ih k (by omega), if_neg (by simp)]
    have hlo : loose (mendTo cs k) k = loose cs k := by
      unfold loose
      rw [ek, hl]
      by_cases hr : (cs.getD k z0).1 = 0
      · rw [if_pos hr, if_pos hr]
        by_cases h0 : k = 0
        · simp [h0]
        · have e : (wd ((mendTo cs k).getD (k - 1) z0).1 ≠ 2) = (wd (cs.getD (k - 1) z0).1 ≠ 2) := by
            rw [ih (k - 1) (by omega)]
            by_cases hq : loose cs (k - 1) = true
            · rw [if_pos ⟨by omega, hq⟩]
              have : wd (cs.getD (k - 1) z0).1 ≠ 2 := by
                intro h2
                unfold loose at hq
                have hn : ¬ (cs.getD (k - 1) z0).1 = 0 := by intro h; rw [h, wd0] at h2; omega
                rw [if_neg hn] at hq
                simp only [Bool.and_eq_true, Bool.or_eq_true, decide_eq_true_eq] at hq
                rcases hq.2 with h | h
                · omega
                · rw [show k - 1 + 1 = k by omega] at h; exact h hr
              simp [this, wd32, -List.getD_eq_getElem?_getD]
            · rw [if_neg (fun h => hq h.2)]
          simp only [e]
      · rw [if_neg hr, if_neg hr]
        by_cases hl2 : k + 1 = cs.length
        · simp [hl2]
        · rw [ih (k + 1) (by omega), if_neg (by omega)]
    show (mendStep (mendTo cs k) k).getD x z0 = _
    unfold mendStep
    rw [hlo]
    by_cases hlk : loose cs k = true
    · rw [if_pos hlk]
      unfold setR
      rw [getD_set _ _ _ _ (by rw [hl]; omega), ek]
      by_cases hxk : x = k
      · subst hxk; simp [hlk]
      · rw [if_neg hxk, ih x hx]
        by_cases hc : x < k ∧ loose cs x = true
        · rw [if_pos hc, if_pos ⟨by omega, hc.2⟩]
        · rw [if_neg hc, if_neg (fun h => hc ⟨by omega, h.2⟩)]
    · rw [if_neg hlk, ih x hx]
      by_cases hc : x < k ∧ loose cs x = true
      · rw [if_pos hc, if_pos ⟨by omega, hc.2⟩]
      · rw [if_neg hc, if_neg (fun h => hc ⟨by
          have := h.1
          rcases Nat.lt_or_ge x k with h' | h'
          · exact h'
          · exfalso
            obtain rfl : x = k := by omega
            exact hlk h.2, h.2⟩)]
theorem mendL_eq (cs : List C) : mendL cs = mendM cs :=
  ext_getD _ _ (by rw [mendM_len]; exact mendTo_len _ _) fun x hx => by
    unfold mendL at hx ⊢
    rw [mendTo_len] at hx
    rw [mendTo_at cs _ (Nat.le_refl _) x hx, mendM_at cs x hx]
    by_cases h : loose cs x = true
    · rw [if_pos ⟨hx, h⟩, if_pos h]
    · rw [if_neg (fun q => h q.2), if_neg h]
theorem mendL_len (cs : List C) : (mendL cs).length = cs.length := mendTo_len _ _
theorem mendL_fix (cs : List C) (h : ∀ x, x < cs.length → loose cs x = false) : mendL cs = cs := by
  rw [mendL_eq]
  refine ext_getD _ _ (mendM_len _) fun x hx => ?_
  rw [mendM_len] at hx
  rw [mendM_at cs x hx, h x hx]; rfl
/-- What a row must be so that mending makes a right one of it. -/
def Meant (row : List C) : Prop := ∀ x, x < row.length → ((row.getD x z0).1 ≠ 0 → wd (row.getD x z0).1 ≠ 0) ∧ isSt (row.getD x z0).2 = true ∧
  ((row.getD x z0).1 = 0 → 0 < x → wd (row.getD (x - 1) z0).1 = 2 → (row.getD x z0).2 = (row.getD (x - 1) z0).2)
theorem Meant.alike {row : List C} (h : Meant row) : Alike row := fun x hx h2 h0 => ((h (x + 1) hx).2.2 h0 (by omega) h2).symm
def RightRow (row : List C) : Prop := Meant row ∧ ∀ x, x < row.length → loose row x = false
theorem mend_right (row : List C) (h : Meant row) : RightRow (mendL row) := by
  rw [mendL_eq]
  have hst : ∀ x, x < row.length → ((mendM row).getD x z0).2 = (row.getD x z0).2 := fun x hx => by
    rw [mendM_at row x hx]; split <;> rfl
  have hz : ∀ x, x < row.length → ((mendM row).getD x z0).1 = 0 → (row.getD x z0).1 = 0 ∧ loose row x = false := fun x hx h0 => by
    rw [mendM_at row x hx] at h0
    by_cases hl : loose row x = true
    · rw [if_pos hl] at h0; exact absurd (show (32 : Int) = 0 from h0) (by decide)
    · rw [if_neg hl] at h0; exact ⟨h0, by simpa using hl⟩
  have hw : ∀ x, x < row.length → wd ((mendM row).getD x z0).1 = 2 → wd (row.getD x z0).1 = 2 ∧ loose row x = false := fun x hx h0 => by
    rw [mendM_at row x hx] at h0
    by_cases hl : loose row x = true
    · rw [if_pos hl] at h0; dsimp only at h0; rw [wd32] at h0; exact absurd h0 (by decide)
    · rw [if_neg hl] at h0; exact ⟨h0, by simpa using hl⟩
  refine ⟨fun x hx => ?_, fun x hx => ?_⟩
  · rw [mendM_len] at hx
    refine ⟨fun _ => ?_, ?_, fun h0 hp h2 => ?_⟩
    · rw [mendM_at row x hx] at *
      by_cases hl : loose row x = true
      · rw [if_pos hl]; dsimp only; rw [wd32]; decide
      · rename_i hne
        rw [if_neg hl] at hne ⊢
        exact (h x hx).1 hne
    · rw [hst x hx]; exact (h x hx).2.1
    · rw [hst x hx, hst (x - 1) (by omega)]
      exact (h x hx).2.2 (hz x hx h0).1 hp (hw (x - 1) (by omega) h2).1
  · rw [mendM_len] at hx
    unfold loose
    by_cases hr : ((mendM row).getD x z0).1 = 0
    · rw [if_pos hr]
      obtain ⟨h0, hl⟩ := hz x hx hr
      unfold loose at hl
      rw [if_pos h0] at hl
      simp only [Bool.or_eq_false_iff, decide_eq_false_iff_not, Decidable.not_not] at hl
      have hnl : loose row (x - 1) = false := by
        unfold loose
        have hn : ¬ (row.getD (x - 1) z0).1 = 0 := by intro h; rw [h, wd0] at hl; exact absurd hl.2 (by decide)
        rw [if_neg hn, show x - 1 + 1 = x by omega, h0]
        simp
        intro _; omega
      rw [mendM_at row (x - 1) (by omega), hnl]
      simp [hl.1, hl.2, -List.getD_eq_getElem?_getD]
    · rw [if_neg hr]
      by_cases h2 : wd ((mendM row).getD x z0).1 = 2
      · obtain ⟨hw2, hl⟩ := hw x hx h2
        have hn : ¬ (row.getD x z0).1 = 0 := by intro h; rw [h, wd0] at hw2; exact absurd hw2 (by decide)
        unfold loose at hl
        rw [if_neg hn] at hl
        simp only [hw2, decide_true, Bool.true_and, Bool.or_eq_false_iff, decide_eq_false_iff_not, Decidable.not_not] at hl
        have hnl : loose row (x + 1) = false := by
          unfold loose
          rw [if_pos hl.2]
          simp [hw2, -List.getD_eq_getElem?_getD]
        rw [mendM_len, mendM_at row (x + 1) (by omega), hnl]
        simp [hl.1, hl.2, -List.getD_eq_getElem?_getD]
      · simp [h2, -List.getD_eq_getElem?_getD]
theorem firstErr_zero (f : Nat → Int) : ∀ m k, firstErr f k m = 0 ↔ ∀ i, i < m → f (k + i) = 0
  | 0, k => by simp [firstErr]
  | m + 1, k => by
    show (if f k = 0 then firstErr f (k + 1) m else f k) = 0 ↔ _
    by_cases h : f k = 0
    · rw [if_pos h, firstErr_zero f m (k + 1)]
      constructor
      · intro hh i hi
        rcases i with _ | i
        · exact h
        · have := hh i (by omega); rwa [show k + 1 + i = k + (i + 1) by omega] at this
      · intro hh i hi
        have := hh (i + 1) (by omega); rwa [show k + (i + 1) = k + 1 + i by omega] at this
    · rw [if_neg h]
      exact ⟨fun e => absurd e h, fun hh => absurd (hh 0 (by omega)) h⟩
theorem cellErr_zero (row : List C) (x : Nat) : cellErr row x = 0 ↔ ((row.getD x z0).1 ≠ 0 → wd (row.getD x z0).1 ≠ 0) ∧ isSt (row.getD x z0).2 = true ∧ loose row x = false ∧ ((row.getD x z0).1 = 0 → (row.getD x z0).2 = (row.getD (x - 1) z0).2) := by
  unfold cellErr
  by_cases h1 : ((row.getD x z0).1 ≠ 0 ∧ wd (row.getD x z0).1 = 0) ∨ isSt (row.getD x z0).2 = false
  · rw [if_pos h1]
    constructor
    · intro h; exact absurd h (by decide)
    · intro h
      rcases h1 with h1 | h1
      · exact absurd h1.2 (h.1 h1.1)
      · rw [h.2.1] at h1; exact absurd h1 (by decide)
  · rw [if_neg h1]
    by_cases h2 : loose row x = true ∨ ((row.getD x z0).1 = 0 ∧ (row.getD x z0).2 ≠ (row.getD (x - 1) z0).2)
    · rw [if_pos h2]
      constructor
      · intro h; exact absurd h (by decide)
      · intro h
        rcases h2 with h2 | h2
        · rw [h.2.2.1] at h2; exact absurd h2 (by decide)
        · exact absurd (h.2.2.2 h2.1) h2.2
    · rw [if_neg h2]
      refine ⟨fun _ => ⟨fun h0 hw => h1 (.inl ⟨h0, hw⟩), ?_, ?_, fun h0 => ?_⟩, fun _ => rfl⟩
      · cases hs : isSt (row.getD x z0).2 with
        | true => rfl
        | false => exact absurd (.inr hs) h1
      · cases hs : loose row x with
        | false => rfl
        | true => exact absurd (.inl hs) h2
      · exact Decidable.byContradiction fun hne => h2 (.inr ⟨h0, hne⟩)
theorem rowErr_zero (row : List C) : rowErr row = 0 ↔ RightRow row := by
  unfold rowErr
  rw [firstErr_zero]
  constructor
  · intro h
    refine ⟨fun x hx => ?_, fun x hx => ?_⟩
    · have := h x hx
      rw [Nat.zero_add, cellErr_zero] at this
      exact ⟨this.1, this.2.1, fun h0 _ _ => this.2.2.2 h0⟩
    · have := h x hx
      rw [Nat.zero_add, cellErr_zero] at this
      exact this.2.2.1
  · rintro ⟨hm, hl⟩ x hx
    rw [Nat.zero_add, cellErr_zero]
    refine ⟨(hm x hx).1, (hm x hx).2.1, hl x hx, fun h0 => ?_⟩
    have := hl x hx
    unfold loose at this
    rw [if_pos h0] at this
    simp only [Bool.or_eq_false_iff, decide_eq_false_iff_not, Decidable.not_not] at this
    exact (hm x hx).2.2 h0 (by omega) this.2
theorem gridErr_zero (n hh : Nat) (cs : List C) : gridErr n hh cs = 0 ↔ isSize n hh = true ∧ cs.length = n * hh ∧ ∀ y, y < hh → RightRow (rowAt n cs y) := by
  unfold gridErr
  by_cases h : isSize (n : Int) hh = false ∨ (cs.length : Int) ≠ (n : Int) * hh
  · rw [if_pos h]
    constructor
    · intro e; exact absurd e (by decide)
    · rintro ⟨h1, h2, _⟩
      rcases h with h | h
      · rw [h1] at h; exact absurd h (by decide)
      · exact absurd (by exact_mod_cast h2) h
  · rw [if_neg h, firstErr_zero, Int.toNat_natCast, Int.toNat_natCast]
    have h' := not_or.1 h
    refine ⟨fun q => ⟨by simpa using h'.1, by exact_mod_cast Decidable.not_not.1 h'.2, fun y hy => ?_⟩, fun q y hy => ?_⟩
    · have := q y hy
      rw [Nat.zero_add] at this
      exact (rowErr_zero _).1 this
    · rw [Nat.zero_add]
      exact (rowErr_zero _).2 (q.2.2 y hy)
theorem meant_put (row : List C) (p : Nat → Bool) (f : Nat → C) (h : Meant row) (h1 : ∀ x, x < row.length → p x = true → ((f x).1 ≠ 0 → wd (f x).1 ≠ 0) ∧ isSt (f x).2 = true)
    (h2 : ∀ x, x + 1 < row.length → p x = true → p (x + 1) = true → (f (x + 1)).1 = 0 → wd (f x).1 = 2 → (f (x + 1)).2 = (f x).2)
    (h3 : ∀ x, x + 1 < row.length → p x = false → p (x + 1) = true → (f (x + 1)).1 ≠ 0) (h4 : ∀ x, x + 1 < row.length → p x = true → p (x + 1) = false → wd (f x).1 ≠ 2) : Meant (putRow row p f) := by
  intro x hx
  rw [putRow_len] at hx
  rw [putRow_at _ _ _ _ hx]
  refine ⟨?_, ?_, ?_⟩
  · cases hp : p x with
    | true => exact (h1 x hx hp).1
    | false => exact (h x hx).1
  · cases hp : p x with
    | true => exact (h1 x hx hp).2
    | false => exact (h x hx).2.1
  · intro h0 hpos hw
    obtain ⟨u, rfl⟩ : ∃ u, x = u + 1 := ⟨x - 1, by omega⟩
    rw [Nat.add_sub_cancel] at hw ⊢
    rw [putRow_at _ _ _ u (by omega)] at hw ⊢
    cases hp : p (u + 1) with
    | true =>
      rw [hp] at h0
      cases hq : p u with
      | true =>
        rw [hq] at hw
        exact h2 u hx hq hp h0 hw
      | false => exact absurd h0 (h3 u hx hq hp)
    | false =>
      rw [hp] at h0
      cases hq : p u with
      | true =>
        rw [hq] at hw
        exact absurd hw (h4 u hx hq hp)
      | false =>
        rw [hq] at hw
        exact (h (u + 1) hx).2.2 h0 hpos hw
theorem meant_fill (row : List C) (p : Nat → Bool) (c : C) (h : Meant row) (hc : wd c.1 = 1) (hs : isSt c.2 = true) : Meant (putRow row p fun _ => c) := by
  have hn : c.1 ≠ 0 := by intro h; rw [h, wd0] at hc; exact absurd hc (by decide)
  have hw : wd c.1 ≠ 2 := by rw [hc]; decide
  exact meant_put row p _ h (fun x _ _ => ⟨fun _ => by rw [hc]; decide, hs⟩) (fun x _ _ _ h0 _ => absurd h0 hn) (fun x _ _ _ => hn) (fun x _ _ _ => hw)
/-- The cells of 'fr' upon a row, from s on (s may be below 0). -/
def layP (m : Nat) (s : Int) (x : Nat) : Bool := decide (s ≤ x ∧ (x : Int) < s + m)
def layF (fr : List C) (s : Int) (x : Nat) : C := fr.getD ((x : Int) - s).toNat z0
theorem meant_lay (row fr : List C) (s : Int) (h : Meant row) (hf : RightRow fr) : Meant (putRow row (layP fr.length s) (layF fr s)) := by
  obtain ⟨hm, hl⟩ := hf
  refine meant_put row _ _ h (fun x hx hp => ?_) (fun x hx hp hq h0 hw => ?_) (fun x hx hp hq h0 => ?_) (fun x hx hp hq hw => ?_)
  · unfold layP at hp; unfold layF
    simp only [decide_eq_true_eq] at hp
    have := hm (((x : Int) - s).toNat) (by omega)
    exact ⟨this.1, this.2.1⟩
  · unfold layP at hp hq; unfold layF at h0 hw ⊢
    simp only [decide_eq_true_eq] at hp hq
    have e : (((x + 1 : Nat) : Int) - s).toNat - 1 = ((x : Int) - s).toNat := by omega
    have := (hm ((((x + 1 : Nat) : Int) - s).toNat) (by omega)).2.2 h0 (by omega)
    rw [e] at this
    exact this hw
  · unfold layP at hp hq; unfold layF at h0
    simp only [decide_eq_true_eq, decide_eq_false_iff_not] at hp hq
    have e : (((x + 1 : Nat) : Int) - s).toNat = 0 := by omega
    rw [e] at h0
    have := hl 0 (by omega)
    unfold loose at this
    rw [if_pos h0] at this
    simp at this
  · unfold layP at hp hq; unfold layF at hw
    simp only [decide_eq_true_eq, decide_eq_false_iff_not] at hp hq
    have e : ((x : Int) - s).toNat + 1 = fr.length := by omega
    have := hl (((x : Int) - s).toNat) (by omega)
    unfold loose at this
    have hn : ¬ (fr.getD ((x : Int) - s).toNat z0).1 = 0 := by intro h; rw [h, wd0] at hw; exact absurd hw (by decide)
    rw [if_neg hn, e] at this
    simp [hw, -List.getD_eq_getElem?_getD] at this
/-- One rune written at x, where it has room. -/
def writeOne (look : Int × Int × Int) (row : List C) (x : Nat) (r : Int) : List C :=
  if wd r = 0 then row else if wd r = 2 then (row.set x (r, look)).set (x + 1) (0, look) else row.set x (r, look)
def writeR (look : Int × Int × Int) : List (Int × Nat) → List C → Nat → List C
  | [], row, _ => row
  | r :: rs, row, x => if (row.length : Int) - x < wd r.1 then row else writeR look rs (writeOne look row x r.1) (x + (wd r.1).toNat)
theorem writeOne_len (look : Int × Int × Int) (row : List C) (x : Nat) (r : Int) : (writeOne look row x r).length = row.length := by
  unfold writeOne; repeat' split
  all_goals simp
theorem writeR_len (look : Int × Int × Int) : ∀ (rs : List (Int × Nat)) (row : List C) (x : Nat), (writeR look rs row x).length = row.length
  | [], _, _ => rfl
  | r :: rs, row, x => by
    unfold writeR
    split
    · rfl
    · rw [writeR_len, writeOne_len]
theorem meant_one (look : Int × Int × Int) (row : List C) (x : Nat) (r : Int) (h : Meant row) (hs : isSt look = true) (hr : wd r ≤ (row.length : Int) - x) : Meant (writeOne look row x r) := by
  unfold writeOne
  by_cases h0 : wd r = 0
  · rw [if_pos h0]; exact h
  · rw [if_neg h0]
    have hn : r ≠ 0 := by intro h; rw [h, wd0] at h0; exact h0 rfl
    have hpos := wd_nonneg r
    by_cases h2 : wd r = 2
    · rw [if_pos h2]
      have e : (row.set x (r, look)).set (x + 1) (0, look) = putRow row (fun j => decide (j = x ∨ j = x + 1)) (fun j => if j = x then (r, look) else (0, look)) := by
        refine ext_getD _ _ (by simp [putRow_len]) fun j hj => ?_
        rw [List.length_set, List.length_set] at hj
        rw [getD_set _ _ _ _ (by rw [List.length_set]; omega), getD_set _ _ _ _ (by omega), putRow_at _ _ _ _ hj]
        by_cases h1 : j = x + 1
        · subst h1; simp
        · by_cases h3 : j = x
          · subst h3; simp
          · simp [h1, h3]
      rw [e]
      refine meant_put row _ _ h (fun j hj hp => ?_) (fun j hj hp hq hz hw => ?_) (fun j hj hp hq => ?_) (fun j hj hp hq => ?_)
      · by_cases h3 : j = x
        · rw [if_pos h3]; exact ⟨fun _ => h0, hs⟩
        · rw [if_neg h3]; exact ⟨fun h => absurd rfl h, hs⟩
      · simp only [decide_eq_true_eq] at hp hq
        by_cases h3 : j = x
        · rw [if_pos h3, if_neg (by omega)]
        · rw [if_neg h3] at hw; dsimp only at hw; rw [wd0] at hw; exact absurd hw (by decide)
      · simp only [decide_eq_true_eq, decide_eq_false_iff_not] at hp hq
        rw [if_pos (by omega)]; exact hn
      · simp only [decide_eq_true_eq, decide_eq_false_iff_not] at hp hq
        rw [if_neg (by omega), wd0]; decide
    · rw [if_neg h2]
      have e : row.set x (r, look) = putRow row (fun j => decide (j = x)) (fun _ => (r, look)) := by
        refine ext_getD _ _ (by simp [putRow_len]) fun j hj => ?_
        rw [List.length_set] at hj
        rw [getD_set _ _ _ _ (by omega), putRow_at _ _ _ _ hj]
        by_cases h3 : j = x
        · subst h3; simp
        · simp [h3]
      rw [e]
      have h1 : wd r ≠ 2 := h2
      exact meant_put row _ _ h (fun j hj hp => ⟨fun _ => h0, hs⟩) (fun j hj hp hq hz hw => absurd hz hn) (fun j hj hp hq => hn) (fun j hj hp hq => h1)
theorem meant_write (look : Int × Int × Int) (hs : isSt look = true) : ∀ (rs : List (Int × Nat)) (row : List C) (x : Nat), Meant row → Meant (writeR look rs row x)
  | [], _, _, h => h
  | r :: rs, row, x, h => by
    unfold writeR
    split
    · exact h
    · exact meant_write look hs rs _ _ (meant_one look row x r.1 h hs (by omega))
theorem replicate_right (n : Nat) : RightRow (List.replicate n (32, 0, 0, 0)) := by
  have hg : ∀ x, x < n → (List.replicate n ((32, 0, 0, 0) : C)).getD x z0 = (32, 0, 0, 0) := fun x hx => by simp [List.getD, hx]
  refine ⟨fun x hx => ?_, fun x hx => ?_⟩
  · rw [List.length_replicate] at hx
    rw [hg x hx]
    exact ⟨fun _ => by dsimp only; rw [wd32]; decide, by decide, fun h => absurd h (by decide)⟩
  · rw [List.length_replicate] at hx
    unfold loose
    rw [hg x hx, if_neg (by decide)]
    dsimp only
    rw [wd32]
    rfl
theorem rowAt_replicate (n hh y : Nat) (c : C) (hy : y < hh) : rowAt n (List.replicate (n * hh) c) y = List.replicate n c := by
  have h : (y + 1) * n ≤ hh * n := Nat.mul_le_mul_right _ hy
  rw [Nat.add_mul, Nat.one_mul, Nat.mul_comm hh n] at h
  unfold rowAt
  rw [List.drop_replicate, List.take_replicate]
  congr 1
  omega
end Grd
end Go.Proofs.YtinhmklpnkikgaaDoor

/- The reference's CheckGrid, its answer named. -/
namespace Go.Proofs.YtinhmklpnkikgaaDoor
open Go.ChangeShapes Go.WideShapes Go.ChangeAt Go.RowKit
namespace Grd
theorem ref_to (a h : Int) (v : Value) (cs : List C) (q : Int) (hq : gridErr a h cs = q) (w : World) (hS : SliceAt w v cs) :
    Calls Tryd.prog 12 #[.agg #[.int .i64 a, .int .i64 h, v]] w fun e w' => e = .returned (.int .i64 q) ∧ Below w.heap.size w w' := by
  have := ref_any a h v cs w hS
  rwa [hq] at this
theorem pos_of_ok (n hh : Nat) (cs : List C) (hok : gridErr n hh cs = 0) : cs ≠ [] ∧ cs.length ≤ 7200 := by
  obtain ⟨hsize, hL, _⟩ := (gridErr_zero n hh cs).1 hok
  have ⟨_, p1, p2, _, p4, _⟩ := prod_in n hh hsize
  refine ⟨fun h => ?_, ?_⟩
  · rw [h, List.length_nil] at hL
    have : 0 < n * hh := Nat.mul_pos (by omega) (by omega)
    omega
  · have : ((n * hh : Nat) : Int) ≤ 7200 := by rw [Int.natCast_mul]; exact p1
    omega
theorem SliceAt.open {w : World} {v : Value} {cs : List C} (h : SliceAt w v cs) (hne : cs ≠ []) : ∃ b o c, v = .slice (some ⟨b, o, none⟩) cs.length c ∧ cs.length ≤ c ∧ c ≤ 9223372036854775807 ∧ CellsAt w b o cs := by
  rcases h with ⟨h, _⟩ | ⟨_, h⟩
  · exact absurd h hne
  · exact h
theorem size_of_ok (a h : Int) (cs : List C) (hok : gridErr a h cs = 0) : ∃ n hh : Nat, a = (n : Int) ∧ h = (hh : Int) := by
  unfold gridErr at hok
  by_cases hs : isSize a h = false ∨ (cs.length : Int) ≠ a * h
  · rw [if_pos hs] at hok; exact absurd hok (by decide)
  · have h1 : isSize a h = true := by simpa using (not_or.1 hs).1
    have ⟨_, _, p2, _, p4, _⟩ := prod_in a h h1
    exact ⟨a.toNat, h.toNat, by omega, by omega⟩
end Grd
end Go.Proofs.YtinhmklpnkikgaaDoor

/- One cell stored into a row in the middle of a block. -/
namespace Go.Proofs.YtinhmklpnkikgaaDoor
open Go.ChangeShapes Go.WideShapes Go.ChangeAt Go.RowKit
namespace Grd
theorem set_take (L : List Value) (o : Nat) (v : Value) (h : o < L.length) : (L.set o v).take (o + 1) = L.take o ++ [v] := by
  rw [List.set_eq_take_append_cons_drop, if_pos h, List.take_append, List.length_take, Nat.min_eq_left (by omega), Nat.add_sub_cancel_left, List.take_of_length_le (by rw [List.length_take]; omega)]
  rfl
theorem set_drop (L : List Value) (o k : Nat) (v : Value) (h : o < k) : (L.set o v).drop k = L.drop k := by
  rw [List.drop_set, if_pos h]
theorem heap_setCells (g : Nat) (t : TypeId) : ∀ (vs : List Value) (o : Nat) (w : World) (L : List Value), w.heap[g]? = some (.cells L.toArray t (0, 0)) → o + vs.length ≤ L.length → (w.setCells g o vs).heap[g]? = some (.cells (L.take o ++ (vs ++ L.drop (o + vs.length))).toArray t (0, 0))
  | [], o, w, L, h, _ => by
    show w.heap[g]? = _
    rw [h]; simp
  | v :: r, o, w, L, h, hl => by
    rw [List.length_cons] at hl
    have h1 := heap_setCell_same w g o _ t v h
    have h2 := heap_setCells g t r (o + 1) (w.setCell ⟨g, o, none⟩ v) (L.set o v) (by rw [h1]; simp) (by rw [List.length_set]; omega)
    show ((w.setCell ⟨g, o, none⟩ v).setCells g (o + 1) r).heap[g]? = _
    rw [h2, set_take L o v (by omega), set_drop L o _ v (by omega), List.append_assoc, List.length_cons, show o + 1 + r.length = o + (r.length + 1) by omega]
    rfl
theorem words_len (c : C) : (words c).length = 4 := rfl
theorem flat_cut (cs : List C) (x : Nat) (h : x < cs.length) : flat cs = flat (cs.take x) ++ (words (cs.getD x z0) ++ flat (cs.drop (x + 1))) := by
  have e : cs = cs.take x ++ (cs.getD x z0 :: cs.drop (x + 1)) := by
    have : cs.getD x z0 = cs[x] := by simp [List.getD, h]
    rw [this, List.getElem_cons_drop, List.take_append_drop]
  conv => lhs; rw [e]
  rw [flat_append]; rfl
theorem flat_put (cs : List C) (x : Nat) (c : C) (h : x < cs.length) : flat (cs.set x c) = flat (cs.take x) ++ (words c ++ flat (cs.drop (x + 1))) := by
  rw [List.set_eq_take_append_cons_drop, if_pos h, flat_append]; rfl
/-- A cell stored at x of the row that lies behind 'pre'. -/
theorem store_cell {w : World} {g : Nat} {t : TypeId} {pre post : List Value} {cs : List C} (h : w.heap[g]? = some (.cells (pre ++ (flat cs ++ post)).toArray t (0, 0))) (x : Nat) (hx : x < cs.length) (c : C) :
    (w.setCells g (pre.length + x * 4) (words c)).heap[g]? = some (.cells (pre ++ (flat (cs.set x c) ++ post)).toArray t (0, 0)) := by
  have hl : (flat (cs.take x)).length = x * 4 := by rw [flat_len, List.length_take, Nat.min_eq_left (by omega)]
  have h1 := heap_setCells g t (words c) (pre.length + x * 4) w _ h (by
    rw [List.length_append, List.length_append, flat_len, words_len]; omega)
  rw [h1, flat_put cs x c hx, flat_cut cs x hx]
  have e1 : (pre ++ ((flat (cs.take x) ++ (words (cs.getD x z0) ++ flat (cs.drop (x + 1)))) ++ post)).take (pre.length + x * 4) = pre ++ flat (cs.take x) := by
    rw [List.take_append, List.take_of_length_le (by omega), Nat.add_sub_cancel_left, List.append_assoc, List.take_left' hl]
  have e2 : (pre ++ ((flat (cs.take x) ++ (words (cs.getD x z0) ++ flat (cs.drop (x + 1)))) ++ post)).drop (pre.length + x * 4 + (words c).length) = flat (cs.drop (x + 1)) ++ post := by
    rw [words_len, Nat.add_assoc, List.drop_append, List.drop_of_length_le (by omega), Nat.add_sub_cancel_left, List.append_assoc, ← hl, List.drop_append, List.drop_of_length_le (by omega), Nat.add_sub_cancel_left, List.append_assoc]
    rfl
  rw [e1, e2]
  simp only [List.append_assoc]
theorem there_cell {w : World} {g : Nat} {t : TypeId} {pre post : List Value} {cs : List C} (h : w.heap[g]? = some (.cells (pre ++ (flat cs ++ post)).toArray t (0, 0))) (x : Nat) (hx : x < cs.length) : w.there g (pre.length + x * 4) 4 := fun j hj => by
  refine ⟨?_, frozen_of h _⟩
  unfold World.cell?
  rw [h]
  have : pre.length + x * 4 + j < (pre ++ (flat cs ++ post)).length := by rw [List.length_append, List.length_append, flat_len]; omega
  simp [List.getElem?_eq_getElem this]
theorem range_cell {w : World} {b o : Nat} {cs : List C} (h : CellsAt w b o cs) (x : Nat) (hx : x < cs.length) : w.rangeAt b (o + x * 4) (words (cs.getD x z0)) := fun j v hv => by
  obtain ⟨h0, h1, h2, h3⟩ := h x hx
  have hj : j < 4 := by have := (List.getElem?_eq_some_iff.1 hv).1; rwa [words_len] at this
  match j, hj with
  | 0, _ => rw [← hv]; exact h0
  | 1, _ => rw [← hv]; exact h1
  | 2, _ => rw [← hv]; exact h2
  | 3, _ => rw [← hv]; exact h3
theorem words_agg (c : C) : (.agg (words c).toArray : Value) = .agg #[.int .i32 c.1, .int .i64 c.2.1, .int .i64 c.2.2.1, .int .i64 c.2.2.2] := rfl
theorem words_one (c : C) : (#[.int .i32 c.1, .int .i64 c.2.1, .int .i64 c.2.2.1, .int .i64 c.2.2.2] : Array Value).all (·.oneCell') = true := by simp [Value.oneCell']
end Grd
end Go.Proofs.YtinhmklpnkikgaaDoor

/- The walk of grid.Fill. -/
namespace Go.Proofs.YtinhmklpnkikgaaDoor
open Go.ChangeShapes Go.WideShapes Go.ChangeAt Go.RowKit
namespace Grd
open Txt (wd)
open Sty (isSt)
def inside (at' long : Int) (size : Nat) (x : Nat) : Bool := decide (max (nearI at') 0 ≤ (x : Int) ∧ (x : Int) < min (nearI at' + nearI long) size)
def fillF (n hh : Nat) (rx ry rw rh : Int) (c : C) (y : Nat) (row : List C) : List C := if inside ry rh hh y then mendL (putRow row (inside rx rw n) fun _ => c) else row
def fillG (n hh : Nat) (cs : List C) (rx ry rw rh : Int) (c : C) : List C := preF n cs (fillF n hh rx ry rw rh c) hh
theorem fillF_len (n hh : Nat) (rx ry rw rh : Int) (c : C) : KeepLen n (fillF n hh rx ry rw rh c) := fun y row h => by
  unfold fillF
  split
  · rw [mendL_len, putRow_len, h]
  · exact h
theorem near_in (a : Int) : -1000 ≤ nearI a ∧ nearI a ≤ 1000 := by unfold nearI; omega
/-- The cells when the rows below k are done. -/
def upto (n hh : Nat) (cs : List C) (f : Nat → List C → List C) (k : Nat) : List C := preF n cs f (min k hh) ++ cs.drop (min k hh * n)
theorem upto_start (n hh : Nat) (cs : List C) (f : Nat → List C → List C) (k : Nat) (h : ∀ y, y < k → f y (rowAt n cs y) = rowAt n cs y) : upto n hh cs f k = cs := by
  unfold upto
  rw [preF_id n cs f _ (fun y hy => h y (by omega)), List.take_append_drop]
theorem upto_end (n hh : Nat) (cs : List C) (f : Nat → List C → List C) (hL : cs.length = n * hh) (k : Nat) (h : ∀ y, k ≤ y → f y (rowAt n cs y) = rowAt n cs y) : upto n hh cs f k = preF n cs f hh := by
  unfold upto
  by_cases hk : k ≤ hh
  · rw [Nat.min_eq_left hk]
    exact (preF_rest n hh cs f hL k (hh - k) (by omega) (fun y h1 _ => h y h1)).symm
  · rw [Nat.min_eq_right (by omega), List.drop_of_length_le (by rw [hL, Nat.mul_comm]; exact Nat.le_refl _), List.append_nil]
theorem upto_at (n hh : Nat) (cs : List C) (f : Nat → List C → List C) (k : Nat) (hk : k < hh) : upto n hh cs f k = preF n cs f k ++ (rowAt n cs k ++ cs.drop ((k + 1) * n)) := by
  unfold upto
  rw [Nat.min_eq_left (by omega), drop_row]
theorem upto_next (n hh : Nat) (cs : List C) (f : Nat → List C → List C) (k : Nat) (hk : k < hh) : upto n hh cs f (k + 1) = preF n cs f k ++ (f k (rowAt n cs k) ++ cs.drop ((k + 1) * n)) := by
  unfold upto
  rw [Nat.min_eq_left (by omega)]
  show (preF n cs f k ++ f k (rowAt n cs k)) ++ _ = _
  rw [List.append_assoc]
theorem upto_len (n hh : Nat) (cs : List C) (f : Nat → List C → List C) (hL : cs.length = n * hh) (hf : KeepLen n f) (k : Nat) : (upto n hh cs f k).length = cs.length := by
  unfold upto
  rw [List.length_append, preF_len n hh cs f hL hf _ (by omega), List.length_drop]
  have : min k hh * n ≤ cs.length := by rw [hL, Nat.mul_comm n hh]; exact Nat.mul_le_mul_right _ (by omega)
  omega
theorem flat_three (a b c : List C) (rest : List Value) : flat (a ++ (b ++ c)) ++ rest = flat a ++ (flat b ++ (flat c ++ rest)) := by
  rw [flat_append, flat_append]; simp only [List.append_assoc]
theorem alloc4 (w : World) (o0 o1 o2 o3 : Obj) : ((((w.alloc o0).alloc o1).alloc o2).alloc o3).heap[w.heap.size]? = some o0 ∧ ((((w.alloc o0).alloc o1).alloc o2).alloc o3).heap[w.heap.size + 1]? = some o1 ∧
    ((((w.alloc o0).alloc o1).alloc o2).alloc o3).heap[w.heap.size + 2]? = some o2 ∧ ((((w.alloc o0).alloc o1).alloc o2).alloc o3).heap[w.heap.size + 3]? = some o3 ∧
    Below w.heap.size w ((((w.alloc o0).alloc o1).alloc o2).alloc o3) ∧ ((((w.alloc o0).alloc o1).alloc o2).alloc o3).heap.size = w.heap.size + 4 := by
  have s1 : (w.alloc o0).heap.size = w.heap.size + 1 := by simp
  have s2 : ((w.alloc o0).alloc o1).heap.size = w.heap.size + 2 := by simp
  have s3 : (((w.alloc o0).alloc o1).alloc o2).heap.size = w.heap.size + 3 := by simp
  refine ⟨?_, ?_, ?_, ?_, (((Below.refl _ _).alloc (Nat.le_refl _) _).alloc (by omega) _ |>.alloc (by omega) _).alloc (by omega) _, by simp⟩
  · rw [Below.heap_alloc _ _ _ (by omega), Below.heap_alloc _ _ _ (by omega), Below.heap_alloc _ _ _ (by omega), heap_alloc_new]
  · rw [Below.heap_alloc _ _ _ (by omega), Below.heap_alloc _ _ _ (by omega), ← s1, heap_alloc_new]
  · rw [Below.heap_alloc _ _ _ (by omega), ← s2, heap_alloc_new]
  · rw [← s3, heap_alloc_new]
theorem alloc3 (w : World) (o0 o1 o2 : Obj) : (((w.alloc o0).alloc o1).alloc o2).heap[w.heap.size]? = some o0 ∧ (((w.alloc o0).alloc o1).alloc o2).heap[w.heap.size + 1]? = some o1 ∧
    (((w.alloc o0).alloc o1).alloc o2).heap[w.heap.size + 2]? = some o2 ∧
    Below w.heap.size w (((w.alloc o0).alloc o1).alloc o2) ∧ (((w.alloc o0).alloc o1).alloc o2).heap.size = w.heap.size + 3 := by
  have s1 : (w.alloc o0).heap.size = w.heap.size + 1 := by simp
  have s2 : ((w.alloc o0).alloc o1).heap.size = w.heap.size + 2 := by simp
  refine ⟨?_, ?_, ?_, (((Below.refl _ _).alloc (Nat.le_refl _) _).alloc (by omega) _).alloc (by omega) _, by simp⟩
  · rw [Below.heap_alloc _ _ _ (by omega), Below.heap_alloc _ _ _ (by omega), heap_alloc_new]
  · rw [Below.heap_alloc _ _ _ (by omega), ← s1, heap_alloc_new]
  · rw [← s2, heap_alloc_new]
theorem near_same (n : Int) (w : World) : Calls Tryd.prog 44 #[.int .i64 n] w fun e w' => e = .returned (.int .i64 (nearI n)) ∧ w' = w := (near_any n w).mono fun _ _ h => ⟨h.1, h.2.symm⟩
theorem reach_same (p l : Int) (s : Int) (w : World) : Calls Tryd.prog 43 #[.int .i64 (nearI p), .int .i64 (nearI l), .int .i64 s] w fun e w' => e = .returned (.tuple #[.int .i64 (max (nearI p) 0), .int .i64 (min (nearI p + nearI l) s)]) ∧ w' = w :=
  (reach_any _ _ s w (by have := near_in p; omega) (by have := near_in p; omega) (by have := near_in l; omega) (by have := near_in l; omega)).mono fun _ _ h => ⟨h.1, h.2.symm⟩
set_option maxHeartbeats 1000000 in
theorem fill_bad1 (a h : Int) (v : Value) (cs : List C) (rx ry rw rh r f bk x : Int) (w : World) (hT : Txt.Tab w) (hS : SliceAt w v cs) (hok : gridErr a h cs ≠ 0) :
    Calls Tryd.prog 18 #[.agg #[.int .i64 a, .int .i64 h, v], .agg #[.int .i64 rx, .int .i64 ry, .int .i64 rw, .int .i64 rh], .agg #[.int .i32 r, .int .i64 f, .int .i64 bk, .int .i64 x]] w fun e w' => e = .returned (.tuple #[.agg #[.int .i64 0, .int .i64 0, .slice none 0 0], .int .i64 (gridErr a h cs)]) ∧ Below w.heap.size w w' := by
  obtain ⟨_, _, _, x3, kk, hsz⟩ := alloc4 w (.cells #[.int .i64 a, .int .i64 h, v] 24) (.cells #[.int .i64 rx, .int .i64 ry, .int .i64 rw, .int .i64 rh] 36) (.cells #[.int .i32 r, .int .i64 f, .int .i64 bk, .int .i64 x] 40) (.cells #[.int .i64 0, .int .i64 0, .slice none 0 0] 24)
  have HK := check_any a h v cs _ (Tab.next hT kk) (hS.below kk)
  generalize hW0 : ((((w.alloc (.cells #[.int .i64 a, .int .i64 h, v] 24)).alloc (.cells #[.int .i64 rx, .int .i64 ry, .int .i64 rw, .int .i64 rh] 36)).alloc (.cells #[.int .i32 r, .int .i64 f, .int .i64 bk, .int .i64 x] 40)).alloc (.cells #[.int .i64 0, .int .i64 0, .slice none 0 0] 24)) = W0 at x3 kk hsz HK
  have HW0 : Hid (_ = W0) := hW0
  generalize gridErr a h cs = er at *
  have HK' : Hid (Calls Tryd.prog 11 #[.agg #[.int .i64 a, .int .i64 h, v]] W0 fun e w' => e = .returned (.int .i64 er) ∧ Below W0.heap.size W0 w') := HK
  have ne : (er != 0) = true := by simpa using hok
  clear HK hW0 hok
  go_enter Tryd.func18, Tryd.ntmps18
  go_wp2_with (first
    | (go_at_call 11; rw [HW0.out]; refine HK'.out.mono ?_; rintro e W1 ⟨rfl, b1⟩; have y3 := carry x3 b1)
    | (refine wpList_store_row rfl 24 (.tmp 6) _ rfl (w.heap.size + 3) #[.int .i64 0, .int .i64 0, .slice none 0 0] rfl rfl _ _ y3 (by kernel_rfl) rfl (one3v _ _ _ _ _) ?_))
  (try simp only [Exit.inBlock, Exit.then])
  refine bodyPost_ret (v := .tuple #[.agg #[.int .i64 0, .int .i64 0, .slice none 0 0], .int .i64 er]) ?_ rfl ⟨rfl, below_setRow (kk.trans (b1.mono kk.size)) (by omega) _⟩
  exact results_row_tmp rfl _ _ (w.heap.size + 3) _ _ _ _ rfl (setRow_heap _ _ _ _ _ _ y3) Tryd.underlying24 rfl (by kernel_rfl) _ rfl
end Grd
end Go.Proofs.YtinhmklpnkikgaaDoor

/- The walk of grid.Fill: the wrong cell, and the right one. -/
namespace Go.Proofs.YtinhmklpnkikgaaDoor
open Go.ChangeShapes Go.WideShapes Go.ChangeAt Go.RowKit
namespace Grd
open Txt (wd)
open Sty (isSt)
theorem check_ok (a h : Int) (v : Value) (cs : List C) (w : World) (hT : Txt.Tab w) (hS : SliceAt w v cs) (hok : gridErr a h cs = 0) :
    Calls Tryd.prog 11 #[.agg #[.int .i64 a, .int .i64 h, v]] w fun e w' => e = .returned (.int .i64 0) ∧ Below w.heap.size w w' := by
  have := check_any a h v cs w hT hS
  rwa [hok] at this
set_option maxHeartbeats 1000000 in
theorem fill_bad2 (a h : Int) (v : Value) (cs : List C) (rx ry rw rh r f bk x : Int) (w : World) (hT : Txt.Tab w) (hS : SliceAt w v cs) (hok : gridErr a h cs = 0) (hr : wd r ≠ 1) :
    Calls Tryd.prog 18 #[.agg #[.int .i64 a, .int .i64 h, v], .agg #[.int .i64 rx, .int .i64 ry, .int .i64 rw, .int .i64 rh], .agg #[.int .i32 r, .int .i64 f, .int .i64 bk, .int .i64 x]] w fun e w' => e = .returned (.tuple #[.agg #[.int .i64 0, .int .i64 0, .slice none 0 0], .int .i64 4]) ∧ Below w.heap.size w w' := by
  obtain ⟨_, _, x2, x3, kk, hsz⟩ := alloc4 w (.cells #[.int .i64 a, .int .i64 h, v] 24) (.cells #[.int .i64 rx, .int .i64 ry, .int .i64 rw, .int .i64 rh] 36) (.cells #[.int .i32 r, .int .i64 f, .int .i64 bk, .int .i64 x] 40) (.cells #[.int .i64 0, .int .i64 0, .slice none 0 0] 24)
  have HK := check_ok a h v cs _ (Tab.next hT kk) (hS.below kk) hok
  have HT : Hid (∀ W, Below w.heap.size w W → Txt.Tab W) := fun W k => Tab.next hT k
  clear hT hS hok
  generalize hW0 : ((((w.alloc (.cells #[.int .i64 a, .int .i64 h, v] 24)).alloc (.cells #[.int .i64 rx, .int .i64 ry, .int .i64 rw, .int .i64 rh] 36)).alloc (.cells #[.int .i32 r, .int .i64 f, .int .i64 bk, .int .i64 x] 40)).alloc (.cells #[.int .i64 0, .int .i64 0, .slice none 0 0] 24)) = W0 at x2 x3 kk hsz HK
  have HW0 : Hid (_ = W0) := hW0
  have HK' : Hid (Calls Tryd.prog 11 #[.agg #[.int .i64 a, .int .i64 h, v]] W0 fun e w' => e = .returned (.int .i64 0) ∧ Below W0.heap.size W0 w') := HK
  obtain ⟨wr, hwr⟩ : ∃ q, wd r = q := ⟨_, rfl⟩
  have HR : Hid (wd r = wr) := hwr
  rw [hwr] at hr
  have ne : (wr != 1) = true := by simpa using hr
  clear HK hW0 hwr hr
  go_enter Tryd.func18, Tryd.ntmps18
  go_wp2_with (first
    | (go_at_call 11; rw [HW0.out]; refine HK'.out.mono ?_; rintro e W1 ⟨rfl, b1⟩; have k1 := kk.trans (b1.mono kk.size); have y3 := carry x3 b1; have ⟨c0, c1, c2, c3⟩ := cells4 (carry x2 b1))
    | (go_at_call 40; refine (width_to r _ (HT.out _ k1) _ HR.out).mono ?_; rintro e W2 ⟨rfl, b2⟩; have k2 := k1.trans (b2.mono k1.size); have z3 := carry y3 b2)
    | (refine wpList_store_row rfl 24 (.tmp 6) _ rfl (w.heap.size + 3) #[.int .i64 0, .int .i64 0, .slice none 0 0] rfl rfl _ _ z3 (by kernel_rfl) rfl (one3v _ _ _ _ _) ?_))
  (try simp only [Exit.inBlock, Exit.then])
  refine bodyPost_ret (v := .tuple #[.agg #[.int .i64 0, .int .i64 0, .slice none 0 0], .int .i64 4]) ?_ rfl ⟨rfl, below_setRow k2 (by omega) _⟩
  exact results_row_tmp rfl _ _ (w.heap.size + 3) _ _ _ _ rfl (setRow_heap _ _ _ _ _ _ z3) Tryd.underlying24 rfl (by kernel_rfl) _ rfl
set_option maxHeartbeats 1000000 in
theorem fill_bad3 (a h : Int) (v : Value) (cs : List C) (rx ry rw rh r f bk x : Int) (w : World) (hT : Txt.Tab w) (hS : SliceAt w v cs) (hok : gridErr a h cs = 0) (hr : wd r = 1) (hs : isSt (f, bk, x) = false) :
    Calls Tryd.prog 18 #[.agg #[.int .i64 a, .int .i64 h, v], .agg #[.int .i64 rx, .int .i64 ry, .int .i64 rw, .int .i64 rh], .agg #[.int .i32 r, .int .i64 f, .int .i64 bk, .int .i64 x]] w fun e w' => e = .returned (.tuple #[.agg #[.int .i64 0, .int .i64 0, .slice none 0 0], .int .i64 4]) ∧ Below w.heap.size w w' := by
  obtain ⟨_, _, x2, x3, kk, hsz⟩ := alloc4 w (.cells #[.int .i64 a, .int .i64 h, v] 24) (.cells #[.int .i64 rx, .int .i64 ry, .int .i64 rw, .int .i64 rh] 36) (.cells #[.int .i32 r, .int .i64 f, .int .i64 bk, .int .i64 x] 40) (.cells #[.int .i64 0, .int .i64 0, .slice none 0 0] 24)
  have HK := check_ok a h v cs _ (Tab.next hT kk) (hS.below kk) hok
  have HT : Hid (∀ W, Below w.heap.size w W → Txt.Tab W) := fun W k => Tab.next hT k
  clear hT hS hok
  generalize hW0 : ((((w.alloc (.cells #[.int .i64 a, .int .i64 h, v] 24)).alloc (.cells #[.int .i64 rx, .int .i64 ry, .int .i64 rw, .int .i64 rh] 36)).alloc (.cells #[.int .i32 r, .int .i64 f, .int .i64 bk, .int .i64 x] 40)).alloc (.cells #[.int .i64 0, .int .i64 0, .slice none 0 0] 24)) = W0 at x2 x3 kk hsz HK
  have HW0 : Hid (_ = W0) := hW0
  have HK' : Hid (Calls Tryd.prog 11 #[.agg #[.int .i64 a, .int .i64 h, v]] W0 fun e w' => e = .returned (.int .i64 0) ∧ Below W0.heap.size W0 w') := HK
  have HR : Hid (wd r = 1) := hr
  have HS : Hid (isSt (f, bk, x) = false) := hs
  clear HK hW0 hr hs
  go_enter Tryd.func18, Tryd.ntmps18
  go_wp2_with (first
    | (go_at_call 11; rw [HW0.out]; refine HK'.out.mono ?_; rintro e W1 ⟨rfl, b1⟩; have k1 := kk.trans (b1.mono kk.size); have y3 := carry x3 b1; have y2 := carry x2 b1; have ⟨c0, c1, c2, c3⟩ := cells4 y2)
    | (go_at_call 40; refine (width_to r _ (HT.out _ k1) _ HR.out).mono ?_; rintro e W2 ⟨rfl, b2⟩; have k2 := k1.trans (b2.mono k1.size); have z3 := carry y3 b2; have ⟨d0, d1, d2, d3⟩ := cells4 (carry y2 b2))
    | (go_at_call 41; refine (check_to f bk x _ HS.out _).mono ?_; rintro e W3 ⟨rfl, b3⟩; have k3 := k2.trans (b3.mono k2.size); have u3 := carry z3 b3)
    | (refine wpList_store_row rfl 24 (.tmp 6) _ rfl (w.heap.size + 3) #[.int .i64 0, .int .i64 0, .slice none 0 0] rfl rfl _ _ u3 (by kernel_rfl) rfl (one3v _ _ _ _ _) ?_))
  (try simp only [Exit.inBlock, Exit.then])
  refine bodyPost_ret (v := .tuple #[.agg #[.int .i64 0, .int .i64 0, .slice none 0 0], .int .i64 4]) ?_ rfl ⟨rfl, below_setRow k3 (by omega) _⟩
  exact results_row_tmp rfl _ _ (w.heap.size + 3) _ _ _ _ rfl (setRow_heap _ _ _ _ _ _ u3) Tryd.underlying24 rfl (by kernel_rfl) _ rfl
end Grd
end Go.Proofs.YtinhmklpnkikgaaDoor

/- holds. -/
namespace Go.Proofs.YtinhmklpnkikgaaDoor
open Go.ChangeShapes Go.WideShapes Go.ChangeAt Go.RowKit
namespace Grd
def holdsI (n hh : Nat) (x y a b : Int) : Bool := decide (0 < a ∧ 0 < b ∧ 0 ≤ x ∧ 0 ≤ y ∧ a ≤ (n : Int) - x ∧ b ≤ (hh : Int) - y)
set_option maxHeartbeats 4000000 in
theorem holds_any (n hh : Nat) (v : Value) (x y a b : Int) (w : World) (hn : n ≤ 120) (hh' : hh ≤ 60) (hx0 : -9223372036854775808 ≤ x) (hx1 : x ≤ 9223372036854775807) (hy0 : -9223372036854775808 ≤ y) (hy1 : y ≤ 9223372036854775807) :
    Calls Tryd.prog 47 #[.agg #[.int .i64 (n : Int), .int .i64 (hh : Int), v], .agg #[.int .i64 x, .int .i64 y, .int .i64 a, .int .i64 b]] w fun e w' => e = .returned (.bool (holdsI n hh x y a b)) ∧ Below w.heap.size w w' := by
  have kk : Below w.heap.size w ((w.alloc (.cells #[.int .i64 (n : Int), .int .i64 (hh : Int), v] 24)).alloc (.cells #[.int .i64 x, .int .i64 y, .int .i64 a, .int .i64 b] 36)) := ((Below.refl _ _).alloc (Nat.le_refl _) _).alloc (by simp) _
  by_cases h1 : 0 < a
  · by_cases h2 : 0 < b
    · by_cases h3 : 0 ≤ x
      · by_cases h4 : 0 ≤ y
        · by_cases h5 : a ≤ (n : Int) - x
          · have e : holdsI n hh x y a b = decide (b ≤ (hh : Int) - y) := by unfold holdsI; rw [decide_eq_decide]; omega
            rw [e]
            go_enter Tryd.func47, Tryd.ntmps47
            go_wp2_with fail
            go_ret
            exact ⟨rfl, kk⟩
          · have e : holdsI n hh x y a b = false := by unfold holdsI; rw [decide_eq_false_iff_not]; omega
            rw [e]
            have g5 : decide (a ≤ (n : Int) - x) = false := by rw [decide_eq_false_iff_not]; exact h5
            go_enter Tryd.func47, Tryd.ntmps47
            go_wp2_with fail
            go_ret
            exact ⟨rfl, kk⟩
        · have e : holdsI n hh x y a b = false := by unfold holdsI; rw [decide_eq_false_iff_not]; omega
          rw [e]
          have g4 : decide (0 ≤ y) = false := by rw [decide_eq_false_iff_not]; exact h4
          go_enter Tryd.func47, Tryd.ntmps47
          go_wp2_with fail
          go_ret
          exact ⟨rfl, kk⟩
      · have e : holdsI n hh x y a b = false := by unfold holdsI; rw [decide_eq_false_iff_not]; omega
        rw [e]
        have g3 : decide (0 ≤ x) = false := by rw [decide_eq_false_iff_not]; exact h3
        go_enter Tryd.func47, Tryd.ntmps47
        go_wp2_with fail
        go_ret
        exact ⟨rfl, kk⟩
    · have e : holdsI n hh x y a b = false := by unfold holdsI; rw [decide_eq_false_iff_not]; omega
      rw [e]
      have g2 : decide (0 < b) = false := by rw [decide_eq_false_iff_not]; exact h2
      go_enter Tryd.func47, Tryd.ntmps47
      go_wp2_with fail
      go_ret
      exact ⟨rfl, kk⟩
  · have e : holdsI n hh x y a b = false := by unfold holdsI; rw [decide_eq_false_iff_not]; omega
    rw [e]
    have g1 : decide (0 < a) = false := by rw [decide_eq_false_iff_not]; exact h1
    go_enter Tryd.func47, Tryd.ntmps47
    go_wp2_with fail
    go_ret
    exact ⟨rfl, kk⟩
end Grd
end Go.Proofs.YtinhmklpnkikgaaDoor

/- Plain mathematics on the runes of a text, over the model's own decoding of UTF-8: no program is named. -/
namespace Go.Proofs.YtinhmklpnkikgaaDoor
namespace Txt

/-- The runes of s from place pos on, each with how many bytes it takes; at most so many. -/
def rs (s : ByteArray) : Nat → Nat → List (Int × Nat)
  | 0, _ => []
  | f + 1, pos => if pos < s.size then (((Utf8.decode s pos).1 : Int), (Utf8.decode s pos).2) :: rs s f (pos + (Utf8.decode s pos).2) else []
def runes (s : ByteArray) : List (Int × Nat) := rs s s.size 0
def wideL : List (Int × Nat) → Int
  | [] => 0
  | x :: t => wd x.1 + wideL t
def wideS (s : ByteArray) : Int := wideL (runes s)
/-- How many bytes of a text's runes are left when it is cut: 'w' cells have been taken. -/
def cutL (n : Int) : List (Int × Nat) → Int → Nat
  | [], _ => 0
  | x :: t, w => if n < w + wd x.1 then 0 else x.2 + cutL n t (w + wd x.1)
def cutS (s : ByteArray) (n : Int) : List UInt8 := s.data.toList.take (cutL n (runes s) 0)

theorem width_pos (s : ByteArray) (pos : Nat) (h : pos < s.size) : 1 ≤ (Utf8.decode s pos).2 := by
  by_cases ha : (s[pos]'h).toNat < 128
  · rw [decode_ascii s pos h ha]
    exact Nat.le_refl _
  · exact (decode_high s pos h (by omega)).2
theorem rs_end (s : ByteArray) (f pos : Nat) (h : ¬ pos < s.size) : rs s f pos = [] := by
  cases f with
  | zero => rfl
  | succ f => simp [rs, h]
theorem rs_step (s : ByteArray) (f pos : Nat) (h : pos < s.size) : rs s (f + 1) pos = (((Utf8.decode s pos).1 : Int), (Utf8.decode s pos).2) :: rs s f (pos + (Utf8.decode s pos).2) := by
  simp [rs, h]
theorem decode_fits (s : ByteArray) (pos : Nat) (h : pos < s.size) : pos + (Utf8.decode s pos).2 ≤ s.size := by
  simp only [Utf8.decode]
  repeat' split
  all_goals simp_all
  all_goals omega
theorem wideL_range : ∀ l : List (Int × Nat), 0 ≤ wideL l ∧ wideL l ≤ 2 * l.length
  | [] => by simp [wideL]
  | x :: t => by
    have := wideL_range t
    have := wd_range x.1
    simp only [wideL, List.length_cons]
    omega
theorem rs_length (s : ByteArray) : ∀ f pos : Nat, pos ≤ s.size → (rs s f pos).length + pos ≤ s.size
  | 0, _, h => by simpa [rs] using h
  | f + 1, pos, h => by
    by_cases hp : pos < s.size
    · have h1 := rs_length s f (pos + (Utf8.decode s pos).2) (decode_fits s pos hp)
      have h2 := width_pos s pos hp
      rw [rs_step s f pos hp, List.length_cons]
      omega
    · rw [rs_end s _ pos hp]; simpa using h
theorem wideS_range (s : ByteArray) : 0 ≤ wideS s ∧ wideS s ≤ 2 * s.size := by
  have h1 := wideL_range (runes s)
  have h2 := rs_length s s.size 0 (Nat.zero_le _)
  unfold wideS
  unfold runes at h1 ⊢
  omega
end Txt
end Go.Proofs.YtinhmklpnkikgaaDoor

/- The walk of grid.Write: what is refused. -/
namespace Go.Proofs.YtinhmklpnkikgaaDoor
open Go.ChangeShapes Go.WideShapes Go.ChangeAt Go.RowKit
namespace Grd
open Txt (wd)
open Sty (isSt)
theorem Apart.iterNew {N : Nat} {S : List Nat} {a b : World} (h : Apart N S a b) (g : Nat) (s : ByteArray) (p : Nat) (hg : a.heap.size ≤ g) (hN : N ≤ g) : Apart N S a (b.iterAt g s p) :=
  ⟨Lib.below_iterAt h.1 hN s p, fun i hi hl => (Lib.iterAt_other _ _ _ _ _ (by omega)).trans (h.2 i hi hl)⟩
theorem holds_to (n hh : Nat) (v : Value) (x y a b : Int) (q : Bool) (hq : holdsI n hh x y a b = q) (w : World) (hn : n ≤ 120) (hh' : hh ≤ 60) (hx0 : -9223372036854775808 ≤ x) (hx1 : x ≤ 9223372036854775807) (hy0 : -9223372036854775808 ≤ y) (hy1 : y ≤ 9223372036854775807) :
    Calls Tryd.prog 47 #[.agg #[.int .i64 (n : Int), .int .i64 (hh : Int), v], .agg #[.int .i64 x, .int .i64 y, .int .i64 a, .int .i64 b]] w fun e w' => e = .returned (.bool q) ∧ Below w.heap.size w w' := by
  have := holds_any n hh v x y a b w hn hh' hx0 hx1 hy0 hy1
  rwa [hq] at this
set_option maxHeartbeats 1000000 in
theorem write_bad1 (a h : Int) (v : Value) (cs : List C) (px py f bk x : Int) (s : ByteArray) (w : World) (hT : Txt.Tab w) (hS : SliceAt w v cs) (hok : gridErr a h cs ≠ 0) :
    Calls Tryd.prog 22 #[.agg #[.int .i64 a, .int .i64 h, v], .int .i64 px, .int .i64 py, .string s, .agg #[.int .i64 f, .int .i64 bk, .int .i64 x]] w fun e w' => e = .returned (.tuple #[.agg #[.int .i64 0, .int .i64 0, .slice none 0 0], .int .i64 (gridErr a h cs)]) ∧ Below w.heap.size w w' := by
  obtain ⟨_, _, x2, kk, hsz⟩ := alloc3 w (.cells #[.int .i64 a, .int .i64 h, v] 24) (.cells #[.int .i64 f, .int .i64 bk, .int .i64 x] 38) (.cells #[.int .i64 0, .int .i64 0, .slice none 0 0] 24)
  have HK := check_any a h v cs _ (Tab.next hT kk) (hS.below kk)
  generalize hW0 : (((w.alloc (.cells #[.int .i64 a, .int .i64 h, v] 24)).alloc (.cells #[.int .i64 f, .int .i64 bk, .int .i64 x] 38)).alloc (.cells #[.int .i64 0, .int .i64 0, .slice none 0 0] 24)) = W0 at x2 kk hsz HK
  have HW0 : Hid (_ = W0) := hW0
  generalize gridErr a h cs = er at *
  have HK' : Hid (Calls Tryd.prog 11 #[.agg #[.int .i64 a, .int .i64 h, v]] W0 fun e w' => e = .returned (.int .i64 er) ∧ Below W0.heap.size W0 w') := HK
  have ne : (er != 0) = true := by simpa using hok
  clear HK hW0 hok
  go_enter Tryd.func22, Tryd.ntmps22
  go_wp2_with (first
    | (go_at_call 11; rw [HW0.out]; refine HK'.out.mono ?_; rintro e W1 ⟨rfl, b1⟩; have y2 := carry x2 b1)
    | (refine wpList_store_row rfl 24 (.tmp 10) _ rfl (w.heap.size + 2) #[.int .i64 0, .int .i64 0, .slice none 0 0] rfl rfl _ _ y2 (by kernel_rfl) rfl (one3v _ _ _ _ _) ?_))
  (try simp only [Exit.inBlock, Exit.then])
  refine bodyPost_ret (v := .tuple #[.agg #[.int .i64 0, .int .i64 0, .slice none 0 0], .int .i64 er]) ?_ rfl ⟨rfl, below_setRow (kk.trans (b1.mono kk.size)) (by omega) _⟩
  exact results_row_tmp rfl _ _ (w.heap.size + 2) _ _ _ _ rfl (setRow_heap _ _ _ _ _ _ y2) Tryd.underlying24 rfl (by kernel_rfl) _ rfl
set_option maxHeartbeats 1000000 in
theorem write_bad2 (n hh : Nat) (v : Value) (cs : List C) (px py f bk x : Int) (s : ByteArray) (w : World) (hT : Txt.Tab w) (hS : SliceAt w v cs) (hok : gridErr n hh cs = 0) (hx0 : -9223372036854775808 ≤ px) (hx1 : px ≤ 9223372036854775807) (hy0 : -9223372036854775808 ≤ py) (hy1 : py ≤ 9223372036854775807) (hold : holdsI n hh px py 1 1 = false) :
    Calls Tryd.prog 22 #[.agg #[.int .i64 (n : Int), .int .i64 (hh : Int), v], .int .i64 px, .int .i64 py, .string s, .agg #[.int .i64 f, .int .i64 bk, .int .i64 x]] w fun e w' => e = .returned (.tuple #[.agg #[.int .i64 0, .int .i64 0, .slice none 0 0], .int .i64 4]) ∧ Below w.heap.size w w' := by
  obtain ⟨x0, x1, x2, kk, hsz⟩ := alloc3 w (.cells #[.int .i64 (n : Int), .int .i64 (hh : Int), v] 24) (.cells #[.int .i64 f, .int .i64 bk, .int .i64 x] 38) (.cells #[.int .i64 0, .int .i64 0, .slice none 0 0] 24)
  have HK := check_ok n hh v cs _ (Tab.next hT kk) (hS.below kk) hok
  have ⟨_, _, _, p3, _, p5⟩ := prod_in n hh ((gridErr_zero n hh cs).1 hok).1
  clear hT hS hok
  generalize hW0 : (((w.alloc (.cells #[.int .i64 (n : Int), .int .i64 (hh : Int), v] 24)).alloc (.cells #[.int .i64 f, .int .i64 bk, .int .i64 x] 38)).alloc (.cells #[.int .i64 0, .int .i64 0, .slice none 0 0] 24)) = W0 at x0 x1 x2 kk hsz HK
  have HW0 : Hid (_ = W0) := hW0
  have HK' : Hid (Calls Tryd.prog 11 #[.agg #[.int .i64 (n : Int), .int .i64 (hh : Int), v]] W0 fun e w' => e = .returned (.int .i64 0) ∧ Below W0.heap.size W0 w') := HK
  clear HK hW0
  have HH : Hid (holdsI n hh px py 1 1 = false) := hold
  clear hold
  go_enter Tryd.func22, Tryd.ntmps22
  go_wp2_with (first
    | (go_at_call 11; rw [HW0.out]; refine HK'.out.mono ?_; rintro e W1 ⟨rfl, b1⟩; have k1 := kk.trans (b1.mono kk.size); have y2 := carry x2 b1; have y1 := carry x1 b1; have y0 := carry x0 b1; have ⟨e0, e1, e2, _⟩ := cells3 y0)
    | (go_at_call 47; refine (holds_to n hh v px py 1 1 _ HH.out _ (by omega) (by omega) hx0 hx1 hy0 hy1).mono ?_; rintro e W2 ⟨rfl, b2⟩; have k2 := k1.trans (b2.mono k1.size); have z2 := carry y2 b2; have ⟨d0, d1, d2, _⟩ := cells3 (carry y1 b2))
    | (refine wpList_store_row rfl 24 (.tmp 10) _ rfl (w.heap.size + 2) #[.int .i64 0, .int .i64 0, .slice none 0 0] rfl rfl _ _ z2 (by kernel_rfl) rfl (one3v _ _ _ _ _) ?_))
  (try simp only [Exit.inBlock, Exit.then])
  refine bodyPost_ret (v := .tuple #[.agg #[.int .i64 0, .int .i64 0, .slice none 0 0], .int .i64 4]) ?_ rfl ⟨rfl, below_setRow k2 (by omega) _⟩
  exact results_row_tmp rfl _ _ (w.heap.size + 2) _ _ _ _ rfl (setRow_heap _ _ _ _ _ _ z2) Tryd.underlying24 rfl (by kernel_rfl) _ rfl
set_option maxHeartbeats 1000000 in
theorem write_bad3 (n hh : Nat) (v : Value) (cs : List C) (px py f bk x : Int) (s : ByteArray) (w : World) (hT : Txt.Tab w) (hS : SliceAt w v cs) (hok : gridErr n hh cs = 0) (hx0 : -9223372036854775808 ≤ px) (hx1 : px ≤ 9223372036854775807) (hy0 : -9223372036854775808 ≤ py) (hy1 : py ≤ 9223372036854775807) (hold : holdsI n hh px py 1 1 = true) (hs : isSt (f, bk, x) = false) :
    Calls Tryd.prog 22 #[.agg #[.int .i64 (n : Int), .int .i64 (hh : Int), v], .int .i64 px, .int .i64 py, .string s, .agg #[.int .i64 f, .int .i64 bk, .int .i64 x]] w fun e w' => e = .returned (.tuple #[.agg #[.int .i64 0, .int .i64 0, .slice none 0 0], .int .i64 4]) ∧ Below w.heap.size w w' := by
  obtain ⟨x0, x1, x2, kk, hsz⟩ := alloc3 w (.cells #[.int .i64 (n : Int), .int .i64 (hh : Int), v] 24) (.cells #[.int .i64 f, .int .i64 bk, .int .i64 x] 38) (.cells #[.int .i64 0, .int .i64 0, .slice none 0 0] 24)
  have HK := check_ok n hh v cs _ (Tab.next hT kk) (hS.below kk) hok
  have ⟨_, _, _, p3, _, p5⟩ := prod_in n hh ((gridErr_zero n hh cs).1 hok).1
  clear hT hS hok
  generalize hW0 : (((w.alloc (.cells #[.int .i64 (n : Int), .int .i64 (hh : Int), v] 24)).alloc (.cells #[.int .i64 f, .int .i64 bk, .int .i64 x] 38)).alloc (.cells #[.int .i64 0, .int .i64 0, .slice none 0 0] 24)) = W0 at x0 x1 x2 kk hsz HK
  have HW0 : Hid (_ = W0) := hW0
  have HK' : Hid (Calls Tryd.prog 11 #[.agg #[.int .i64 (n : Int), .int .i64 (hh : Int), v]] W0 fun e w' => e = .returned (.int .i64 0) ∧ Below W0.heap.size W0 w') := HK
  clear HK hW0
  have HH : Hid (holdsI n hh px py 1 1 = true) := hold
  have HS : Hid (isSt (f, bk, x) = false) := hs
  clear hold hs
  go_enter Tryd.func22, Tryd.ntmps22
  go_wp2_with (first
    | (go_at_call 11; rw [HW0.out]; refine HK'.out.mono ?_; rintro e W1 ⟨rfl, b1⟩; have k1 := kk.trans (b1.mono kk.size); have y2 := carry x2 b1; have y1 := carry x1 b1; have y0 := carry x0 b1; have ⟨e0, e1, e2, _⟩ := cells3 y0)
    | (go_at_call 47; refine (holds_to n hh v px py 1 1 _ HH.out _ (by omega) (by omega) hx0 hx1 hy0 hy1).mono ?_; rintro e W2 ⟨rfl, b2⟩; have k2 := k1.trans (b2.mono k1.size); have z2 := carry y2 b2; have ⟨d0, d1, d2, _⟩ := cells3 (carry y1 b2))
    | (go_at_call 41; refine (check_to f bk x _ HS.out _).mono ?_; rintro e W3 ⟨rfl, b3⟩; have k3 := k2.trans (b3.mono k2.size); have u2 := carry z2 b3)
    | (refine wpList_store_row rfl 24 (.tmp 10) _ rfl (w.heap.size + 2) #[.int .i64 0, .int .i64 0, .slice none 0 0] rfl rfl _ _ u2 (by kernel_rfl) rfl (one3v _ _ _ _ _) ?_))
  (try simp only [Exit.inBlock, Exit.then])
  refine bodyPost_ret (v := .tuple #[.agg #[.int .i64 0, .int .i64 0, .slice none 0 0], .int .i64 4]) ?_ rfl ⟨rfl, below_setRow k3 (by omega) _⟩
  exact results_row_tmp rfl _ _ (w.heap.size + 2) _ _ _ _ rfl (setRow_heap _ _ _ _ _ _ u2) Tryd.underlying24 rfl (by kernel_rfl) _ rfl
end Grd
end Go.Proofs.YtinhmklpnkikgaaDoor

/- The walk of grid.Write: a right place and a right style. -/
namespace Go.Proofs.YtinhmklpnkikgaaDoor
open Go.ChangeShapes Go.WideShapes Go.ChangeAt Go.RowKit
namespace Grd
open Txt (wd)
open Sty (isSt)
theorem cell4_size : (Tryd.prog.info? 40).map (·.size) = some 4 := by kernel_rfl
def writeF (X Y : Nat) (l : List (Int × Nat)) (look : Int × Int × Int) (y : Nat) (row : List C) : List C := if y = Y then mendL (writeR look l row X) else row
def writeG (n hh : Nat) (cs : List C) (X Y : Nat) (l : List (Int × Nat)) (look : Int × Int × Int) : List C := preF n cs (writeF X Y l look) hh
theorem writeF_len (n X Y : Nat) (l : List (Int × Nat)) (look : Int × Int × Int) : KeepLen n (writeF X Y l look) := fun y row h => by
  unfold writeF
  split
  · rw [mendL_len, writeR_len, h]
  · exact h
theorem writeR_stop (look : Int × Int × Int) (r : Int × Nat) (t : List (Int × Nat)) (row : List C) (x n : Nat) (hn : row.length = n) (h : (n : Int) - x < wd r.1) : writeR look (r :: t) row x = row := by
  unfold writeR; rw [hn, if_pos h]
theorem writeR_go (look : Int × Int × Int) (r : Int × Nat) (t : List (Int × Nat)) (row : List C) (x n : Nat) (hn : row.length = n) (h : ¬ (n : Int) - x < wd r.1) : writeR look (r :: t) row x = writeR look t (writeOne look row x r.1) (x + (wd r.1).toNat) := by
  rw [writeR, hn, if_neg h]
/-- A store of one cell, the world behind it a name. -/
theorem wpList_store_cell {ops : Array Oper} {rest : List Oper} {op : Oper} {a : Act} {w : World} {Q : Exit → Act → World → Prop} (hgd : op.guard = none) (x y : Operand) (ho : op.op = .store 40 x y)
    (g o : Nat) (c : C) (hx : a.eval x = .pointer (some ⟨g, o, none⟩)) (hy : a.eval y = .agg #[.int .i32 c.1, .int .i64 c.2.1, .int .i64 c.2.2.1, .int .i64 c.2.2.2]) (ht : w.there g o 4)
    (h : ∀ Z, Z = w.setCells g o (words c) → wpList Tryd.prog ops Q rest (a.put op.dst undef) Z) : wpList Tryd.prog ops Q (op :: rest) a w :=
  wpList_store_mid hgd 40 x y ho g o _ hx hy ht cell4_size (words_one c) (h _ rfl)
set_option maxHeartbeats 8000000 in
theorem write_good (n hh b o cx X Y : Nat) (cs : List C) (f bk x : Int) (s : ByteArray) (w : World) (hT : Txt.Tab w) (hC : CellsAt w b o cs) (hok : gridErr n hh cs = 0) (hc : cs.length ≤ cx) (hm : cx ≤ 9223372036854775807) (hX : X < n) (hY : Y < hh) (hs : isSt (f, bk, x) = true) :
    Calls Tryd.prog 22 #[.agg #[.int .i64 (n : Int), .int .i64 (hh : Int), .slice (some ⟨b, o, none⟩) cs.length cx], .int .i64 (X : Int), .int .i64 (Y : Int), .string s, .agg #[.int .i64 f, .int .i64 bk, .int .i64 x]] w fun e w' => ∃ v, e = .returned (.tuple #[.agg #[.int .i64 (n : Int), .int .i64 (hh : Int), v], .int .i64 0]) ∧ OwnG w' w.heap.size v (writeG n hh cs X Y (Txt.runes s) (f, bk, x)) ∧ Below w.heap.size w w' := by
  obtain ⟨hsize, hL, hrows⟩ := (gridErr_zero n hh cs).1 hok
  have ⟨p0, p1, p2, p3, p4, p5⟩ := prod_in n hh hsize
  have hne : cs ≠ [] := by
    intro h
    rw [h, List.length_nil] at hL
    have : 0 < n * hh := Nat.mul_pos (by omega) (by omega)
    omega
  have hl2 : cs.length ≤ 7200 := by
    have : ((n * hh : Nat) : Int) ≤ 7200 := by rw [Int.natCast_mul]; exact p1
    omega
  have hS : SliceAt w (.slice (some ⟨b, o, none⟩) cs.length cx) cs := .inr ⟨hne, b, o, cx, rfl, hc, hm, hC⟩
  obtain ⟨x0, x1, x2, kk, hsz⟩ := alloc3 w (.cells #[.int .i64 (n : Int), .int .i64 (hh : Int), .slice (some ⟨b, o, none⟩) cs.length cx] 24) (.cells #[.int .i64 f, .int .i64 bk, .int .i64 x] 38) (.cells #[.int .i64 0, .int .i64 0, .slice none 0 0] 24)
  have HK := check_ok n hh _ cs _ (Tab.next hT kk) (hS.below kk) hok
  have HT : Hid (∀ W, Below w.heap.size w W → Txt.Tab W) := fun W k => Tab.next hT k
  have HTP : Hid (0 < w.heap.size) := hT.pos
  have HC : Hid (CellsAt w b o cs) := hC
  have HL : Hid (cs.length = n * hh) := hL
  have HMW : Hid (Alike (writeR (f, bk, x) (Txt.runes s) (rowAt n cs Y) X)) := (meant_write (f, bk, x) hs (Txt.runes s) _ X (hrows Y hY).1).alike
  have HH : Hid (holdsI n hh X Y 1 1 = true) := by unfold Hid holdsI; rw [decide_eq_true_eq]; omega
  clear hT hS hok hC hne hrows hL p0 p1 hsize
  generalize hW0 : (((w.alloc (.cells #[.int .i64 (n : Int), .int .i64 (hh : Int), .slice (some ⟨b, o, none⟩) cs.length cx] 24)).alloc (.cells #[.int .i64 f, .int .i64 bk, .int .i64 x] 38)).alloc (.cells #[.int .i64 0, .int .i64 0, .slice none 0 0] 24)) = W0 at x0 x1 x2 kk hsz HK
  have HW0 : Hid (_ = W0) := hW0
  have HK' : Hid (Calls Tryd.prog 11 #[.agg #[.int .i64 (n : Int), .int .i64 (hh : Int), .slice (some ⟨b, o, none⟩) cs.length cx]] W0 fun e w' => e = .returned (.int .i64 0) ∧ Below W0.heap.size W0 w') := HK
  have HS : Hid (isSt (f, bk, x) = true) := hs
  clear HK hW0 hs
  go_enter Tryd.func22, Tryd.ntmps22
  go_wp2_with (first
    | (go_at_call 11; rw [HW0.out]; refine HK'.out.mono ?_; rintro e W1 ⟨rfl, b1⟩; have k1 := kk.trans (b1.mono kk.size); have y2 := carry x2 b1; have y1 := carry x1 b1; have y0 := carry x0 b1; have ⟨e0, e1, e2, _⟩ := cells3 y0)
    | (go_at_call 47; refine (holds_to n hh _ X Y 1 1 _ HH.out _ (by omega) (by omega) (by omega) (by omega) (by omega) (by omega)).mono ?_; rintro e W2 ⟨rfl, b2⟩; have k2 := k1.trans (b2.mono k1.size); have z2 := carry y2 b2; have z1 := carry y1 b2; have z0 := carry y0 b2; have ⟨d0, d1, d2, _⟩ := cells3 z1)
    | (go_at_call 41; refine (check_to f bk x _ HS.out _).mono ?_; rintro e W3 ⟨rfl, b3⟩; have k3 := k2.trans (b3.mono k2.size); have u2 := carry z2 b3; have u1 := carry z1 b3; have u0 := carry z0 b3; have ⟨g0, g1, g2, _⟩ := cells3 u0)
    | (go_at_call 42; refine (copyOf_any n hh b o cx cs _ (HC.out.below k3) (by omega)).mono ?_; rintro e W4 ⟨v4, rfl, ⟨g, cap, rest, t, rfl, hgb, hlc, hcm, hgh⟩, b4⟩; have hW4 := heap_alloc_new W4 (.cells #[.int .i64 0, .int .i64 0, .slice none 0 0] 24))
    | (refine wpList_store_row rfl 24 (.tmp 13) _ rfl W4.heap.size #[.int .i64 (n : Int), .int .i64 (hh : Int), .slice (some ⟨g, 0, none⟩) cs.length cap] rfl rfl _ _ hW4 (by kernel_rfl) rfl (one3v _ _ _ _ _) ?_; have qM0 := setRow_heap _ _ _ #[.int .i64 (n : Int), .int .i64 (hh : Int), .slice (some ⟨g, 0, none⟩) cs.length cap] _ _ hW4)
    | (refine wpList_load_row rfl 24 _ rfl W4.heap.size rfl _ _ _ _ qM0 Tryd.underlying24 rfl (by kernel_rfl) ?_)
    | (go_at_call 36; refine (rowOf_any g 0 cs.length cap n Y hh _ (by omega) (row_fits n hh _ Y HL.out hY) hlc hcm).mono ?_; rintro e W5 ⟨rfl, b5⟩))
  have hsz1 := b1.size
  have hsz2 := b2.size
  have hsz3 := b3.size
  have hsz4 := b4.size
  have hg4 : g < W4.heap.size := blk_lt hgh
  have hX' : ∀ k o', W4.heap[k]? = some o' → W5.heap[k]? = some o' := fun k o' hk => carry (by
    have := blk_lt hk
    rw [setRow_other _ _ _ _ (by omega), Below.heap_alloc _ _ _ this, hk]) b5
  have q1 := hX' _ _ (carry u1 b4)
  have q3 := hX' _ _ (carry u2 b4)
  have qg := hX' _ _ hgh
  have qM := carry qM0 b5
  have k4 := k3.trans (b4.mono k3.size)
  have kY : Below w.heap.size w W5 := (below_setRow (k4.alloc k4.size (.cells #[.int .i64 0, .int .i64 0, .slice none 0 0] 24)) k4.size #[.int .i64 (n : Int), .int .i64 (hh : Int), .slice (some ⟨g, 0, none⟩) cs.length cap]).trans (b5.mono (by simp; omega))
  have hgN : w.heap.size + 3 ≤ g := by omega
  have hMW : W4.heap.size < W5.heap.size := blk_lt qM
  generalize hM : W4.heap.size = M at *
  clear hX' qM0 hW4 hgh u0 u1 u2 g0 g1 g2 b4 b3 z0 z1 z2 d0 d1 d2 b2 y0 y1 y2 e0 e1 e2 b1 x0 x1 x2 HW0 HK' k1 k2 k3 k4 kk hsz hsz1 hsz2 hsz3 hsz4 hgb b5 hM HS HH
  generalize W5 = Y0 at *
  have HGL : Hid ((writeG n hh cs X Y (Txt.runes s) (f, bk, x)).length = cs.length) := by
    unfold Hid writeG
    rw [preF_len n hh cs _ HL.out (writeF_len n X Y _ _) hh (Nat.le_refl _), HL.out, Nat.mul_comm]
  have hst0 := upto_start n hh cs (writeF X Y (Txt.runes s) (f, bk, x)) Y (fun y hy => by unfold writeF; rw [if_neg (by omega)])
  rw [upto_at n hh cs _ Y hY] at hst0
  have hen0 := upto_end n hh cs (writeF X Y (Txt.runes s) (f, bk, x)) HL.out (Y + 1) (fun y hy => by unfold writeF; rw [if_neg (by omega)])
  rw [upto_next n hh cs _ Y hY] at hen0
  have hpl : (flat (preF n cs (writeF X Y (Txt.runes s) (f, bk, x)) Y)).length = Y * n * 4 := by rw [flat_len, preF_len n hh cs _ HL.out (writeF_len n X Y _ _) Y (by omega)]
  have hqg : flat cs ++ rest = flat (preF n cs (writeF X Y (Txt.runes s) (f, bk, x)) Y) ++ (flat (rowAt n cs Y) ++ (flat (cs.drop ((Y + 1) * n)) ++ rest)) := by
    rw [← flat_three, hst0]
  have HGE : Hid (flat (preF n cs (writeF X Y (Txt.runes s) (f, bk, x)) Y) ++ (flat (mendL (writeR (f, bk, x) (Txt.runes s) (rowAt n cs Y) X)) ++ (flat (cs.drop ((Y + 1) * n)) ++ rest)) = flat (writeG n hh cs X Y (Txt.runes s) (f, bk, x)) ++ rest) := by
    unfold Hid writeG
    rw [← hen0, flat_three]
    unfold writeF
    rw [if_pos rfl]
  have hrl := row_len n hh cs Y HL.out hY
  rw [hqg] at qg
  clear hqg hst0 hen0
  generalize flat (preF n cs (writeF X Y (Txt.runes s) (f, bk, x)) Y) = pre at *
  generalize flat (cs.drop ((Y + 1) * n)) ++ rest = post at *
  generalize rowAt n cs Y = row0 at *
  generalize Y * n * 4 = off at *
  have HPL : Hid (pre.length = off) := hpl
  have HRL : Hid (row0.length = n) := hrl
  clear hpl hrl
  go_loopw [1] (fun a wr => ∃ (pos fu xx : Nat) (row : List C), wr.heap[Y0.heap.size]? = some (.stringIter s pos) ∧ Apart g [g] Y0 wr ∧ a = .int .i64 (xx : Int) ∧ xx ≤ n ∧ row.length = n ∧ wr.heap[g]? = some (.cells (pre ++ (flat row ++ post)).toArray t (0, 0)) ∧ writeR (f, bk, x) (Txt.rs s fu pos) row xx = writeR (f, bk, x) (Txt.runes s) row0 X ∧ s.size ≤ pos + fu ∧ pos ≤ s.size) (fun _ wr => s.size - wr.iterPos Y0.heap.size)
  case atStart =>
    refine ⟨0, s.size, X, row0, World.iter_heap Y0 s 0, ⟨(Below.refl _ Y0).alloc (by omega) _, fun k _ hk => Below.heap_alloc _ _ _ hk⟩, rfl, by omega, HRL.out, ?_, rfl, by omega, by omega⟩
    exact (Below.heap_alloc _ _ _ (by omega)).trans qg
  case round =>
    obtain ⟨pos, fu, xx, row, hit, hap, rfl, hxn, hrn, hv, heq, hfu, hps⟩ := hrel
    clear qg
    have HEQ : Hid (writeR (f, bk, x) (Txt.rs s fu pos) row xx = writeR (f, bk, x) (Txt.runes s) row0 X) := heq
    have HRN : Hid (row.length = n) := hrn
    clear heq hrn
    by_cases hp : pos < s.size
    · have hnx : ∀ ty, (Instr.next (.pointer (some ⟨Y0.heap.size, 0, none⟩)) true ty).run Tryd.prog wr = _ := fun ty => Lib.run_next_any_at wr Y0.heap.size s pos ty hit hp
      have hwd := Txt.width_pos s pos hp
      have hfit := Txt.decode_fits s pos hp
      obtain ⟨fu, rfl⟩ : ∃ q, fu = q + 1 := ⟨fu - 1, by omega⟩
      have HR : Hid (Txt.rs s (fu + 1) pos = (((Utf8.decode s pos).1 : Int), (Utf8.decode s pos).2) :: Txt.rs s fu (pos + (Utf8.decode s pos).2)) := Txt.rs_step s fu pos hp
      have hwr := Txt.wd_range (Utf8.decode s pos).1
      have hit2 := Lib.iterAt_heap wr Y0.heap.size s pos (pos + (Utf8.decode s pos).2) hit
      have ap2 := hap.iterNew Y0.heap.size s (pos + (Utf8.decode s pos).2) (Nat.le_refl _) (by omega)
      have hv2 := (Lib.iterAt_other wr Y0.heap.size g s (pos + (Utf8.decode s pos).2) (by omega)).trans hv
      have kI2 := kY.trans (ap2.1.mono (show w.heap.size ≤ g by omega))
      have HI : Hid (wr.iterPos Y0.heap.size = pos) := by simp only [Hid, World.iterPos, hit]
      clear hit hap hv
      generalize Utf8.decode s pos = d at *
      by_cases hbr : (n : Int) - xx < wd d.1
      · have HST : Hid (row = writeR (f, bk, x) (Txt.runes s) row0 X) := by
          unfold Hid
          rw [← HEQ.out, HR.out, writeR_stop (f, bk, x) _ _ row xx n HRN.out hbr]
        obtain ⟨wv, hwv⟩ : ∃ q, wd d.1 = q := ⟨_, rfl⟩
        have HW : Hid (wd d.1 = wv) := hwv
        rw [hwv] at hbr hwr
        clear hwv HEQ HR
        go_wp2_with (first
          | (go_at_call 40; refine (width_to d.1 _ (HT.out _ kI2) _ HW.out).mono ?_; rintro e W1 ⟨rfl, b1⟩; have apW := ap2.step b1 (by have := blk_lt hv2; omega); have hvW := carry hv2 b1
             have KM := mend_any g (cap - Y * n) row pre post t W1 hvW (by rw [HRN.out]; omega) (HT.out _ (kY.trans (apW.1.mono (by omega)))) (by have := HTP.out; omega) (by rw [HST.out]; exact HMW.out)
             rw [HRN.out, HPL.out] at KM)
          | (go_at_call 45; refine KM.mono ?_; rintro e W6 ⟨rfl, hv6, ap6⟩; have ap7 := apW.trans ap6; have v3 := ap7.carry q3 (by simp; omega); have vM := ap7.carry qM (by simp; omega); have kW := kY.trans (ap7.1.mono (show w.heap.size ≤ g by omega)))
          | (refine wpList_load_row rfl 24 _ rfl M rfl _ _ _ _ vM Tryd.underlying24 rfl (by kernel_rfl) ?_)
          | (refine wpList_store_row rfl 24 (.tmp 10) _ rfl (w.heap.size + 2) #[.int .i64 (n : Int), .int .i64 (hh : Int), .slice (some ⟨g, 0, none⟩) cs.length cap] rfl rfl _ _ v3 (by kernel_rfl) rfl (one3v _ _ _ _ _) ?_))
        (try simp only [Exit.inBlock, Exit.then])
        refine bodyPost_ret (v := .tuple #[.agg #[.int .i64 (n : Int), .int .i64 (hh : Int), .slice (some ⟨g, 0, none⟩) cs.length cap], .int .i64 0]) ?_ rfl ⟨_, rfl, ?_, below_setRow kW (by omega) _⟩
        · exact results_row_tmp rfl _ _ (w.heap.size + 2) _ _ _ _ rfl (setRow_heap _ _ _ _ _ _ v3) Tryd.underlying24 rfl (by kernel_rfl) _ rfl
        · refine ⟨g, cap, rest, t, by rw [HGL.out], by omega, by rw [HGL.out]; exact hlc, hcm, ?_⟩
          rw [setRow_other _ _ _ _ (by omega), hv6, HST.out, HGE.out]
      · have HGO : Hid (writeR (f, bk, x) (Txt.rs s fu (pos + d.2)) (writeOne (f, bk, x) row xx d.1) (xx + (wd d.1).toNat) = writeR (f, bk, x) (Txt.runes s) row0 X) := by
          unfold Hid
          rw [← HEQ.out, HR.out, writeR_go (f, bk, x) _ _ row xx n HRN.out hbr]
        clear HEQ HR
        rcases (show wd d.1 = 0 ∨ wd d.1 = 1 ∨ wd d.1 = 2 by omega) with h0 | h0 | h0
        · have HG2 : Hid (writeR (f, bk, x) (Txt.rs s fu (pos + d.2)) row xx = writeR (f, bk, x) (Txt.runes s) row0 X) := by
            have := HGO.out
            unfold writeOne at this
            rw [if_pos h0, h0] at this
            exact this
          have HW : Hid (wd d.1 = 0) := h0
          have nb : ¬ (n : Int) - xx < 0 := by omega
          clear h0 hwr hbr HGO
          go_wp2_with (go_at_call 40; refine (width_to d.1 _ (HT.out _ kI2) _ HW.out).mono ?_; rintro e W1 ⟨rfl, b1⟩; have apW := ap2.step b1 (by have := blk_lt hv2; omega); have hvW := carry hv2 b1; have hitW := carry hit2 b1; have ⟨s0, s1, s2, _⟩ := cells3 (apW.carry q1 (by simp; omega)))
          go_roundw
          case rel => exact ⟨pos + d.2, fu, xx, row, hitW, apW, by first | rfl | simp, hxn, HRN.out, hvW, HG2.out, by omega, by omega⟩
          case measure =>
            rw [HI.out]
            simp only [World.iterPos, hitW]
            omega
        · have HG2 : Hid (writeR (f, bk, x) (Txt.rs s fu (pos + d.2)) (row.set xx (d.1, f, bk, x)) (xx + 1) = writeR (f, bk, x) (Txt.runes s) row0 X) := by
            have := HGO.out
            unfold writeOne at this
            rw [if_neg (by omega), if_neg (by omega), h0] at this
            exact this
          have HW : Hid (wd d.1 = 1) := h0
          have nb : ¬ (n : Int) - xx < 1 := by omega
          have hxl : xx < n := by omega
          clear h0 hwr hbr HGO
          go_wp2_with (first
            | (go_at_call 40; refine (width_to d.1 _ (HT.out _ kI2) _ HW.out).mono ?_; rintro e W1 ⟨rfl, b1⟩; have apW := ap2.step b1 (by have := blk_lt hv2; omega); have hvW := carry hv2 b1; have hitW := carry hit2 b1; have ⟨s0, s1, s2, _⟩ := cells3 (apW.carry q1 (by simp; omega)))
            | (refine wpList_store_cell rfl (.tmp 61) (.tmp 60) rfl g (off + xx * 4) (d.1, f, bk, x) rfl rfl (by have := there_cell hvW xx (by rw [HRN.out]; exact hxl); rwa [HPL.out] at this) ?_
               intro Z hZ
               have hvZ := store_cell hvW xx (by rw [HRN.out]; exact hxl) (d.1, f, bk, x)
               have apZ := apW.setCells g (pre.length + xx * 4) (words (d.1, f, bk, x)) (by simp) (Nat.le_refl _)
               have hitZ := (heap_setCells_ne g Y0.heap.size (by omega) (words (d.1, f, bk, x)) (pre.length + xx * 4) W1).trans hitW
               rw [HPL.out, ← hZ] at hvZ apZ hitZ
               clear hZ))
          go_roundw
          case rel => exact ⟨pos + d.2, fu, xx + 1, row.set xx (d.1, f, bk, x), hitZ, apZ, by first | rfl | simp, by omega, by rw [List.length_set, HRN.out], hvZ, HG2.out, by omega, by omega⟩
          case measure =>
            rw [HI.out]
            simp only [World.iterPos, hitZ]
            omega
        · have HG2 : Hid (writeR (f, bk, x) (Txt.rs s fu (pos + d.2)) ((row.set xx (d.1, f, bk, x)).set (xx + 1) (0, f, bk, x)) (xx + 2) = writeR (f, bk, x) (Txt.runes s) row0 X) := by
            have := HGO.out
            unfold writeOne at this
            rw [if_neg (by omega), if_pos h0, h0] at this
            exact this
          have HW : Hid (wd d.1 = 2) := h0
          have nb : ¬ (n : Int) - xx < 2 := by omega
          have hxl : xx + 1 < n := by omega
          clear h0 hwr hbr HGO
          go_wp2_with (first
            | (go_at_call 40; refine (width_to d.1 _ (HT.out _ kI2) _ HW.out).mono ?_; rintro e W1 ⟨rfl, b1⟩; have apW := ap2.step b1 (by have := blk_lt hv2; omega); have hvW := carry hv2 b1; have hitW := carry hit2 b1; have ⟨s0, s1, s2, _⟩ := cells3 (apW.carry q1 (by simp; omega)))
            | (refine wpList_store_cell rfl (.tmp 61) (.tmp 60) rfl g (off + xx * 4) (d.1, f, bk, x) rfl rfl (by have := there_cell hvW xx (by rw [HRN.out]; omega); rwa [HPL.out] at this) ?_
               intro Z hZ
               have hvZ := store_cell hvW xx (by rw [HRN.out]; omega) (d.1, f, bk, x)
               have apZ := apW.setCells g (pre.length + xx * 4) (words (d.1, f, bk, x)) (by simp) (Nat.le_refl _)
               have hitZ := (heap_setCells_ne g Y0.heap.size (by omega) (words (d.1, f, bk, x)) (pre.length + xx * 4) W1).trans hitW
               rw [HPL.out, ← hZ] at hvZ apZ hitZ
               have ⟨t0, t1, t2, _⟩ := cells3 (apZ.carry q1 (by simp; omega))
               clear hZ)
            | (refine wpList_store_cell rfl (.tmp 69) (.tmp 68) rfl g (off + (xx + 1) * 4) (0, f, bk, x) rfl rfl (by have := there_cell hvZ (xx + 1) (by rw [List.length_set, HRN.out]; exact hxl); rwa [HPL.out] at this) ?_
               intro Z2 hZ
               have hvY := store_cell hvZ (xx + 1) (by rw [List.length_set, HRN.out]; exact hxl) (0, f, bk, x)
               have apY := apZ.setCells g (pre.length + (xx + 1) * 4) (words (0, f, bk, x)) (by simp) (Nat.le_refl _)
               have hitY := (heap_setCells_ne g Y0.heap.size (by omega) (words (0, f, bk, x)) (pre.length + (xx + 1) * 4) Z).trans hitZ
               rw [HPL.out, ← hZ] at hvY apY hitY
               clear hZ))
          go_roundw
          case rel => exact ⟨pos + d.2, fu, xx + 2, (row.set xx (d.1, f, bk, x)).set (xx + 1) (0, f, bk, x), hitY, apY, by first | rfl | simp, by omega, by rw [List.length_set, List.length_set, HRN.out], hvY, HG2.out, by omega, by omega⟩
          case measure =>
            rw [HI.out]
            simp only [World.iterPos, hitY]
            omega
    · have hnx : ∀ ty, (Instr.next (.pointer (some ⟨Y0.heap.size, 0, none⟩)) true ty).run Tryd.prog wr = _ := fun ty => Lib.run_next_end_at wr Y0.heap.size s pos ty hit hp
      have HST : Hid (row = writeR (f, bk, x) (Txt.runes s) row0 X) := by
        have := HEQ.out
        rw [Txt.rs_end s fu pos hp] at this
        exact this
      have KM := mend_any g (cap - Y * n) row pre post t wr hv (by rw [HRN.out]; omega) (HT.out _ (kY.trans (hap.1.mono (by omega)))) (by have := HTP.out; omega) (by rw [HST.out]; exact HMW.out)
      rw [HRN.out, HPL.out] at KM
      go_wp2_with (first
        | (go_at_call 45; refine KM.mono ?_; rintro e W6 ⟨rfl, hv6, ap6⟩; have ap7 := hap.trans ap6; have v3 := ap7.carry q3 (by simp; omega); have vM := ap7.carry qM (by simp; omega); have kW := kY.trans (ap7.1.mono (show w.heap.size ≤ g by omega)))
        | (refine wpList_load_row rfl 24 _ rfl M rfl _ _ _ _ vM Tryd.underlying24 rfl (by kernel_rfl) ?_)
        | (refine wpList_store_row rfl 24 (.tmp 10) _ rfl (w.heap.size + 2) #[.int .i64 (n : Int), .int .i64 (hh : Int), .slice (some ⟨g, 0, none⟩) cs.length cap] rfl rfl _ _ v3 (by kernel_rfl) rfl (one3v _ _ _ _ _) ?_))
      (try simp only [Exit.inBlock, Exit.then])
      refine bodyPost_ret (v := .tuple #[.agg #[.int .i64 (n : Int), .int .i64 (hh : Int), .slice (some ⟨g, 0, none⟩) cs.length cap], .int .i64 0]) ?_ rfl ⟨_, rfl, ?_, below_setRow kW (by omega) _⟩
      · exact results_row_tmp rfl _ _ (w.heap.size + 2) _ _ _ _ rfl (setRow_heap _ _ _ _ _ _ v3) Tryd.underlying24 rfl (by kernel_rfl) _ rfl
      · refine ⟨g, cap, rest, t, by rw [HGL.out], by omega, by rw [HGL.out]; exact hlc, hcm, ?_⟩
        rw [setRow_other _ _ _ _ (by omega), hv6, HST.out, HGE.out]
end Grd
end Go.Proofs.YtinhmklpnkikgaaDoor

/- The shelf's contract for (*strings.Builder).WriteRune, laid at this program by hand. -/
namespace Go.Proofs
open Go.Shelf
def Tryd.lays168_ren : Go.Shelf.Ren := ⟨fun | 168 => 50 | 240 => 58 | 242 => 59 | 276 => 66 | 278 => 67 | n => n, fun | 0 => 0 | 3 => 3 | 4 => 4 | 5 => 5 | 9 => 9 | 20 => 20 | 21 => 21 | 37 => 79 | 46 => 89 | 51 => 106 | 70 => 78 | 72 => 81 | 75 => 83 | 80 => 87 | 164 => 112 | n => n, fun | n => n⟩
theorem Tryd.lays168 : Go.Proofs.Lays.n168 Tryd.prog Tryd.lays168_ren := {
  mixed := by kernel_rfl
  f168 := Tryd.func50.trans (congrArg some (by kernel_rfl))
  f240 := Tryd.func58.trans (congrArg some (by kernel_rfl))
  f242 := Tryd.func59.trans (congrArg some (by kernel_rfl))
  f276 := Tryd.func66.trans (congrArg some (by kernel_rfl))
  f278 := Tryd.func67.trans (congrArg some (by kernel_rfl))
  t0 := Tryd.underlying0
  a0 := Tryd.isAgg0
  z0 := Tryd.sizeOf0
  v0 := Tryd.zeroValue0
  t3 := Tryd.underlying3
  a3 := Tryd.isAgg3
  z3 := Tryd.sizeOf3
  v3 := Tryd.zeroValue3
  t4 := Tryd.underlying4
  a4 := Tryd.isAgg4
  z4 := Tryd.sizeOf4
  v4 := Tryd.zeroValue4
  t5 := Tryd.underlying5
  a5 := Tryd.isAgg5
  z5 := Tryd.sizeOf5
  v5 := Tryd.zeroValue5
  t9 := Tryd.underlying9
  a9 := Tryd.isAgg9
  z9 := Tryd.sizeOf9
  v9 := Tryd.zeroValue9
  t20 := Tryd.underlying20
  a20 := Tryd.isAgg20
  z20 := Tryd.sizeOf20
  v20 := Tryd.zeroValue20
  t21 := Tryd.underlying21
  a21 := Tryd.isAgg21
  z21 := Tryd.sizeOf21
  v21 := Tryd.zeroValue21
  t37 := Tryd.underlying79
  a37 := Tryd.isAgg79
  z37 := Tryd.sizeOf79
  v37 := Tryd.zeroValue79
  t46 := Tryd.underlying89
  a46 := Tryd.isAgg89
  z46 := Tryd.sizeOf89
  v46 := Tryd.zeroValue89
  t51 := Tryd.underlying106
  a51 := Tryd.isAgg106
  z51 := Tryd.sizeOf106
  v51 := Tryd.zeroValue106
  t70 := Tryd.underlying78
  a70 := Tryd.isAgg78
  z70 := Tryd.sizeOf78
  v70 := Tryd.zeroValue78
  t72 := Tryd.underlying81
  a72 := Tryd.isAgg81
  z72 := Tryd.sizeOf81
  v72 := Tryd.zeroValue81
  t75 := Tryd.underlying83
  a75 := Tryd.isAgg83
  z75 := Tryd.sizeOf83
  v75 := Tryd.zeroValue83
  t164 := Tryd.underlying112
  a164 := Tryd.isAgg112
  z164 := Tryd.sizeOf112
  v164 := Tryd.zeroValue112
}
theorem Tryd.Builder_Extra_168 : Builder.Extra Tryd.prog Tryd.lays168_ren := {
  sizeBuilder := by kernel_rfl
  liesBuilder := by kernel_rfl
  t5 := Tryd.underlying5
  a5 := Tryd.isAgg5
  z5 := Tryd.sizeOf5
  v5 := Tryd.zeroValue5
  infoByte := by kernel_rfl
  cellsByte := by kernel_rfl
  sizeByte := by kernel_rfl
  neB5 := by decide }
open Go.RowKit in
theorem Tryd.Builder_WriteRune_k (B b : Nat) (bs : List Value) (r : Int) (hr0 : -2147483648 ≤ r) (hr1 : r ≤ 2147483647) (w : World) (h : Lib.IsBuilderF 81 5 B b bs w) (hlen : bs.length + 4 ≤ 140737488355328) (hBw : B ≤ w.heap.size) :
    Calls Tryd.prog 50 #[.pointer (some ⟨b, 0, none⟩), .int .i32 r] w fun e w' => e = .returned (.tuple #[.int .i64 (Lib.runeCells r).length, .nilIface]) ∧ (Lib.BuilderAtF 81 5 B b (.pointer (some ⟨b, 0, none⟩)) (bs ++ Lib.runeCells r) w' ∧ Below B w w' ∧ Lib.OthersKept 5 (some b) w w') := Any.Builder_WriteRune_k Tryd.lays168 Tryd.Builder_Extra_168 B b bs r hr0 hr1 w h hlen hBw
end Go.Proofs

/- The walk of grid.Lines. -/
namespace Go.Proofs.YtinhmklpnkikgaaDoor
open Go.ChangeShapes Go.WideShapes Go.ChangeAt Go.RowKit
namespace Grd
open Txt (wd)
open Sty (isSt)
/-- The bytes of a row's runes, and without blanks at the end. -/
def rowBytes (row : List C) : List UInt8 := row.flatMap fun c => if c.1 = 0 then [] else Lib.encodeRune c.1
def lineB (row : List C) : ByteArray := ⟨(Lib.trimRightB (rowBytes row) 32).toArray⟩
def linesL (n hh : Nat) (cs : List C) : List ByteArray := (List.range hh).map fun y => lineB (rowAt n cs y)
/-- A slice of the call's own, of texts. -/
def OwnS (w : World) (base : Nat) (v : Value) (ss : List ByteArray) : Prop := ∃ (g : Nat) (t : TypeId), v = .slice (some ⟨g, 0, none⟩) ss.length ss.length ∧ base ≤ g ∧ w.heap[g]? = some (.cells (ss.map Value.string).toArray t (0, 0))
theorem builder_below {T e : TypeId} {B b : Nat} {bs : List Value} {w w' : World} (h : Lib.IsBuilderF T e B b bs w) (hb : Below w.heap.size w w') : Lib.IsBuilderF T e B b bs w' := by
  have key : ∀ p, Lib.BuilderAtF T e B b p bs w → Lib.BuilderAtF T e B b p bs w' := by
    rintro p ⟨hB, v, hh, hown, hne⟩
    refine ⟨hB, v, by rw [hb.block b (Array.getElem?_eq_some_iff.1 hh).1]; exact hh, ⟨hown.1, ?_⟩, hne⟩
    rcases hown.2 with hn | ⟨g, cap, cur, fz, hv, hbg, hg, rest⟩
    · exact .inl hn
    · exact .inr ⟨g, cap, cur, fz, hv, hbg, by rw [hb.block g (Array.getElem?_eq_some_iff.1 hg).1]; exact hg, rest⟩
  exact h.elim (fun x => .inl (key _ x)) (fun x => .inr (key _ x))
theorem encode_len (r : Int) : (Lib.encodeRune r).length ≤ 4 := by
  rw [← Lib.runeCells_length]; exact (Lib.runeCells_le r).2
theorem und_strs : Tryd.prog.underlying 60 = some (.slice 9) := by kernel_rfl
theorem info_str : (Tryd.prog.info? 9).map (fun i => (i.zero, i.size, i.bytes)) = some (some (.string ByteArray.empty), 1, 16) := by kernel_rfl
theorem make_strs (N : Nat) (hN : N ≤ 1000000) (w : World) :
    (Instr.makeSlice 60 (.int .i64 (N : Int)) (.int .i64 (N : Int))).run Tryd.prog w = .ok (.slice (some ⟨w.heap.size, 0, none⟩) N N) (w.alloc (.cells (madeCells #[.string ByteArray.empty] (N * 1)) 9)) := by
  obtain ⟨i, hi, hzz⟩ := Option.map_eq_some_iff.1 info_str
  simp only [Prod.mk.injEq] at hzz
  obtain ⟨hz, hs, hb⟩ := hzz
  have hr := run_make (P := Tryd.prog) w 60 9 i _ und_strs hi hz .i64 .i64 N N (by omega) (Int.le_refl _) (by rw [hb]; omega) (by omega)
  simp only [Int.toNat_natCast, hs] at hr
  exact hr
set_option maxHeartbeats 1000000 in
theorem lines_bad (a h : Int) (v : Value) (cs : List C) (w : World) (hT : Txt.Tab w) (hS : SliceAt w v cs) (hok : gridErr a h cs ≠ 0) :
    Calls Tryd.prog 31 #[.agg #[.int .i64 a, .int .i64 h, v]] w fun e w' => e = .returned (.tuple #[.slice none 0 0, .int .i64 (gridErr a h cs)]) ∧ Below w.heap.size w w' := by
  have kk : Below w.heap.size w (w.alloc (.cells #[.int .i64 a, .int .i64 h, v] 24)) := (Below.refl _ _).alloc (Nat.le_refl _) _
  have HK := check_any a h v cs _ (Tab.next hT kk) (hS.below kk)
  generalize gridErr a h cs = er at *
  have HK' : Hid (Calls Tryd.prog 11 #[.agg #[.int .i64 a, .int .i64 h, v]] (w.alloc (.cells #[.int .i64 a, .int .i64 h, v] 24)) fun e w' => e = .returned (.int .i64 er) ∧ Below (w.alloc (.cells #[.int .i64 a, .int .i64 h, v] 24)).heap.size (w.alloc (.cells #[.int .i64 a, .int .i64 h, v] 24)) w') := HK
  have ne : (er != 0) = true := by simpa using hok
  clear HK hok
  go_enter Tryd.func31, Tryd.ntmps31
  go_wp2_with (go_at_call 11; refine HK'.out.mono ?_; rintro e W1 ⟨rfl, b1⟩)
  go_ret2
  exact ⟨rfl, kk.trans (b1.mono kk.size)⟩
theorem cellR_in (n hh : Nat) (cs : List C) (hok : gridErr n hh cs = 0) (y j : Nat) (hy : y < hh) (hj : j < n) : 0 ≤ ((rowAt n cs y).getD j z0).1 ∧ ((rowAt n cs y).getD j z0).1 ≤ 1114111 := by
  obtain ⟨_, hL, hr⟩ := (gridErr_zero n hh cs).1 hok
  have := ((hr y hy).1 j (by rw [row_len n hh cs y hL hy]; exact hj)).1
  generalize ((rowAt n cs y).getD j z0).1 = r at *
  by_cases h0 : r = 0
  · omega
  · have := this h0
    unfold Txt.wd at this
    by_cases hc : r < 0 ∨ 1114111 < r
    · rw [if_pos hc] at this; exact absurd rfl this
    · omega
theorem rowBytes_next (row : List C) (j : Nat) (hj : j < row.length) : rowBytes (row.take (j + 1)) = rowBytes (row.take j) ++ (if (row.getD j z0).1 = 0 then [] else Lib.encodeRune (row.getD j z0).1) := by
  unfold rowBytes
  rw [List.take_add_one, List.flatMap_append, List.getElem?_eq_getElem hj]
  have : row.getD j z0 = row[j] := by simp [List.getD, hj]
  rw [this]
  simp
end Grd
end Go.Proofs.YtinhmklpnkikgaaDoor
