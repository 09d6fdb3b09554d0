/- The walks of the reference's IsStyle, colourOf and bitsOf. -/
import Derived.Test.YthnphjdpifpehaaDoorStyleTurn
namespace Go.Proofs.YthnphjdpifpehaaDoor
open Go.ChangeShapes Go.WideShapes Go.ChangeAt Go.RowKit
namespace Sty
theorem min3 (f b x : Int) (w : World) : (Builtin.min_ #[3, 3, 3] 3 #[.int .i64 f, .int .i64 b, .int .i64 x]).run Tryd.prog w = .ok (.int .i64 (min (min f b) x)) w := by
  simp [Builtin.min_, Builtin.min2, go_sem]
  repeat' split
  all_goals omega
theorem isStyle_any (f b x : Int) (w : World) :
    Calls Tryd.prog 8 #[.agg #[.int .i64 f, .int .i64 b, .int .i64 x]] w fun e w' => e = .returned (.bool (isSt (f, b, x))) ∧ Below w.heap.size w w' := by
  go_enter Tryd.func8, Tryd.ntmps8
  have hmin := min3 f b x
  go_wp2
  all_goals (go_ret; exact ⟨ret_bool (by rw [Bool.eq_iff_iff]; simp [isSt]; try omega), (Below.refl _ _).alloc (Nat.le_refl _) _⟩)
theorem own_new (w : World) (xs : List Int) (c : Nat) (hc : c = xs.length) (hm : c ≤ 100) : (w.alloc (.cells (vals xs).toArray 3)).ownsRow w.heap.size 3 1 (.slice (some ⟨w.heap.size, 0, none⟩) c c) xs.length (vals xs) :=
  ⟨by simp [vals], .inr ⟨w.heap.size, c, (vals xs).toArray, by rw [hc], Nat.le_refl _, heap_alloc_new _ _, by omega, by unfold maxLen; omega, by simp [vals, hc], by simp only [Nat.mul_one]; exact List.take_of_length_le (by simp [vals])⟩⟩
theorem colourOf_own (c : Int) (g : Bool) (w : World) (h0 : 0 ≤ c) (h1 : c ≤ 256) :
    Calls Tryd.prog 23 #[.int .i64 c, .bool g] w fun e w' => ∃ v', e = .returned v' ∧ w'.ownsRow w.heap.size 3 1 v' (colL c (if g then 10 else 0)).length (vals (colL c (if g then 10 else 0))) ∧ Below w.heap.size w w' := by
  have b0 : ∀ ob, Below w.heap.size w (w.alloc ob) := fun ob => (Below.refl _ _).alloc (Nat.le_refl _) _
  cases g
  · simp only [Bool.false_eq_true, if_false]
    by_cases e0 : c = 0
    · have HE : Hid (colL c 0 = [39]) := by unfold Hid colL; rw [if_pos e0]; rfl
      rw [HE.out]
      go_enter Tryd.func23, Tryd.ntmps23
      go_wp2
      go_ret
      exact ⟨_, rfl, own_new w [39] 1 rfl (by omega), b0 _⟩
    · by_cases e1 : c ≤ 8
      · have HE : Hid (colL c 0 = [29 + c]) := by unfold Hid colL; rw [if_neg e0, if_pos e1]; simp
        rw [HE.out]
        go_enter Tryd.func23, Tryd.ntmps23
        go_wp2
        go_ret
        exact ⟨_, rfl, own_new w [29 + c] 1 rfl (by omega), b0 _⟩
      · by_cases e2 : c ≤ 16
        · have HE : Hid (colL c 0 = [81 + c]) := by unfold Hid colL; rw [if_neg e0, if_neg e1, if_pos e2]; simp
          rw [HE.out]
          go_enter Tryd.func23, Tryd.ntmps23
          go_wp2
          go_ret
          exact ⟨_, rfl, own_new w [81 + c] 1 rfl (by omega), b0 _⟩
        · have HE : Hid (colL c 0 = [38, 5, c - 1]) := by unfold Hid colL; rw [if_neg e0, if_neg e1, if_neg e2]; rfl
          rw [HE.out]
          go_enter Tryd.func23, Tryd.ntmps23
          go_wp2
          go_ret
          exact ⟨_, rfl, own_new w [38, 5, c - 1] 3 rfl (by omega), b0 _⟩
  · simp only [if_true]
    by_cases e0 : c = 0
    · have HE : Hid (colL c 10 = [49]) := by unfold Hid colL; rw [if_pos e0]; rfl
      rw [HE.out]
      go_enter Tryd.func23, Tryd.ntmps23
      go_wp2
      go_ret
      exact ⟨_, rfl, own_new w [49] 1 rfl (by omega), b0 _⟩
    · by_cases e1 : c ≤ 8
      · have HE : Hid (colL c 10 = [29 + c + 10]) := by unfold Hid colL; rw [if_neg e0, if_pos e1]
        rw [HE.out]
        go_enter Tryd.func23, Tryd.ntmps23
        go_wp2
        go_ret
        exact ⟨_, rfl, own_new w [29 + c + 10] 1 rfl (by omega), b0 _⟩
      · by_cases e2 : c ≤ 16
        · have HE : Hid (colL c 10 = [81 + c + 10]) := by unfold Hid colL; rw [if_neg e0, if_neg e1, if_pos e2]
          rw [HE.out]
          go_enter Tryd.func23, Tryd.ntmps23
          go_wp2
          go_ret
          exact ⟨_, rfl, own_new w [81 + c + 10] 1 rfl (by omega), b0 _⟩
        · have HE : Hid (colL c 10 = [48, 5, c - 1]) := by unfold Hid colL; rw [if_neg e0, if_neg e1, if_neg e2]; rfl
          rw [HE.out]
          go_enter Tryd.func23, Tryd.ntmps23
          go_wp2
          go_ret
          exact ⟨_, rfl, own_new w [48, 5, c - 1] 3 rfl (by omega), b0 _⟩
def idx : List Nat := [0, 1, 2, 3, 4, 5, 6]
def tb : List Int := [1, 2, 3, 4, 5, 7, 9]
def has (b : Int) (k : Nat) : Bool := bits .and .i64 (b / 2 ^ k) 1 == 1
def refL (b : Int) (l : List Nat) : List Int := (l.filter (has b)).map (fun k => tb.getD k 0)
theorem idx_at (k : Nat) (hk : k < 7) : idx.drop k = k :: idx.drop (k + 1) := by
  have : k = 0 ∨ k = 1 ∨ k = 2 ∨ k = 3 ∨ k = 4 ∨ k = 5 ∨ k = 6 := by omega
  rcases this with rfl | rfl | rfl | rfl | rfl | rfl | rfl <;> rfl
set_option maxHeartbeats 1000000 in
theorem bitsOf_own (b : Int) (w : World) :
    Calls Tryd.prog 22 #[.int .i64 b] w fun e w' => ∃ v', e = .returned v' ∧ w'.ownsRow w.heap.size 3 1 v' (refL b idx).length (vals (refL b idx)) ∧ (refL b idx = [] → v' = .slice none 0 0) ∧ Below w.heap.size w w' := by
  obtain ⟨i0, hi, hz0, hz1, hz2⟩ := info_parts info_int
  go_enter Tryd.func22, Tryd.ntmps22
  go_wp2_with fail
  go_loopg [3, 8] 7 (fun g l i wr => ∃ (k : Nat) (xs : List Int), k ≤ 7 ∧ 7 - k ≤ g ∧ i = .int .i64 k ∧ wr.ownsRow (w.heap.size + 1) 3 1 l xs.length (vals xs) ∧ (xs = [] → l = .slice none 0 0) ∧ xs.length ≤ k ∧ Below (w.heap.size + 1) (w.alloc (.cells (vals tb).toArray 3)) wr ∧ xs ++ refL b (idx.drop k) = refL b idx)
  case atStart => exact ⟨0, [], by omega, by omega, rfl, ⟨rfl, .inl ⟨rfl, rfl⟩⟩, fun _ => rfl, by simp, Below.refl _ _, rfl⟩
  case round =>
    obtain ⟨k, xs, hk, hg, rfl, hown, hnil0, hxl, hb, hl⟩ := hrel
    have HN : Hid (xs = [] → _ = Value.slice none 0 0) := hnil0
    clear hnil0
    have HL : Hid (xs ++ refL b (idx.drop k) = refL b idx) := hl
    clear hl
    have hsz : w.heap.size + 1 ≤ wr.heap.size := by have := hb.size; simp at this; omega
    have hB0 : Below w.heap.size w wr := ((Below.refl _ w).alloc (Nat.le_refl _) _).trans (hb.mono (by omega))
    by_cases hlt : k < 7
    · have HD : Hid (idx.drop k = k :: idx.drop (k + 1)) := idx_at k hlt
      have q : wr.cell? ⟨w.heap.size, k, none⟩ = some (.int .i64 (tb.getD k 0)) := by
        rw [hb.cell (p := ⟨w.heap.size, k, none⟩) (by simp), World.cell?_alloc_at _ _ _ _ rfl]
        have : k = 0 ∨ k = 1 ∨ k = 2 ∨ k = 3 ∨ k = 4 ∨ k = 5 ∨ k = 6 := by omega
        rcases this with rfl | rfl | rfl | rfl | rfl | rfl | rfl <;> rfl
      cases hm : has b k with
      | false =>
        have hz : (bits .and .i64 (b / 2 ^ k) 1 == 1) = false := hm
        have HS : Hid (refL b (k :: idx.drop (k + 1)) = refL b (idx.drop (k + 1))) := by simp [Hid, refL, hm]
        clear hm
        generalize tb.getD k 0 = y at *
        go_wp2_with fail
        go_roundg (7 - (k + 1))
        case measure => omega
        case rel => exact ⟨k + 1, xs, by omega, by omega, by go_num, hown, HN.out, by omega, hb, by rw [← HL.out, HD.out, HS.out]⟩
      | true =>
        have hz : (bits .and .i64 (b / 2 ^ k) 1 == 1) = true := hm
        have HS : Hid (refL b (k :: idx.drop (k + 1)) = tb.getD k 0 :: refL b (idx.drop (k + 1))) := by simp [Hid, refL, hm]
        clear hm
        generalize tb.getD k 0 = y at *
        go_wp2_with (at_builtin; refine wpList_append_own _ rfl _ _ 24 rfl (w.heap.size + 1) 3 i0 (.int .i64 0) 1 8 Tryd.underlying24 hi hz0 hz1 hz2 rfl (by decide) _ _ _ rfl (hown.alloc _) ⟨wr.heap.size, 0, none⟩ 1 1 (vals [y]) rfl rfl (cells_new _ _ _) (ints_oneCell .i64 _) (by unfold maxLen; omega) (by omega) (by simp; omega) ?_; intro v' w2 hown' hgrow hnil)
        have hlt2 := (hown.alloc (.cells (vals [y]).toArray 3)).lt
        go_roundg (7 - (k + 1))
        case measure => omega
        case rel =>
          refine ⟨k + 1, xs ++ [y], by omega, by omega, by go_num, by simpa [vals] using hown', by simp, by simp; omega, (hb.alloc hsz _).grown hgrow (by simp; omega) (fun k hk => (hlt2 k hk).1), ?_⟩
          rw [← HL.out, HD.out, HS.out]
          simp
    · have hk7 : k = 7 := by omega
      subst hk7
      have HA : Hid (xs = refL b idx) := by
        have h := HL.out
        have h7 : refL b (idx.drop 7) = [] := rfl
        rw [h7, List.append_nil] at h
        exact h
      go_wp2_with fail
      go_ret
      exact ⟨_, rfl, by rw [← HA.out]; exact own_mono hown (by omega), by rw [← HA.out]; exact HN.out, hB0⟩
theorem ref_nums : ∀ b : Fin 128, refL (b.1 : Int) idx = bitsL 0 (b.1 : Int) looks := by decide +kernel
theorem and_not : ∀ a b : Fin 128, bits .and .i64 (b.1 : Int) (127 - (a.1 : Int)) = bits .andNot .i64 (b.1 : Int) (a.1 : Int) := by decide +kernel
theorem not_in : ∀ a b : Fin 128, (bits .andNot .i64 (b.1 : Int) (a.1 : Int)).toNat < 128 ∧ 0 ≤ bits .andNot .i64 (b.1 : Int) (a.1 : Int) := by decide +kernel
theorem not_zero : ∀ c : Fin 128, bits .andNot .i64 (c.1 : Int) 0 = (c.1 : Int) := by decide +kernel
theorem ref_turn (a b : Int) (ha0 : 0 ≤ a) (ha1 : a ≤ 127) (hb0 : 0 ≤ b) (hb1 : b ≤ 127) :
    refL (bits .and .i64 b (127 - a)) idx = bitsL a b looks ∧ bits .and .i64 a (127 - b) = bits .andNot .i64 a b := by
  have h1 := and_not ⟨a.toNat, by omega⟩ ⟨b.toNat, by omega⟩
  have h2 := and_not ⟨b.toNat, by omega⟩ ⟨a.toNat, by omega⟩
  have h3 := not_in ⟨a.toNat, by omega⟩ ⟨b.toNat, by omega⟩
  simp only [show ((a.toNat : Nat) : Int) = a by omega, show ((b.toNat : Nat) : Int) = b by omega] at h1 h2 h3
  refine ⟨?_, h2⟩
  rw [h1]
  have h4 := ref_nums ⟨(bits .andNot .i64 b a).toNat, h3.1⟩
  have h5 := not_zero ⟨(bits .andNot .i64 b a).toNat, h3.1⟩
  simp only [show (((bits .andNot .i64 b a).toNat : Nat) : Int) = bits .andNot .i64 b a by have := h3.2; omega] at h4 h5
  rw [h4]
  unfold bitsL
  congr 1
  apply List.filter_congr
  intro k _
  unfold more
  rw [h5]
end Sty
end Go.Proofs.YthnphjdpifpehaaDoor
