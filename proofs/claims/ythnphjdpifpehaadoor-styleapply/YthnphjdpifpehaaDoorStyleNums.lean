/- The walks of style.appendColour, style.additions, style.Numbers and style.Turn. -/
import Derived.Test.YthnphjdpifpehaaDoorStyleAgg
import Derived.WalkSmall
import Derived.Maps.AppendAt
namespace Go.Proofs.YthnphjdpifpehaaDoor
open Go.ChangeShapes Go.WideShapes Go.ChangeAt Go.RowKit
namespace Sty
theorem own_below {w w' : World} {base : Nat} {e : TypeId} {size : Nat} {v : Value} {n : Nat} {xs : List Value} (h : w.ownsRow base e size v n xs) (hb : Below w.heap.size w w') : w'.ownsRow base e size v n xs := by
  refine ⟨h.1, ?_⟩
  rcases h.2 with h2 | ⟨g, cap, cur, hv, hg, hh, r⟩
  · exact .inl h2
  · exact .inr ⟨g, cap, cur, hv, hg, by rw [hb.block g (Array.getElem?_eq_some_iff.1 hh).1]; exact hh, r⟩
theorem info_int : (Tryd.prog.info? 3).map (fun i => (i.zero, i.size, i.bytes)) = some (some (.int .i64 0), 1, 8) := by kernel_rfl
theorem own_mono {w : World} {base base' : Nat} {e : TypeId} {size : Nat} {v : Value} {n : Nat} {xs : List Value} (h : w.ownsRow base e size v n xs) (hb : base' ≤ base) : w.ownsRow base' e size v n xs := by
  refine ⟨h.1, ?_⟩
  rcases h.2 with h2 | ⟨g, cap, cur, hv, hg, r⟩
  · exact .inl h2
  · exact .inr ⟨g, cap, cur, hv, by omega, r⟩
def vals (xs : List Int) : List Value := xs.map (Value.int .i64)
/-- The numbers of a colour. -/
def colL (c more : Int) : List Int := if c = 0 then [39 + more] else if c ≤ 8 then [29 + c + more] else if c ≤ 16 then [81 + c + more] else [38 + more, 5, c - 1]
theorem colL_ne (c m : Int) : colL c m ≠ [] := by
  unfold colL
  repeat' split
  all_goals simp
theorem cells_new (w : World) (xs : List Value) (t : TypeId) : ∀ j u, xs[j]? = some u → (w.alloc (.cells xs.toArray t)).cell? ((⟨w.heap.size, 0, none⟩ : Addr).add j) = some u := by
  intro j u h
  rw [add_plain, Nat.zero_add, World.cell?_alloc_at _ _ _ _ rfl]
  simpa using h
set_option maxHeartbeats 1000000 in
theorem colour_own (v : Value) (xs : List Int) (c more : Int) (base : Nat) (w : World) (hown : w.ownsRow base 3 1 v xs.length (vals xs)) (hB : base ≤ w.heap.size) (hn : xs.length ≤ 1000)
    (h0 : 0 ≤ c) (h1 : c ≤ 256) (hm : more = 0 ∨ more = 10) :
    Calls Tryd.prog 29 #[v, .int .i64 c, .int .i64 more] w fun e w' => ∃ v', e = .returned v' ∧ w'.ownsRow base 3 1 v' (xs ++ colL c more).length (vals (xs ++ colL c more)) ∧ Below base w w' := by
  obtain ⟨i0, hi, hz0, hz1, hz2⟩ := info_parts info_int
  rcases hm with rfl | rfl
  · by_cases hc0 : c = 0
    · have HE : Hid (colL c 0 = [39]) := by unfold Hid colL; rw [if_pos hc0]; rfl
      go_enter Tryd.func29, Tryd.ntmps29
      go_wp2_with (at_builtin; refine wpList_append_own _ rfl _ _ 24 rfl base 3 i0 (.int .i64 0) 1 8 Tryd.underlying24 hi hz0 hz1 hz2 rfl (by decide) _ _ _ rfl (hown.alloc _) ⟨w.heap.size, 0, none⟩ 1 1 (vals [39]) rfl rfl (cells_new _ _ _) (ints_oneCell .i64 _) (by unfold maxLen; omega) (by omega) (by simp; omega) ?_; intro v' w2 hown' hgrow hnil)
      go_ret
      have hlt := (hown.alloc (.cells (vals [39]).toArray 3)).lt
      refine ⟨_, rfl, ?_, ((Below.refl base w).alloc hB _).grown hgrow (by simp; omega) (fun k hk => (hlt k hk).1)⟩
      rw [HE.out]
      simpa [vals] using hown'
    · by_cases hc1 : c ≤ 8
      · have HE : Hid (colL c 0 = [29 + c]) := by unfold Hid colL; rw [if_neg hc0, if_pos hc1]; simp
        go_enter Tryd.func29, Tryd.ntmps29
        go_wp2_with (at_builtin; refine wpList_append_own _ rfl _ _ 24 rfl base 3 i0 (.int .i64 0) 1 8 Tryd.underlying24 hi hz0 hz1 hz2 rfl (by decide) _ _ _ rfl (hown.alloc _) ⟨w.heap.size, 0, none⟩ 1 1 (vals [29 + c]) rfl rfl (cells_new _ _ _) (ints_oneCell .i64 _) (by unfold maxLen; omega) (by omega) (by simp; omega) ?_; intro v' w2 hown' hgrow hnil)
        go_ret
        have hlt := (hown.alloc (.cells (vals [29 + c]).toArray 3)).lt
        refine ⟨_, rfl, ?_, ((Below.refl base w).alloc hB _).grown hgrow (by simp; omega) (fun k hk => (hlt k hk).1)⟩
        rw [HE.out]
        simpa [vals] using hown'
      · by_cases hc2 : c ≤ 16
        · have HE : Hid (colL c 0 = [81 + c]) := by unfold Hid colL; rw [if_neg hc0, if_neg hc1, if_pos hc2]; simp
          go_enter Tryd.func29, Tryd.ntmps29
          go_wp2_with (at_builtin; refine wpList_append_own _ rfl _ _ 24 rfl base 3 i0 (.int .i64 0) 1 8 Tryd.underlying24 hi hz0 hz1 hz2 rfl (by decide) _ _ _ rfl (hown.alloc _) ⟨w.heap.size, 0, none⟩ 1 1 (vals [81 + c]) rfl rfl (cells_new _ _ _) (ints_oneCell .i64 _) (by unfold maxLen; omega) (by omega) (by simp; omega) ?_; intro v' w2 hown' hgrow hnil)
          go_ret
          have hlt := (hown.alloc (.cells (vals [81 + c]).toArray 3)).lt
          refine ⟨_, rfl, ?_, ((Below.refl base w).alloc hB _).grown hgrow (by simp; omega) (fun k hk => (hlt k hk).1)⟩
          rw [HE.out]
          simpa [vals] using hown'
        · have HE : Hid (colL c 0 = [38, 5, c - 1]) := by unfold Hid colL; rw [if_neg hc0, if_neg hc1, if_neg hc2]; rfl
          go_enter Tryd.func29, Tryd.ntmps29
          go_wp2_with (at_builtin; refine wpList_append_own _ rfl _ _ 24 rfl base 3 i0 (.int .i64 0) 1 8 Tryd.underlying24 hi hz0 hz1 hz2 rfl (by decide) _ _ _ rfl (hown.alloc _) ⟨w.heap.size, 0, none⟩ 3 3 (vals [38, 5, c - 1]) rfl rfl (cells_new _ _ _) (ints_oneCell .i64 _) (by unfold maxLen; omega) (by omega) (by simp; omega) ?_; intro v' w2 hown' hgrow hnil)
          go_ret
          have hlt := (hown.alloc (.cells (vals [38, 5, c - 1]).toArray 3)).lt
          refine ⟨_, rfl, ?_, ((Below.refl base w).alloc hB _).grown hgrow (by simp; omega) (fun k hk => (hlt k hk).1)⟩
          rw [HE.out]
          simpa [vals] using hown'
  · by_cases hc0 : c = 0
    · have HE : Hid (colL c 10 = [49]) := by unfold Hid colL; rw [if_pos hc0]; rfl
      go_enter Tryd.func29, Tryd.ntmps29
      go_wp2_with (at_builtin; refine wpList_append_own _ rfl _ _ 24 rfl base 3 i0 (.int .i64 0) 1 8 Tryd.underlying24 hi hz0 hz1 hz2 rfl (by decide) _ _ _ rfl (hown.alloc _) ⟨w.heap.size, 0, none⟩ 1 1 (vals [49]) rfl rfl (cells_new _ _ _) (ints_oneCell .i64 _) (by unfold maxLen; omega) (by omega) (by simp; omega) ?_; intro v' w2 hown' hgrow hnil)
      go_ret
      have hlt := (hown.alloc (.cells (vals [49]).toArray 3)).lt
      refine ⟨_, rfl, ?_, ((Below.refl base w).alloc hB _).grown hgrow (by simp; omega) (fun k hk => (hlt k hk).1)⟩
      rw [HE.out]
      simpa [vals] using hown'
    · by_cases hc1 : c ≤ 8
      · have HE : Hid (colL c 10 = [29 + c + 10]) := by unfold Hid colL; rw [if_neg hc0, if_pos hc1]
        go_enter Tryd.func29, Tryd.ntmps29
        go_wp2_with (at_builtin; refine wpList_append_own _ rfl _ _ 24 rfl base 3 i0 (.int .i64 0) 1 8 Tryd.underlying24 hi hz0 hz1 hz2 rfl (by decide) _ _ _ rfl (hown.alloc _) ⟨w.heap.size, 0, none⟩ 1 1 (vals [29 + c + 10]) rfl rfl (cells_new _ _ _) (ints_oneCell .i64 _) (by unfold maxLen; omega) (by omega) (by simp; omega) ?_; intro v' w2 hown' hgrow hnil)
        go_ret
        have hlt := (hown.alloc (.cells (vals [29 + c + 10]).toArray 3)).lt
        refine ⟨_, rfl, ?_, ((Below.refl base w).alloc hB _).grown hgrow (by simp; omega) (fun k hk => (hlt k hk).1)⟩
        rw [HE.out]
        simpa [vals] using hown'
      · by_cases hc2 : c ≤ 16
        · have HE : Hid (colL c 10 = [81 + c + 10]) := by unfold Hid colL; rw [if_neg hc0, if_neg hc1, if_pos hc2]
          go_enter Tryd.func29, Tryd.ntmps29
          go_wp2_with (at_builtin; refine wpList_append_own _ rfl _ _ 24 rfl base 3 i0 (.int .i64 0) 1 8 Tryd.underlying24 hi hz0 hz1 hz2 rfl (by decide) _ _ _ rfl (hown.alloc _) ⟨w.heap.size, 0, none⟩ 1 1 (vals [81 + c + 10]) rfl rfl (cells_new _ _ _) (ints_oneCell .i64 _) (by unfold maxLen; omega) (by omega) (by simp; omega) ?_; intro v' w2 hown' hgrow hnil)
          go_ret
          have hlt := (hown.alloc (.cells (vals [81 + c + 10]).toArray 3)).lt
          refine ⟨_, rfl, ?_, ((Below.refl base w).alloc hB _).grown hgrow (by simp; omega) (fun k hk => (hlt k hk).1)⟩
          rw [HE.out]
          simpa [vals] using hown'
        · have HE : Hid (colL c 10 = [48, 5, c - 1]) := by unfold Hid colL; rw [if_neg hc0, if_neg hc1, if_neg hc2]; rfl
          go_enter Tryd.func29, Tryd.ntmps29
          go_wp2_with (at_builtin; refine wpList_append_own _ rfl _ _ 24 rfl base 3 i0 (.int .i64 0) 1 8 Tryd.underlying24 hi hz0 hz1 hz2 rfl (by decide) _ _ _ rfl (hown.alloc _) ⟨w.heap.size, 0, none⟩ 3 3 (vals [48, 5, c - 1]) rfl rfl (cells_new _ _ _) (ints_oneCell .i64 _) (by unfold maxLen; omega) (by omega) (by simp; omega) ?_; intro v' w2 hown' hgrow hnil)
          go_ret
          have hlt := (hown.alloc (.cells (vals [48, 5, c - 1]).toArray 3)).lt
          refine ⟨_, rfl, ?_, ((Below.refl base w).alloc hB _).grown hgrow (by simp; omega) (fun k hk => (hlt k hk).1)⟩
          rw [HE.out]
          simpa [vals] using hown'

/-- The bits that are set anew. -/
def more (fb tb : Int) (k : Int × Int × Int) : Bool := bits .and .i64 (bits .andNot .i64 tb fb) k.2.2 != 0
def bitsL (fb tb : Int) (l : List (Int × Int × Int)) : List Int := (l.filter (more fb tb)).map (·.1)
def addsL (f t : Int × Int × Int) : List Int := bitsL f.2.2 t.2.2 looks ++ (if t.1 = f.1 then [] else colL t.1 0) ++ (if t.2.1 = f.2.1 then [] else colL t.2.1 10)
set_option maxHeartbeats 2000000 in
theorem additions_own (ff fb fx tf tb tx : Int) (w : World) (hT : Tab w) (h0 : 0 ≤ tf) (h1 : tf ≤ 256) (h2 : 0 ≤ tb) (h3 : tb ≤ 256) :
    Calls Tryd.prog 21 #[.agg #[.int .i64 ff, .int .i64 fb, .int .i64 fx], .agg #[.int .i64 tf, .int .i64 tb, .int .i64 tx]] w fun e w' => ∃ v', e = .returned v' ∧ w'.ownsRow w.heap.size 3 1 v' (addsL (ff, fb, fx) (tf, tb, tx)).length (vals (addsL (ff, fb, fx) (tf, tb, tx))) ∧ (addsL (ff, fb, fx) (tf, tb, tx) = [] → v' = .slice none 0 0) ∧ Below w.heap.size w w' := by
  obtain ⟨i0, hi, hz0, hz1, hz2⟩ := info_parts info_int
  obtain ⟨tt, fr, hT⟩ := hT
  have HT2 : Hid (∀ o1 o2, ((w.alloc o1).alloc o2).heap[0]? = some (.cells lookCells tt fr)) := fun o1 o2 => by
    have hp := (Array.getElem?_eq_some_iff.1 hT).1
    rw [Below.heap_alloc _ _ _ (by simp), Below.heap_alloc _ _ _ hp]; exact hT
  clear hT
  go_enter Tryd.func21, Tryd.ntmps21
  go_wp2_with (refine wpList_load_row rfl 54 (.global 0) rfl 0 rfl _ lookCells _ _ (HT2.out _ _) Tryd.underlying54 rfl (by kernel_rfl) ?_)
  go_loopg [5, 9] 7 (fun g l i wr => ∃ (k : Nat) (xs : List Int), k ≤ 7 ∧ 7 - k ≤ g ∧ i = .int .i64 k ∧ wr.ownsRow (w.heap.size + 2) 3 1 l xs.length (vals xs) ∧ (xs = [] → l = .slice none 0 0) ∧ xs.length ≤ k ∧ Below (w.heap.size + 2) ((w.alloc (.cells #[.int .i64 ff, .int .i64 fb, .int .i64 fx] 23)).alloc (.cells #[.int .i64 tf, .int .i64 tb, .int .i64 tx] 23)) wr ∧ xs ++ bitsL fx tx (looks.drop k) = bitsL fx tx looks)
  case atStart => exact ⟨0, [], by omega, by omega, rfl, ⟨rfl, .inl ⟨rfl, rfl⟩⟩, fun _ => rfl, by simp, Below.refl _ _, rfl⟩
  case round =>
    obtain ⟨k, xs, hk, hg, rfl, hown, hnil0, hxl, hb, hl⟩ := hrel
    have HN : Hid (xs = [] → _ = Value.slice none 0 0) := hnil0
    clear hnil0
    have HL : Hid (xs ++ bitsL fx tx (looks.drop k) = bitsL fx tx looks) := hl
    clear hl
    have hsz : w.heap.size + 2 ≤ wr.heap.size := by have := hb.size; simp at this; omega
    have hvf : wr.heap[w.heap.size]? = some (.cells #[.int .i64 ff, .int .i64 fb, .int .i64 fx] 23 (0, 0)) := (hb.block _ (by omega)).trans ((Below.heap_alloc _ _ _ (by simp)).trans (heap_alloc_new _ _))
    have hvt : wr.heap[w.heap.size + 1]? = some (.cells #[.int .i64 tf, .int .i64 tb, .int .i64 tx] 23 (0, 0)) := (hb.block _ (by omega)).trans (new2 w _ _ _)
    have hB0 : Below w.heap.size w wr := (((Below.refl _ w).alloc (Nat.le_refl _) _).alloc (by simp) _).trans (hb.mono (by omega))
    by_cases hlt : k < 7
    · obtain ⟨a, o, c, hd, hao, hi'⟩ := looks_at k hlt
      have HD : Hid (looks.drop k = (a, o, c) :: looks.drop (k + 1)) := hd
      clear hd
      have hi' := hi' wr
      have hKf : (wr.alloc (.cells #[.int .i64 a, .int .i64 o, .int .i64 c] 53)).heap[w.heap.size]? = _ := (Below.heap_alloc _ _ _ (by omega)).trans hvf
      have hKt : (wr.alloc (.cells #[.int .i64 a, .int .i64 o, .int .i64 c] 53)).heap[w.heap.size + 1]? = _ := (Below.heap_alloc _ _ _ (by omega)).trans hvt
      have ⟨c0, c1, c2, cf⟩ := cells_of hKf
      have ⟨d0, d1, d2, df⟩ := cells_of hKt
      cases hm : more fx tx (a, o, c) with
      | false =>
        have hz : (bits .and .i64 (bits .andNot .i64 tx fx) c != 0) = false := hm
        have HS : Hid (bitsL fx tx ((a, o, c) :: looks.drop (k + 1)) = bitsL fx tx (looks.drop (k + 1))) := by simp [Hid, bitsL, hm]
        clear hm
        go_wp2_with fail
        go_roundg (7 - (k + 1))
        case measure => omega
        case rel => exact ⟨k + 1, xs, by omega, by omega, by go_num, hown.alloc _, HN.out, by omega, hb.alloc hsz _, by rw [← HL.out, HD.out, HS.out]⟩
      | true =>
        have hz : (bits .and .i64 (bits .andNot .i64 tx fx) c != 0) = true := hm
        have HS : Hid (bitsL fx tx ((a, o, c) :: looks.drop (k + 1)) = a :: bitsL fx tx (looks.drop (k + 1))) := by simp [Hid, bitsL, hm]
        clear hm
        have hcn := cells_new (wr.alloc (.cells #[.int .i64 a, .int .i64 o, .int .i64 c] 53)) (vals [a]) 3
        rw [World.size_alloc] at hcn
        go_wp2_with (at_builtin; refine wpList_append_own _ rfl _ _ 24 rfl (w.heap.size + 2) 3 i0 (.int .i64 0) 1 8 Tryd.underlying24 hi hz0 hz1 hz2 rfl (by decide) _ _ _ rfl ((hown.alloc _).alloc _) ⟨wr.heap.size + 1, 0, none⟩ 1 1 (vals [a]) rfl rfl hcn (ints_oneCell .i64 _) (by unfold maxLen; omega) (by omega) (by simp; omega) ?_; intro v' w2 hown' hgrow hnil)
        have hlt2 := ((hown.alloc (.cells #[.int .i64 a, .int .i64 o, .int .i64 c] 53)).alloc (.cells (vals [a]).toArray 3)).lt
        go_roundg (7 - (k + 1))
        case measure => omega
        case rel =>
          refine ⟨k + 1, xs ++ [a], by omega, by omega, by go_num, by simpa [vals] using hown', by simp, by simp; omega, ((hb.alloc hsz _).alloc (by simp; omega) _).grown hgrow (by simp; omega) (fun k hk => (hlt2 k hk).1), ?_⟩
          rw [← HL.out, HD.out, HS.out]
          simp
    · have hk7 : k = 7 := by omega
      subst hk7
      have HA : Hid (xs = bitsL fx tx looks) := by
        have h := HL.out
        have h7 : bitsL fx tx (looks.drop 7) = [] := rfl
        rw [h7, List.append_nil] at h
        exact h
      have ⟨c0, c1, c2, cf⟩ := cells_of hvf
      have ⟨d0, d1, d2, df⟩ := cells_of hvt
      have hcl : ∀ c m : Int, (colL c m).length ≤ 3 := by
        intro c m
        unfold colL
        repeat' split
        all_goals simp
      have hc1 := hcl tf 0
      by_cases e1 : tf = ff
      · by_cases e2 : tb = fb
        · have HE : Hid (addsL (ff, fb, fx) (tf, tb, tx) = xs) := by simp [Hid, addsL, e1, e2, HA.out]
          go_wp2_with fail
          go_ret
          exact ⟨_, rfl, by rw [HE.out]; exact own_mono hown (by omega), by rw [HE.out]; exact HN.out, hB0⟩
        · have HE : Hid (addsL (ff, fb, fx) (tf, tb, tx) = xs ++ colL tb 10) := by simp [Hid, addsL, e1, e2, HA.out]
          go_wp2_with (go_at_call 29; refine (colour_own _ xs tb 10 (w.heap.size + 2) wr hown hsz (by omega) h2 h3 (Or.inr rfl)).mono ?_; rintro e W1 ⟨v1, rfl, own1, b1⟩)
          go_ret
          exact ⟨_, rfl, by rw [HE.out]; exact own_mono own1 (by omega), by rw [HE.out]; simp [colL_ne], hB0.trans (b1.mono (by omega))⟩
      · by_cases e2 : tb = fb
        · have HE : Hid (addsL (ff, fb, fx) (tf, tb, tx) = xs ++ colL tf 0) := by simp [Hid, addsL, e1, e2, HA.out]
          go_wp2_with (go_at_call 29; refine (colour_own _ xs tf 0 (w.heap.size + 2) wr hown hsz (by omega) h0 h1 (Or.inl rfl)).mono ?_; rintro e W1 ⟨v1, rfl, own1, b1⟩; have s1 := b1.size; have gf := (b1.block w.heap.size (by omega)).trans hvf; have gt := (b1.block (w.heap.size + 1) (by omega)).trans hvt; have ⟨f0, f1, f2, ff'⟩ := cells_of gf; have ⟨g0, g1, g2, gf'⟩ := cells_of gt)
          go_ret
          exact ⟨_, rfl, by rw [HE.out]; exact own_mono own1 (by omega), by rw [HE.out]; simp [colL_ne], hB0.trans (b1.mono (by omega))⟩
        · have HE : Hid (addsL (ff, fb, fx) (tf, tb, tx) = xs ++ colL tf 0 ++ colL tb 10) := by simp [Hid, addsL, e1, e2, HA.out]
          go_wp2_with (first
            | (go_at_call 29; refine (colour_own _ (xs ++ colL tf 0) tb 10 (w.heap.size + 2) W1 own1 (by omega) (by simp; omega) h2 h3 (Or.inr rfl)).mono ?_; rintro e W2 ⟨v2, rfl, own2, b2⟩)
            | (go_at_call 29; refine (colour_own _ xs tf 0 (w.heap.size + 2) wr hown hsz (by omega) h0 h1 (Or.inl rfl)).mono ?_; rintro e W1 ⟨v1, rfl, own1, b1⟩; have s1 := b1.size; have gf := (b1.block w.heap.size (by omega)).trans hvf; have gt := (b1.block (w.heap.size + 1) (by omega)).trans hvt; have ⟨f0, f1, f2, ff'⟩ := cells_of gf; have ⟨g0, g1, g2, gf'⟩ := cells_of gt))
          go_ret
          exact ⟨_, rfl, by rw [HE.out]; exact own_mono own2 (by omega), by rw [HE.out]; simp [colL_ne], (hB0.trans (b1.mono (by omega))).trans (b2.mono (by omega))⟩
/-- From what the call owns to the slice as numbers. -/
theorem own_ints {w : World} {base : Nat} {v : Value} {xs : List Int} (h : w.ownsRow base 3 1 v xs.length (vals xs)) : IntsAt w v xs := by
  rcases h.2 with ⟨rfl, h0⟩ | ⟨g, cap, cur, rfl, _, hh, hc, _, hs, htk⟩
  · exact .inl ⟨List.length_eq_zero_iff.1 h0, _, _, rfl⟩
  · by_cases h0 : xs = []
    · subst h0
      exact .inl ⟨rfl, _, _, rfl⟩
    · refine .inr ⟨h0, g, 0, cap, rfl, hc, fun j hj => ?_⟩
      have h1 : cur.toList[j]? = some (.int .i64 (xs.getD j 0)) := by
        have h2 : (cur.toList.take (xs.length * 1))[j]? = (vals xs)[j]? := by rw [htk]
        rw [List.getElem?_take, if_pos (by omega)] at h2
        rw [h2]
        simp [vals, hj, List.getD]
      simp only [World.cell?, hh, Nat.zero_add]
      simpa using h1
end Sty
end Go.Proofs.YthnphjdpifpehaaDoor
