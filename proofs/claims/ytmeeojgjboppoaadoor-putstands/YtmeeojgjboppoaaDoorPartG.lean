/- slices.Clone of cells. -/
import Derived.Test.YtmeeojgjboppoaaDoorPartF
import Derived.Lib.SliceRun
import Derived.Deep.MidRow
import Derived.WalkSmall
import Derived.Maps.AppendAt
import Derived.BigFrame
namespace Go.Proofs.YtmeeojgjboppoaaDoor
open Go.ChangeShapes Go.WideShapes Go.ChangeAt Go.RowKit
namespace Grd
theorem own_of_row {w : World} {base : Nat} {v : Value} {cs : List C} (h : w.ownsRow base 53 4 v cs.length (flat cs)) (hn : v ≠ .slice none 0 0) : OwnG w base v cs := by
  obtain ⟨_, h | ⟨g, cap, cur, hv, hg, hh, hc, hm, hs, htk⟩⟩ := h
  · exact absurd h.1 hn
  · refine ⟨g, cap, cur.toList.drop (cs.length * 4), ⟨53, rfl⟩, hv, hg, hc, by unfold maxLen at hm; omega, ?_⟩
    rw [hh, ← htk, List.take_append_drop]
theorem cellsAt_src {w : World} {b o : Nat} {cs : List C} (h : CellsAt w b o cs) : ∀ j u, (flat cs)[j]? = some u → w.cell? ((⟨b, o, none⟩ : Addr).add j) = some u := by
  intro j u hj
  have hlt := (List.getElem?_eq_some_iff.1 hj).1
  rw [flat_len] at hlt
  have hd : j / 4 < cs.length := by omega
  have hm : j % 4 < 4 := by omega
  have e : j = j / 4 * 4 + j % 4 := by omega
  rw [e, flat_at cs (j / 4) (j % 4) hd hm] at hj
  obtain ⟨h0, h1, h2, h3⟩ := h (j / 4) hd
  rw [add_plain, show o + j = o + j / 4 * 4 + j % 4 by omega, ← hj]
  generalize j / 4 = d at *
  rcases (show j % 4 = 0 ∨ j % 4 = 1 ∨ j % 4 = 2 ∨ j % 4 = 3 by omega) with hq | hq | hq | hq <;> rw [hq]
  · exact h0
  · exact h1
  · exact h2
  · exact h3
set_option maxHeartbeats 1000000 in
theorem clone_cells (b o c : Nat) (cs : List C) (w : World) (hC : CellsAt w b o cs) (hbig : cs.length * 32 ≤ 140737488355328) :
    Calls Tryd.prog 59 #[.slice (some ⟨b, o, none⟩) cs.length c] w fun e w' => ∃ v', e = .returned v' ∧ OwnG w' w.heap.size v' cs ∧ Below w.heap.size w w' := by
  obtain ⟨i0, hi, hzz⟩ := Option.map_eq_some_iff.1 info_cell
  simp only [Prod.mk.injEq] at hzz
  obtain ⟨hz0, hz1, hz2⟩ := hzz
  have kb : Below w.heap.size w (w.alloc (.cells #[] 53)) := (Below.refl _ _).alloc (Nat.le_refl _) _
  have HS : Hid (∀ j u, (flat cs)[j]? = some u → (w.alloc (.cells #[] 53)).cell? ((⟨b, o, none⟩ : Addr).add j) = some u) := cellsAt_src (hC.below kb)
  have HF : Hid ((flat cs).length = cs.length * 4) := flat_len cs
  have HO : Hid (∀ u ∈ flat cs, u.oneCell' = true) := flat_one cs
  have qn : ∀ (w : World) (a : Option Addr) (n c n' c' : Nat), (binOp .eql 22 (.slice a n c) (.slice none n' c')).run Tryd.prog w = .ok (.bool a.isNone) w := fun w a n c n' c' => Lib.run_eql_slice_nil w _ _ a n c n' c' und_cells
  clear hC
  go_enter Tryd.func59, Tryd.ntmps59
  go_wp2_with (at_builtin; refine wpList_append_own _ rfl _ _ 22 rfl w.heap.size 53 i0 (.agg #[.int .i32 0, .int .i64 0, .int .i64 0, .int .i64 0]) 4 32 und_cells hi hz0 hz1 hz2 rfl (by decide) _ _ _ rfl (World.ownsRow_made w #[] 0 (Nat.le_refl _) (Nat.zero_le _) rfl) ⟨b, o, none⟩ cs.length c (flat cs) rfl HF.out HS.out HO.out ?qc4 ?qc5 ?qc6 ?_)
  case qc4 => unfold maxLen; omega
  case qc5 => omega
  case qc6 => simp
  intro v' w1 hown hgrow hnil
  go_wp2_with fail
  go_ret
  exact ⟨v', rfl, own_of_row hown hnil, ((Below.refl _ w).alloc (Nat.le_refl _) _).grown hgrow (by simp) (by intro k hk; simp [Value.ownBlock] at hk; omega)⟩
end Grd
end Go.Proofs.YtmeeojgjboppoaaDoor

/- copyOf, holds. -/
namespace Go.Proofs.YtmeeojgjboppoaaDoor
open Go.ChangeShapes Go.WideShapes Go.ChangeAt Go.RowKit
namespace Grd
set_option maxHeartbeats 1000000 in
theorem copyOf_any (a h : Int) (b o c : Nat) (cs : List C) (w : World) (hC : CellsAt w b o cs) (hbig : cs.length * 32 ≤ 140737488355328) :
    Calls Tryd.prog 86 #[.agg #[.int .i64 a, .int .i64 h, .slice (some ⟨b, o, none⟩) cs.length c]] w fun e w' => ∃ v', e = .returned (.agg #[.int .i64 a, .int .i64 h, v']) ∧ OwnG w' w.heap.size v' cs ∧ Below w.heap.size w w' := by
  have HC : Hid (CellsAt w b o cs) := hC
  clear hC
  have kk : Below w.heap.size w ((w.alloc (.cells #[.int .i64 a, .int .i64 h, .slice (some ⟨b, o, none⟩) cs.length c] 24)).alloc (.cells #[.int .i64 0, .int .i64 0, .slice none 0 0] 24)) := ((Below.refl _ _).alloc (Nat.le_refl _) _).alloc (by simp) _
  have x0 : ((w.alloc (.cells #[.int .i64 a, .int .i64 h, .slice (some ⟨b, o, none⟩) cs.length c] 24)).alloc (.cells #[.int .i64 0, .int .i64 0, .slice none 0 0] 24)).heap[w.heap.size]? = some (.cells #[.int .i64 a, .int .i64 h, .slice (some ⟨b, o, none⟩) cs.length c] 24 (0, 0)) := (Below.heap_alloc _ _ _ (by simp)).trans (heap_alloc_new _ _)
  have x1 : ((w.alloc (.cells #[.int .i64 a, .int .i64 h, .slice (some ⟨b, o, none⟩) cs.length c] 24)).alloc (.cells #[.int .i64 0, .int .i64 0, .slice none 0 0] 24)).heap[w.heap.size + 1]? = some (.cells #[.int .i64 0, .int .i64 0, .slice none 0 0] 24 (0, 0)) := heap_alloc2_new w _ _
  have hs0 : ((w.alloc (.cells #[.int .i64 a, .int .i64 h, .slice (some ⟨b, o, none⟩) cs.length c] 24)).alloc (.cells #[.int .i64 0, .int .i64 0, .slice none 0 0] 24)).heap.size = w.heap.size + 2 := by simp
  go_enter Tryd.func86, Tryd.ntmps86
  go_wp2_with fail
  refine (clone_cells b o c cs _ (HC.out.below kk) hbig).mono ?_
  rintro e W2 ⟨v, rfl, ⟨g, cap, rest, t, rfl, hgb, hlc, hcm, hgh⟩, b2⟩
  have y0 := carry x0 b2
  have y1 := carry x1 b2
  have ⟨d0, d1, d2, df⟩ := cells3 y0
  have f2 := df 2
  have z0' := heap_setCell_same W2 w.heap.size 2 _ _ (.slice (some ⟨g, 0, none⟩) cs.length cap) y0
  have z1' := (heap_setCell_other W2 ⟨w.heap.size, 2, none⟩ (w.heap.size + 1) (.slice (some ⟨g, 0, none⟩) cs.length cap) (Nat.succ_ne_self _)).trans y1
  go_wp2_with (first
    | (refine wpList_load_row rfl 24 _ rfl w.heap.size rfl _ _ _ _ z0' Tryd.underlying24 rfl (by kernel_rfl) ?_)
    | (refine wpList_store_row rfl 24 (.tmp 2) _ rfl (w.heap.size + 1) #[.int .i64 a, .int .i64 h, .slice (some ⟨g, 0, none⟩) cs.length cap] rfl rfl _ _ z1' (by kernel_rfl) rfl (one3v _ _ _ _ _) ?_))
  (try simp only [Exit.inBlock, Exit.then])
  have hg2 : w.heap.size + 2 ≤ g := by rw [← hs0]; exact hgb
  refine bodyPost_ret (v := .agg #[.int .i64 a, .int .i64 h, .slice (some ⟨g, 0, none⟩) cs.length cap]) ?_ rfl ⟨_, rfl, ⟨g, cap, rest, t, rfl, by omega, hlc, hcm, ?_⟩, below_setRow ((kk.trans (b2.mono kk.size)).setCell (Nat.le_refl _) _) (by omega) _⟩
  · exact results_cell_row rfl _ _ (w.heap.size + 1) _ _ _ _ rfl (setRow_heap _ _ _ _ _ _ z1') Tryd.underlying24 rfl (by kernel_rfl)
  · rw [setRow_other _ _ _ _ (by omega), heap_setCell_other _ _ _ _ (by dsimp only; omega)]
    exact hgh
end Grd
end Go.Proofs.YtmeeojgjboppoaaDoor

/- One cell stored into a row in the middle of a block. -/
namespace Go.Proofs.YtmeeojgjboppoaaDoor
open Go.ChangeShapes Go.WideShapes Go.ChangeAt Go.RowKit
namespace Grd
theorem set_take (L : List Value) (o : Nat) (v : Value) (h : o < L.length) : (L.set o v).take (o + 1) = L.take o ++ [v] := by
  rw [List.set_eq_take_append_cons_drop, if_pos h, List.take_append, List.length_take, Nat.min_eq_left (by omega), Nat.add_sub_cancel_left, List.take_of_length_le (by rw [List.length_take]; omega)]
  rfl
theorem set_drop (L : List Value) (o k : Nat) (v : Value) (h : o < k) : (L.set o v).drop k = L.drop k := by
  rw [List.drop_set, if_pos h]
theorem heap_setCells (g : Nat) (t : TypeId) : ∀ (vs : List Value) (o : Nat) (w : World) (L : List Value), w.heap[g]? = some (.cells L.toArray t (0, 0)) → o + vs.length ≤ L.length → (w.setCells g o vs).heap[g]? = some (.cells (L.take o ++ (vs ++ L.drop (o + vs.length))).toArray t (0, 0))
  | [], o, w, L, h, _ => by
    show w.heap[g]? = _
    rw [h]; simp
  | v :: r, o, w, L, h, hl => by
    rw [List.length_cons] at hl
    have h1 := heap_setCell_same w g o _ t v h
    have h2 := heap_setCells g t r (o + 1) (w.setCell ⟨g, o, none⟩ v) (L.set o v) (by rw [h1]; simp) (by rw [List.length_set]; omega)
    show ((w.setCell ⟨g, o, none⟩ v).setCells g (o + 1) r).heap[g]? = _
    rw [h2, set_take L o v (by omega), set_drop L o _ v (by omega), List.append_assoc, List.length_cons, show o + 1 + r.length = o + (r.length + 1) by omega]
    rfl
theorem words_len (c : C) : (words c).length = 4 := rfl
theorem flat_cut (cs : List C) (x : Nat) (h : x < cs.length) : flat cs = flat (cs.take x) ++ (words (cs.getD x z0) ++ flat (cs.drop (x + 1))) := by
  have e : cs = cs.take x ++ (cs.getD x z0 :: cs.drop (x + 1)) := by
    have : cs.getD x z0 = cs[x] := by simp [List.getD, h]
    rw [this, List.getElem_cons_drop, List.take_append_drop]
  conv => lhs; rw [e]
  rw [flat_append]; rfl
theorem flat_put (cs : List C) (x : Nat) (c : C) (h : x < cs.length) : flat (cs.set x c) = flat (cs.take x) ++ (words c ++ flat (cs.drop (x + 1))) := by
  rw [List.set_eq_take_append_cons_drop, if_pos h, flat_append]; rfl
/-- A cell stored at x of the row that lies behind 'pre'. -/
theorem store_cell {w : World} {g : Nat} {t : TypeId} {pre post : List Value} {cs : List C} (h : w.heap[g]? = some (.cells (pre ++ (flat cs ++ post)).toArray t (0, 0))) (x : Nat) (hx : x < cs.length) (c : C) :
    (w.setCells g (pre.length + x * 4) (words c)).heap[g]? = some (.cells (pre ++ (flat (cs.set x c) ++ post)).toArray t (0, 0)) := by
  have hl : (flat (cs.take x)).length = x * 4 := by rw [flat_len, List.length_take, Nat.min_eq_left (by omega)]
  have h1 := heap_setCells g t (words c) (pre.length + x * 4) w _ h (by
    rw [List.length_append, List.length_append, flat_len, words_len]; omega)
  rw [h1, flat_put cs x c hx, flat_cut cs x hx]
  have e1 : (pre ++ ((flat (cs.take x) ++ (words (cs.getD x z0) ++ flat (cs.drop (x + 1)))) ++ post)).take (pre.length + x * 4) = pre ++ flat (cs.take x) := by
    rw [List.take_append, List.take_of_length_le (by omega), Nat.add_sub_cancel_left, List.append_assoc, List.take_left' hl]
  have e2 : (pre ++ ((flat (cs.take x) ++ (words (cs.getD x z0) ++ flat (cs.drop (x + 1)))) ++ post)).drop (pre.length + x * 4 + (words c).length) = flat (cs.drop (x + 1)) ++ post := by
    rw [words_len, Nat.add_assoc, List.drop_append, List.drop_of_length_le (by omega), Nat.add_sub_cancel_left, List.append_assoc, ← hl, List.drop_append, List.drop_of_length_le (by omega), Nat.add_sub_cancel_left, List.append_assoc]
    rfl
  rw [e1, e2]
  simp only [List.append_assoc]
theorem there_cell {w : World} {g : Nat} {t : TypeId} {pre post : List Value} {cs : List C} (h : w.heap[g]? = some (.cells (pre ++ (flat cs ++ post)).toArray t (0, 0))) (x : Nat) (hx : x < cs.length) : w.there g (pre.length + x * 4) 4 := fun j hj => by
  refine ⟨?_, frozen_of h _⟩
  unfold World.cell?
  rw [h]
  have : pre.length + x * 4 + j < (pre ++ (flat cs ++ post)).length := by rw [List.length_append, List.length_append, flat_len]; omega
  simp [List.getElem?_eq_getElem this]
theorem range_cell {w : World} {b o : Nat} {cs : List C} (h : CellsAt w b o cs) (x : Nat) (hx : x < cs.length) : w.rangeAt b (o + x * 4) (words (cs.getD x z0)) := fun j v hv => by
  obtain ⟨h0, h1, h2, h3⟩ := h x hx
  have hj : j < 4 := by have := (List.getElem?_eq_some_iff.1 hv).1; rwa [words_len] at this
  match j, hj with
  | 0, _ => rw [← hv]; exact h0
  | 1, _ => rw [← hv]; exact h1
  | 2, _ => rw [← hv]; exact h2
  | 3, _ => rw [← hv]; exact h3
theorem words_agg (c : C) : (.agg (words c).toArray : Value) = .agg #[.int .i32 c.1, .int .i64 c.2.1, .int .i64 c.2.2.1, .int .i64 c.2.2.2] := rfl
theorem words_one (c : C) : (#[.int .i32 c.1, .int .i64 c.2.1, .int .i64 c.2.2.1, .int .i64 c.2.2.2] : Array Value).all (·.oneCell') = true := by simp [Value.oneCell']
end Grd
end Go.Proofs.YtmeeojgjboppoaaDoor

/- The reference's MendRow. -/
namespace Go.Proofs.YtmeeojgjboppoaaDoor
open Go.ChangeShapes Go.WideShapes Go.ChangeAt Go.RowKit
namespace Grd
open Txt (wd)
/-- The cells below i are mended, the others not yet. -/
def mendPre (cs : List C) (i : Nat) : List C := (mendM cs).take i ++ cs.drop i
theorem mendPre_len (cs : List C) (i : Nat) (h : i ≤ cs.length) : (mendPre cs i).length = cs.length := by
  unfold mendPre; rw [List.length_append, List.length_take, List.length_drop, mendM_len]; omega
theorem mendPre_at (cs : List C) (i j : Nat) (hi : i ≤ cs.length) (h : i ≤ j) : (mendPre cs i).getD j z0 = cs.getD j z0 := by
  unfold mendPre
  simp only [List.getD]
  rw [List.getElem?_append_right (by rw [List.length_take, mendM_len]; omega), List.length_take, mendM_len, Nat.min_eq_left hi, List.getElem?_drop, show i + (j - i) = j by omega]
theorem mendPre_same (cs : List C) (i : Nat) (h : i < cs.length) (hl : loose cs i = false) : mendPre cs (i + 1) = mendPre cs i := by
  unfold mendPre
  have e1 : (mendM cs).take (i + 1) = (mendM cs).take i ++ [cs.getD i z0] := by
    rw [List.take_add_one]
    congr 1
    have := mendM_at cs i h
    rw [hl] at this
    simp only [List.getD] at this
    have hlt : i < (mendM cs).length := by rw [mendM_len]; exact h
    rw [List.getElem?_eq_getElem hlt] at this ⊢
    simp only [Option.getD_some] at this
    rw [this]
    rfl
  have e2 : cs.drop i = cs.getD i z0 :: cs.drop (i + 1) := by
    have : cs.getD i z0 = cs[i] := by simp [List.getD, h]
    rw [this, List.getElem_cons_drop]
  rw [e1, e2, List.append_assoc]
  rfl
theorem mendPre_set (cs : List C) (i : Nat) (h : i < cs.length) (hl : loose cs i = true) : mendPre cs (i + 1) = setR (mendPre cs i) i := by
  have hle := mendPre_len cs i (by omega)
  have hle2 := mendPre_len cs (i + 1) (by omega)
  refine ext_getD _ _ (by unfold setR; rw [List.length_set, hle, hle2]) fun j hj => ?_
  rw [hle2] at hj
  unfold setR
  rw [getD_set _ _ _ _ (by rw [hle]; exact h), mendPre_at cs i i (by omega) (Nat.le_refl _)]
  by_cases hji : j = i
  · subst hji
    rw [if_pos rfl]
    unfold mendPre
    have hlt : j < (mendM cs).length := by rw [mendM_len]; exact h
    have := mendM_at cs j h
    rw [if_pos hl] at this
    rw [← this]
    simp only [List.getD]
    rw [List.getElem?_append_left (by rw [List.length_take]; omega), List.getElem?_take]
    simp
  · rw [if_neg hji]
    by_cases hlt : i < j
    · rw [mendPre_at cs (i + 1) j (by omega) (by omega), mendPre_at cs i j (by omega) (by omega)]
    · unfold mendPre
      simp only [List.getD]
      rw [List.getElem?_append_left (by rw [List.length_take, mendM_len]; omega), List.getElem?_append_left (by rw [List.length_take, mendM_len]; omega), List.getElem?_take, List.getElem?_take, if_pos (by omega), if_pos (by omega)]
theorem mendPre_zero (cs : List C) : mendPre cs 0 = cs := by simp [mendPre]
theorem mendPre_all (cs : List C) (i : Nat) (h : cs.length ≤ i) : mendPre cs i = mendL cs := by
  unfold mendPre
  rw [mendL_eq, List.take_of_length_le (by rw [mendM_len]; exact h), List.drop_of_length_le h, List.append_nil]
/-- The cell at i is the second half of the rune before it. -/
def second (cs : List C) (i : Nat) : Bool := decide (0 < i ∧ i < cs.length ∧ (cs.getD i z0).1 = 0 ∧ wd (cs.getD (i - 1) z0).1 = 2)
theorem loose_wide (cs : List C) (i : Nat) (hw : wd (cs.getD i z0).1 = 2) : loose cs i = (decide (i + 1 = cs.length) || decide ((cs.getD (i + 1) z0).1 ≠ 0)) := by
  have hn : ¬ (cs.getD i z0).1 = 0 := by intro h; rw [h, wd0] at hw; exact absurd hw (by decide)
  unfold loose
  rw [if_neg hn, hw]
  simp
theorem loose_none (cs : List C) (i : Nat) (hi : i < cs.length) (hr : (cs.getD i z0).1 = 0) (hs : second cs i = false) : loose cs i = true := by
  unfold loose
  unfold second at hs
  rw [if_pos hr]
  rw [decide_eq_false_iff_not] at hs
  by_cases h0 : i = 0
  · simp [h0]
  · have : wd (cs.getD (i - 1) z0).1 ≠ 2 := fun h => hs ⟨by omega, hi, hr, h⟩
    simp [this, -List.getD_eq_getElem?_getD]
theorem loose_narrow (cs : List C) (i : Nat) (hr : ¬ (cs.getD i z0).1 = 0) (hw : ¬ wd (cs.getD i z0).1 = 2) : loose cs i = false := by
  unfold loose
  rw [if_neg hr]
  simp [hw, -List.getD_eq_getElem?_getD]
end Grd
end Go.Proofs.YtmeeojgjboppoaaDoor

/- The walk of the reference's MendRow. -/
namespace Go.Proofs.YtmeeojgjboppoaaDoor
open Go.ChangeShapes Go.WideShapes Go.ChangeAt Go.RowKit
namespace Grd
open Txt (wd)
/-- A slice that reads as a row, alone in the block g. -/
def RowB (w : World) (g : Nat) (v : Value) (row : List C) : Prop := ∃ (cap : Nat) (rest : List Value), v = .slice (some ⟨g, 0, none⟩) row.length cap ∧ row.length ≤ cap ∧ cap ≤ 9223372036854775807 ∧ w.heap[g]? = some (.cells (flat row ++ rest).toArray 53 (0, 0))
theorem RowB.below {w w' : World} {g : Nat} {v : Value} {row : List C} (h : RowB w g v row) (hb : Below w.heap.size w w') : RowB w' g v row := by
  obtain ⟨cap, rest, hv, h1, h2, h3⟩ := h
  exact ⟨cap, rest, hv, h1, h2, carry h3 hb⟩
theorem RowB.cells {w : World} {g : Nat} {v : Value} {row : List C} (h : RowB w g v row) : CellsAt w g 0 row := by
  obtain ⟨cap, rest, _, _, _, h3⟩ := h
  exact cellsAt_flat h3
theorem RowB.own {w : World} {g base : Nat} {v : Value} {row : List C} (h : RowB w g v row) (hb : base ≤ g) : OwnG w base v row := by
  obtain ⟨cap, rest, hv, h1, h2, h3⟩ := h
  exact ⟨g, cap, rest, ⟨_, rfl⟩, hv, hb, h1, h2, h3⟩
theorem rowB_of_row {w : World} {base : Nat} {v : Value} {cs : List C} (h : w.ownsRow base 53 4 v cs.length (flat cs)) (hn : v ≠ .slice none 0 0) : ∃ g, base ≤ g ∧ RowB w g v cs := by
  obtain ⟨_, h | ⟨g, cap, cur, hv, hg, hh, hc, hm, hs, htk⟩⟩ := h
  · exact absurd h.1 hn
  · refine ⟨g, hg, cap, cur.toList.drop (cs.length * 4), hv, hc, by unfold maxLen at hm; omega, ?_⟩
    rw [hh, ← htk, List.take_append_drop]
set_option maxHeartbeats 1000000 in
theorem clone_row (b o c : Nat) (cs : List C) (w : World) (hC : CellsAt w b o cs) (hbig : cs.length * 32 ≤ 140737488355328) :
    Calls Tryd.prog 59 #[.slice (some ⟨b, o, none⟩) cs.length c] w fun e w' => ∃ v' g, e = .returned v' ∧ w.heap.size ≤ g ∧ RowB w' g v' cs ∧ Below w.heap.size w w' := by
  obtain ⟨i0, hi, hzz⟩ := Option.map_eq_some_iff.1 info_cell
  simp only [Prod.mk.injEq] at hzz
  obtain ⟨hz0, hz1, hz2⟩ := hzz
  have kb : Below w.heap.size w (w.alloc (.cells #[] 53)) := (Below.refl _ _).alloc (Nat.le_refl _) _
  have HS : Hid (∀ j u, (flat cs)[j]? = some u → (w.alloc (.cells #[] 53)).cell? ((⟨b, o, none⟩ : Addr).add j) = some u) := cellsAt_src (hC.below kb)
  have HF : Hid ((flat cs).length = cs.length * 4) := flat_len cs
  have HO : Hid (∀ u ∈ flat cs, u.oneCell' = true) := flat_one cs
  have qn : ∀ (w : World) (a : Option Addr) (n c n' c' : Nat), (binOp .eql 22 (.slice a n c) (.slice none n' c')).run Tryd.prog w = .ok (.bool a.isNone) w := fun w a n c n' c' => Lib.run_eql_slice_nil w _ _ a n c n' c' und_cells
  clear hC
  go_enter Tryd.func59, Tryd.ntmps59
  go_wp2_with (at_builtin; refine wpList_append_own _ rfl _ _ 22 rfl w.heap.size 53 i0 (.agg #[.int .i32 0, .int .i64 0, .int .i64 0, .int .i64 0]) 4 32 und_cells hi hz0 hz1 hz2 rfl (by decide) _ _ _ rfl (World.ownsRow_made w #[] 0 (Nat.le_refl _) (Nat.zero_le _) rfl) ⟨b, o, none⟩ cs.length c (flat cs) rfl HF.out HS.out HO.out ?qc4 ?qc5 ?qc6 ?_)
  case qc4 => unfold maxLen; omega
  case qc5 => omega
  case qc6 => simp
  intro v' w1 hown hgrow hnil
  obtain ⟨g, hg, hrow⟩ := rowB_of_row (by simpa using hown) hnil
  go_wp2_with fail
  go_ret
  exact ⟨v', g, rfl, hg, hrow, ((Below.refl _ w).alloc (Nat.le_refl _) _).grown hgrow (by simp) (by intro k hk; simp [Value.ownBlock] at hk; omega)⟩
end Grd
end Go.Proofs.YtmeeojgjboppoaaDoor

/- The reference's Rows. -/
namespace Go.Proofs.YtmeeojgjboppoaaDoor
open Go.ChangeShapes Go.WideShapes Go.ChangeAt Go.RowKit Go.Maps
namespace Grd
theorem ownsRow_below {w w' : World} {base : Nat} {e : TypeId} {size : Nat} {v : Value} {n : Nat} {xs : List Value} (h : w.ownsRow base e size v n xs) (hb : Below w.heap.size w w') : w'.ownsRow base e size v n xs := by
  refine ⟨h.1, ?_⟩
  rcases h.2 with h2 | ⟨g, cap, cur, hv, hg, hh, r⟩
  · exact .inl h2
  · exact .inr ⟨g, cap, cur, hv, hg, by rw [hb.block g (Array.getElem?_eq_some_iff.1 hh).1]; exact hh, r⟩
theorem ownsRow_mono {w : World} {base base' : Nat} {e : TypeId} {size : Nat} {v : Value} {n : Nat} {xs : List Value} (h : w.ownsRow base e size v n xs) (hb : base' ≤ base) : w.ownsRow base' e size v n xs := by
  refine ⟨h.1, ?_⟩
  rcases h.2 with h2 | ⟨g, cap, cur, hv, hg, r⟩
  · exact .inl h2
  · exact .inr ⟨g, cap, cur, hv, Nat.le_trans hb hg, r⟩
def nilV : Value := .slice none 0 0
/-- Slices that read as rows, each alone in a block of its own. -/
def RowsAt (w : World) (base : Nat) (vs : List Value) (gs : List Nat) (rows : List (List C)) : Prop :=
  vs.length = rows.length ∧ gs.length = rows.length ∧ gs.Nodup ∧ ∀ i, i < rows.length → base ≤ gs.getD i 0 ∧ RowB w (gs.getD i 0) (vs.getD i nilV) (rows.getD i [])
theorem RowsAt.kept {w w' : World} {base : Nat} {vs : List Value} {gs : List Nat} {rows : List (List C)} (h : RowsAt w base vs gs rows) (hk : ∀ i, i < rows.length → w'.heap[gs.getD i 0]? = w.heap[gs.getD i 0]?) : RowsAt w' base vs gs rows := by
  refine ⟨h.1, h.2.1, h.2.2.1, fun i hi => ?_⟩
  obtain ⟨hb, cap, rest, hv, h1, h2, h3⟩ := h.2.2.2 i hi
  exact ⟨hb, cap, rest, hv, h1, h2, by rw [hk i hi]; exact h3⟩
theorem RowsAt.lt {w : World} {base : Nat} {vs : List Value} {gs : List Nat} {rows : List (List C)} (h : RowsAt w base vs gs rows) (i : Nat) (hi : i < rows.length) : gs.getD i 0 < w.heap.size := by
  obtain ⟨_, cap, rest, hv, h1, h2, h3⟩ := h.2.2.2 i hi
  exact blk_lt h3
theorem RowsAt.below {w w' : World} {base : Nat} {vs : List Value} {gs : List Nat} {rows : List (List C)} (h : RowsAt w base vs gs rows) (hb : Below w.heap.size w w') : RowsAt w' base vs gs rows :=
  h.kept fun i hi => hb.block _ (h.lt i hi)
theorem getD_snoc_lt {α : Type} (l : List α) (x d : α) (i : Nat) (h : i < l.length) : (l ++ [x]).getD i d = l.getD i d := by
  simp [List.getD, List.getElem?_append_left h]
theorem getD_snoc_eq {α : Type} (l : List α) (x d : α) : (l ++ [x]).getD l.length d = x := by simp [List.getD]
theorem RowsAt.snoc {w : World} {base : Nat} {vs : List Value} {gs : List Nat} {rows : List (List C)} (h : RowsAt w base vs gs rows) (g : Nat) (v : Value) (row : List C) (hb : base ≤ g) (hr : RowB w g v row) (hne : ∀ i, i < rows.length → gs.getD i 0 ≠ g) : RowsAt w base (vs ++ [v]) (gs ++ [g]) (rows ++ [row]) := by
  obtain ⟨h1, h2, h3, h4⟩ := h
  refine ⟨by simp [h1], by simp [h2], ?_, fun i hi => ?_⟩
  · rw [List.nodup_append]
    refine ⟨h3, by simp, fun a ha b hb => ?_⟩
    obtain rfl : b = g := by simpa using hb
    obtain ⟨i, hi, rfl⟩ := List.getElem_of_mem ha
    have := hne i (by omega)
    simpa [List.getD, List.getElem?_eq_getElem hi] using this
  · rw [List.length_append, List.length_singleton] at hi
    by_cases hlt : i < rows.length
    · rw [getD_snoc_lt _ _ _ _ (by omega), getD_snoc_lt _ _ _ _ (by omega), getD_snoc_lt _ _ _ _ hlt]
      exact h4 i hlt
    · obtain rfl : i = rows.length := by omega
      have e1 := getD_snoc_eq gs g 0
      have e2 := getD_snoc_eq vs v nilV
      have e3 := getD_snoc_eq rows row []
      rw [h2] at e1
      rw [h1] at e2
      rw [e1, e2, e3]
      exact ⟨hb, hr⟩
/-- An owned row of slices lies in no block of cells. -/
theorem own_ne {w : World} {base : Nat} {v : Value} {n : Nat} {xs : List Value} (h : w.ownsRow base 22 1 v n xs) {g : Nat} {A : Array Value} (hg : w.heap[g]? = some (.cells A 53 (0, 0))) : some g ≠ v.ownBlock := by
  obtain ⟨_, h | ⟨q, cap, cur, rfl, _, hq, _⟩⟩ := h
  · rw [h.1]; simp [Value.ownBlock]
  · intro e
    simp only [Value.ownBlock, Option.some.injEq] at e
    subst e
    rw [hq] at hg
    simp at hg
theorem RowsAt.grown {w w' : World} {base base' : Nat} {vs : List Value} {gs : List Nat} {rows : List (List C)} {v : Value} {n : Nat} {xs : List Value} (h : RowsAt w base vs gs rows) (ho : w.ownsRow base' 22 1 v n xs) (hg : w.grownBy w' v.ownBlock) : RowsAt w' base vs gs rows :=
  h.kept fun i hi => by
    obtain ⟨_, cap, rest, _, _, _, h3⟩ := h.2.2.2 i hi
    exact hg.block _ (blk_lt h3) (own_ne ho h3)
theorem RowB.grown {w w' : World} {base' : Nat} {g : Nat} {u : Value} {row : List C} {v : Value} {n : Nat} {xs : List Value} (h : RowB w g u row) (ho : w.ownsRow base' 22 1 v n xs) (hg : w.grownBy w' v.ownBlock) : RowB w' g u row := by
  obtain ⟨cap, rest, h0, h1, h2, h3⟩ := h
  exact ⟨cap, rest, h0, h1, h2, by rw [hg.block _ (blk_lt h3) (own_ne ho h3)]; exact h3⟩
theorem RowB.one {w : World} {g : Nat} {v : Value} {row : List C} (h : RowB w g v row) : v.oneCell' = true := by
  obtain ⟨cap, rest, rfl, _⟩ := h; rfl
def rowsL (n : Nat) (cs : List C) (k : Nat) : List (List C) := (List.range k).map (rowAt n cs)
theorem rowsL_succ (n : Nat) (cs : List C) (k : Nat) : rowsL n cs (k + 1) = rowsL n cs k ++ [rowAt n cs k] := by simp [rowsL, List.range_succ]
theorem rowsL_len (n : Nat) (cs : List C) (k : Nat) : (rowsL n cs k).length = k := by simp [rowsL]
theorem und_rows : Tryd.prog.underlying 30 = some (.slice 22) := by kernel_rfl
theorem info_cells : (Tryd.prog.info? 22).map (fun i => (i.zero, i.size, i.bytes)) = some (some (.slice none 0 0), 1, 24) := by kernel_rfl
theorem own_from {w : World} {base : Nat} {e : TypeId} {size : Nat} {v : Value} {n : Nat} {xs : List Value} (h : w.ownsRow base e size v n xs) : ∀ k, v.ownBlock = some k → base ≤ k := by
  intro k hk
  obtain ⟨_, h | ⟨q, cap, cur, rfl, hq, _⟩⟩ := h
  · rw [h.1] at hk; simp [Value.ownBlock] at hk
  · simp only [Value.ownBlock, Option.some.injEq] at hk; omega
end Grd
end Go.Proofs.YtmeeojgjboppoaaDoor

/- slices.Clone of tabs and of rows: in memory of their own. -/
namespace Go.Proofs.YtmeeojgjboppoaaDoor
open Go.ChangeShapes Go.WideShapes Go.ChangeAt Go.RowKit
namespace Put
open Grd (C SliceAt CellsAt gridErr z0 nilV)
theorem und_bools : Tryd.prog.underlying 27 = some (.slice 4) := by kernel_rfl
theorem info_bool : (Tryd.prog.info? 4).map (fun i => (i.zero, i.size, i.bytes)) = some (some (.bool false), 1, 1) := by kernel_rfl
theorem bools_len (l : List Bool) : (l.map Value.bool).length = l.length * 1 := by simp
theorem bools_one (l : List Bool) : ∀ u ∈ l.map Value.bool, u.oneCell' = true := by
  intro u hu
  obtain ⟨b, _, rfl⟩ := List.mem_map.1 hu
  rfl
theorem bools_src {w : World} {b o : Nat} {l : List Bool} (h : ∀ j, j < l.length → w.cell? ⟨b, o + j, none⟩ = some (.bool (l.getD j false))) : ∀ j u, (l.map Value.bool)[j]? = some u → w.cell? ((⟨b, o, none⟩ : Addr).add j) = some u := by
  intro j u hj
  have hlt := (List.getElem?_eq_some_iff.1 hj).1
  rw [List.length_map] at hlt
  have h1 := h j hlt
  rw [List.getElem?_map, List.getElem?_eq_getElem hlt] at hj
  rw [add_plain, h1, ← hj]
  simp [List.getD, List.getElem?_eq_getElem hlt]
set_option maxHeartbeats 1000000 in
theorem cloneBools_any (v : Value) (l : List Bool) (w : World) (hV : BoolsV w v l) (hl : l.length ≤ 1048576) :
    Calls Tryd.prog 56 #[v] w fun e w' => ∃ v', e = .returned v' ∧ w'.ownsRow w.heap.size 4 1 v' l.length (l.map Value.bool) ∧ Below w.heap.size w w' := by
  obtain ⟨i0, hi, hzz⟩ := Option.map_eq_some_iff.1 info_bool
  simp only [Prod.mk.injEq] at hzz
  obtain ⟨hz0, hz1, hz2⟩ := hzz
  have qn : ∀ (w : World) (a : Option Addr) (n c n' c' : Nat), (binOp .eql 27 (.slice a n c) (.slice none n' c')).run Tryd.prog w = .ok (.bool a.isNone) w := fun w a n c n' c' => Lib.run_eql_slice_nil w _ _ a n c n' c' und_bools
  have kb : Below w.heap.size w (w.alloc (.cells #[] 4)) := (Below.refl _ _).alloc (Nat.le_refl _) _
  have HF : Hid ((l.map Value.bool).length = l.length * 1) := bools_len l
  have HO : Hid (∀ u ∈ l.map Value.bool, u.oneCell' = true) := bools_one l
  rcases hV with ⟨rfl, p, c, rfl⟩ | ⟨b, o, c, rfl, hc, hm, hC⟩
  · cases p with
    | none =>
      go_enter Tryd.func56, Tryd.ntmps56
      go_wp2_with fail
      go_ret
      exact ⟨_, rfl, World.ownsRow_nil _ _ _ _, Below.refl _ _⟩
    | some ad =>
      go_enter Tryd.func56, Tryd.ntmps56
      go_wp2_with (at_builtin; refine wpList_append_own _ rfl _ _ 27 rfl w.heap.size 4 i0 (.bool false) 1 1 und_bools hi hz0 hz1 hz2 rfl (by decide) _ _ _ rfl (World.ownsRow_made w #[] 0 (Nat.le_refl _) (Nat.zero_le _) rfl) ad 0 c [] rfl rfl (by simp) (by simp) (by unfold maxLen; omega) (by omega) (by simp) ?_)
      intro v' w1 hown hgrow hnil
      go_wp2_with fail
      go_ret
      exact ⟨v', rfl, hown, ((Below.refl _ w).alloc (Nat.le_refl _) _).grown hgrow (by simp) (by intro k hk; simp [Value.ownBlock] at hk; omega)⟩
  · have HS : Hid (∀ j u, (l.map Value.bool)[j]? = some u → (w.alloc (.cells #[] 4)).cell? ((⟨b, o, none⟩ : Addr).add j) = some u) := bools_src (fun j hj => cell_stay kb (hC j hj))
    clear hC
    go_enter Tryd.func56, Tryd.ntmps56
    go_wp2_with (at_builtin; refine wpList_append_own _ rfl _ _ 27 rfl w.heap.size 4 i0 (.bool false) 1 1 und_bools hi hz0 hz1 hz2 rfl (by decide) _ _ _ rfl (World.ownsRow_made w #[] 0 (Nat.le_refl _) (Nat.zero_le _) rfl) ⟨b, o, none⟩ l.length c (l.map Value.bool) rfl HF.out HS.out HO.out ?qc4 ?qc5 ?qc6 ?_)
    case qc4 => unfold maxLen; omega
    case qc5 => omega
    case qc6 => simp
    intro v' w1 hown hgrow hnil
    go_wp2_with fail
    go_ret
    refine ⟨v', rfl, ?_, ((Below.refl _ w).alloc (Nat.le_refl _) _).grown hgrow (by simp) (by intro k hk; simp [Value.ownBlock] at hk; omega)⟩
    simpa using hown
/- Rows: a slice of slices of cells. -/
theorem und_rows : Tryd.prog.underlying 30 = some (.slice 22) := by kernel_rfl
theorem info_rows : (Tryd.prog.info? 22).map (fun i => (i.zero, i.size, i.bytes)) = some (some (.slice none 0 0), 1, 24) := by kernel_rfl
/-- The values of rows, each a slice of its cells. -/
def RowsL (W : World) (vs : List Value) (rows : List (List C)) : Prop := vs.length = rows.length ∧ ∀ i, i < rows.length → SliceAt W (vs.getD i nilV) (rows.getD i [])
theorem RowsL.next {W W' : World} {vs : List Value} {rows : List (List C)} (h : RowsL W vs rows) (hb : Below W.heap.size W W') : RowsL W' vs rows := ⟨h.1, fun i hi => (h.2 i hi).below hb⟩
theorem rowsV_list {w : World} {b o : Nat} : ∀ {l : List (List C)}, (∀ j, j < l.length → ∃ rv, w.cell? ⟨b, o + j, none⟩ = some rv ∧ SliceAt w rv (l.getD j [])) → ∃ vs : List Value, RowsL w vs l ∧ ∀ j, j < l.length → w.cell? ⟨b, o + j, none⟩ = some (vs.getD j nilV) := by
  intro l h
  refine ⟨(List.range l.length).map fun j => (w.cell? ⟨b, o + j, none⟩).getD nilV, ⟨by simp, fun i hi => ?_⟩, fun j hj => ?_⟩
  · obtain ⟨rv, h1, h2⟩ := h i hi
    have e : ((List.range l.length).map fun j => (w.cell? ⟨b, o + j, none⟩).getD nilV).getD i nilV = rv := by
      simp [List.getD, hi, h1]
    rw [e]
    exact h2
  · obtain ⟨rv, h1, h2⟩ := h j hj
    have e : ((List.range l.length).map fun j => (w.cell? ⟨b, o + j, none⟩).getD nilV).getD j nilV = rv := by
      simp [List.getD, hj, h1]
    rw [e, h1]
theorem SliceAt.one {w : World} {v : Value} {cs : List C} (h : SliceAt w v cs) : v.oneCell' = true := by
  obtain ⟨a, c, rfl⟩ := h.shape
  rfl
theorem RowsL.one {W : World} {vs : List Value} {rows : List (List C)} (h : RowsL W vs rows) : ∀ u ∈ vs, u.oneCell' = true := by
  intro u hu
  obtain ⟨i, hi, rfl⟩ := List.mem_iff_getElem.1 hu
  have := h.2 i (by rw [← h.1]; exact hi)
  have e : vs.getD i nilV = vs[i] := by simp [List.getD, hi]
  rw [e] at this
  exact SliceAt.one this
theorem rows_src {w : World} {b o : Nat} {vs : List Value} (h : ∀ j, j < vs.length → w.cell? ⟨b, o + j, none⟩ = some (vs.getD j nilV)) : ∀ j u, vs[j]? = some u → w.cell? ((⟨b, o, none⟩ : Addr).add j) = some u := by
  intro j u hj
  have hlt := (List.getElem?_eq_some_iff.1 hj).1
  have h1 := h j hlt
  rw [add_plain, h1]
  simp [List.getD, hj]
set_option maxHeartbeats 1000000 in
theorem cloneRows_any (v : Value) (l : List (List C)) (w : World) (hV : RowsV w v l) (hl : l.length ≤ 1048576) :
    Calls Tryd.prog 57 #[v] w fun e w' => ∃ v' vs, e = .returned v' ∧ w'.ownsRow w.heap.size 22 1 v' l.length vs ∧ RowsL w vs l ∧ (∀ w0, Below w0.heap.size w0 w → RowsV w0 v l → RowsL w0 vs l) ∧ Below w.heap.size w w' := by
  obtain ⟨i0, hi, hzz⟩ := Option.map_eq_some_iff.1 info_rows
  simp only [Prod.mk.injEq] at hzz
  obtain ⟨hz0, hz1, hz2⟩ := hzz
  have qn : ∀ (w : World) (a : Option Addr) (n c n' c' : Nat), (binOp .eql 30 (.slice a n c) (.slice none n' c')).run Tryd.prog w = .ok (.bool a.isNone) w := fun w a n c n' c' => Lib.run_eql_slice_nil w _ _ a n c n' c' und_rows
  have kb : Below w.heap.size w (w.alloc (.cells #[] 22)) := (Below.refl _ _).alloc (Nat.le_refl _) _
  rcases hV with ⟨rfl, p, c, rfl⟩ | ⟨b, o, c, rfl, hc, hm, hC⟩
  · cases p with
    | none =>
      go_enter Tryd.func57, Tryd.ntmps57
      go_wp2_with fail
      go_ret
      exact ⟨_, [], rfl, World.ownsRow_nil _ _ _ _, ⟨rfl, fun i hi => absurd hi (by simp)⟩, fun _ _ _ => ⟨rfl, fun i hi => absurd hi (by simp)⟩, Below.refl _ _⟩
    | some ad =>
      go_enter Tryd.func57, Tryd.ntmps57
      go_wp2_with (at_builtin; refine wpList_append_own _ rfl _ _ 30 rfl w.heap.size 22 i0 (.slice none 0 0) 1 24 und_rows hi hz0 hz1 hz2 rfl (by decide) _ _ _ rfl (World.ownsRow_made w #[] 0 (Nat.le_refl _) (Nat.zero_le _) rfl) ad 0 c [] rfl rfl (by simp) (by simp) (by unfold maxLen; omega) (by omega) (by simp) ?_)
      intro v' w1 hown hgrow hnil
      go_wp2_with fail
      go_ret
      exact ⟨v', [], rfl, hown, ⟨rfl, fun i hi => absurd hi (by simp)⟩, fun _ _ _ => ⟨rfl, fun i hi => absurd hi (by simp)⟩, ((Below.refl _ w).alloc (Nat.le_refl _) _).grown hgrow (by simp) (by intro k hk; simp [Value.ownBlock] at hk; omega)⟩
  · obtain ⟨vs, hvs, hcs⟩ := rowsV_list hC
    have HVS : Hid (RowsL w vs l) := hvs
    have HF : Hid (vs.length = l.length * 1) := by rw [Nat.mul_one]; exact hvs.1
    have HO : Hid (∀ u ∈ vs, u.oneCell' = true) := hvs.one
    have HS : Hid (∀ j u, vs[j]? = some u → (w.alloc (.cells #[] 22)).cell? ((⟨b, o, none⟩ : Addr).add j) = some u) := rows_src (fun j hj => cell_stay kb (hcs j (by rw [← hvs.1]; exact hj)))
    have HW0 : Hid (∀ w0, Below w0.heap.size w0 w → RowsV w0 (.slice (some ⟨b, o, none⟩) l.length c) l → RowsL w0 vs l) := fun w0 hb0 hv0 => by
      refine ⟨hvs.1, fun i hi => ?_⟩
      rcases hv0 with ⟨he, -⟩ | ⟨b', o', c', hv', -, -, hC'⟩
      · rw [he] at hi
        exact absurd hi (by simp)
      injection hv' with hv1 hv2 hv3
      injection hv1 with hv1
      injection hv1 with hb' ho' _
      obtain ⟨rv, h1, h2⟩ := hC' i hi
      rw [← hb', ← ho'] at h1
      have h3 := (cell_stay hb0 h1).symm.trans (hcs i hi)
      injection h3 with h3
      rw [← h3]
      exact h2
    clear hC hcs hvs
    go_enter Tryd.func57, Tryd.ntmps57
    go_wp2_with (at_builtin; refine wpList_append_own _ rfl _ _ 30 rfl w.heap.size 22 i0 (.slice none 0 0) 1 24 und_rows hi hz0 hz1 hz2 rfl (by decide) _ _ _ rfl (World.ownsRow_made w #[] 0 (Nat.le_refl _) (Nat.zero_le _) rfl) ⟨b, o, none⟩ l.length c vs rfl HF.out HS.out HO.out ?qc4 ?qc5 ?qc6 ?_)
    case qc4 => unfold maxLen; omega
    case qc5 => omega
    case qc6 => simp
    intro v' w1 hown hgrow hnil
    go_wp2_with fail
    go_ret
    refine ⟨v', vs, rfl, ?_, HVS.out, HW0.out, ((Below.refl _ w).alloc (Nat.le_refl _) _).grown hgrow (by simp) (by intro k hk; simp [Value.ownBlock] at hk; omega)⟩
    simpa using hown
end Put
end Go.Proofs.YtmeeojgjboppoaaDoor

/- Modes: their bits. -/
namespace Go.Proofs.YtmeeojgjboppoaaDoor
open Go.ChangeShapes Go.WideShapes Go.ChangeAt Go.RowKit
namespace Put
theorem wrap_toNat (x : BitVec 64) : IntKind.i64.wrap (x.toNat : Int) = 0 ↔ x = 0 := by
  rw [IntKind.wrap_i64]
  have := x.isLt
  constructor
  · intro h
    apply BitVec.eq_of_toNat_eq
    simp
    omega
  · rintro rfl
    decide
theorem andNot_zero (m c : Int) : bits .andNot .i64 m c = 0 ↔ BitVec.ofInt 64 m &&& ~~~ (BitVec.ofInt 64 c) = 0 := by
  show IntKind.i64.wrap ((BitVec.ofInt 64 m &&& ~~~ (BitVec.ofInt 64 c)).toNat : Int) = 0 ↔ _
  exact wrap_toNat _
theorem and_zero (m c : Int) : bits .and .i64 m c = 0 ↔ BitVec.ofInt 64 m &&& BitVec.ofInt 64 c = 0 := by
  show IntKind.i64.wrap ((BitVec.ofInt 64 m &&& BitVec.ofInt 64 c).toNat : Int) = 0 ↔ _
  exact wrap_toNat _
theorem high_zero (x : BitVec 64) : x &&& ~~~ (63#64) = 0 ↔ x.toNat < 64 := by
  constructor
  · intro h
    have h1 : x >>> 6 = 0 := by
      apply BitVec.eq_of_getLsbD_eq
      intro i hi
      have h2 := congrArg (fun y => BitVec.getLsbD y (6 + i)) h
      simp only [BitVec.getLsbD_and, BitVec.getLsbD_not, BitVec.getLsbD_ushiftRight] at h2 ⊢
      have h3 : (63#64).getLsbD (6 + i) = false := by
        rw [BitVec.getLsbD_ofNat]
        have : Nat.testBit 63 (6 + i) = false := by
          apply Nat.testBit_lt_two_pow
          calc 63 < 2 ^ 6 := by decide
            _ ≤ 2 ^ (6 + i) := Nat.pow_le_pow_right (by decide) (by omega)
        rw [this]
        simp
      by_cases hlt : 6 + i < 64
      · rw [h3] at h2
        simpa [hlt] using h2
      · rw [BitVec.getLsbD_of_ge _ _ (by omega)]
        simp
    have h4 := congrArg BitVec.toNat h1
    rw [BitVec.toNat_ushiftRight, Nat.shiftRight_eq_div_pow] at h4
    simp at h4
    omega
  · intro h
    have key : ∀ n : Fin 64, (BitVec.ofNat 64 n.val) &&& ~~~ (63#64) = 0 := by decide +kernel
    have h2 := key ⟨x.toNat, h⟩
    simpa using h2
theorem modes_ok (m : Int) (h0 : -9223372036854775808 ≤ m) (h1 : m ≤ 9223372036854775807) : bits .andNot .i64 m 63 = 0 ↔ 0 ≤ m ∧ m ≤ 63 := by
  rw [andNot_zero, show BitVec.ofInt 64 63 = 63#64 from rfl, high_zero, BitVec.toNat_ofInt]
  omega
/-- What K may have. -/
def keptOk (m : Int) : Bool := decide (m = 0 ∨ m = 2 ∨ m = 4 ∨ m = 6)
theorem kept_ok (m : Int) (h0 : -9223372036854775808 ≤ m) (h1 : m ≤ 9223372036854775807) : bits .andNot .i64 m 6 = 0 ↔ keptOk m = true := by
  have hk : keptOk m = true ↔ (m = 0 ∨ m = 2 ∨ m = 4 ∨ m = 6) := by simp [keptOk]
  rw [hk]
  constructor
  · intro h
    have h63 : bits .andNot .i64 m 63 = 0 := by
      rw [andNot_zero] at h ⊢
      have e : BitVec.ofInt 64 m &&& ~~~ (BitVec.ofInt 64 63) = (BitVec.ofInt 64 m &&& ~~~ (BitVec.ofInt 64 6)) &&& ~~~ (BitVec.ofInt 64 63) := by
        rw [BitVec.and_assoc, show (~~~ (BitVec.ofInt 64 6)) &&& ~~~ (BitVec.ofInt 64 63) = ~~~ (BitVec.ofInt 64 63) by decide]
      rw [e, h]
      simp
    obtain ⟨p0, p1⟩ := (modes_ok m h0 h1).1 h63
    have key : ∀ n : Fin 64, bits .andNot .i64 (n.val : Int) 6 = 0 → ((n.val : Int) = 0 ∨ (n.val : Int) = 2 ∨ (n.val : Int) = 4 ∨ (n.val : Int) = 6) := by decide +kernel
    have h2 := key ⟨m.toNat, by omega⟩
    simp only [Int.toNat_of_nonneg p0] at h2
    exact h2 h
  · rintro (rfl | rfl | rfl | rfl) <;> decide
theorem kept_ref (m : Int) (h0 : 0 ≤ m) (h1 : m ≤ 63) : bits .and .i64 m 57 = 0 ↔ keptOk m = true := by
  have key : ∀ n : Fin 64, (bits .and .i64 (n.val : Int) 57 = 0 ↔ keptOk (n.val : Int) = true) := by decide +kernel
  have h2 := key ⟨m.toNat, by omega⟩
  simp only [Int.toNat_of_nonneg h0] at h2
  exact h2
theorem kept_range (m : Int) (h : keptOk m = true) : 0 ≤ m ∧ m ≤ 63 := by
  have : m = 0 ∨ m = 2 ∨ m = 4 ∨ m = 6 := by simpa [keptOk] using h
  omega
end Put
end Go.Proofs.YtmeeojgjboppoaaDoor

/- put.Check. (Written by gen_putcheck.py.) -/
namespace Go.Proofs.YtmeeojgjboppoaaDoor
open Go.ChangeShapes Go.WideShapes Go.ChangeAt Go.RowKit
namespace Put
open Grd (C SliceAt CellsAt gridErr z0)
open Sty (isSt)
open Txt (wd)
def lateBad (s : Scr) : Bool := s.late && (!decide (s.x = s.w - 1) || decide (bits .and .i64 s.modes 4 = 0))
def placeOk (s : Scr) : Bool := hasC s.w s.h s.x s.y && (hasC s.w s.h s.kx s.ky && regionOk s.h s.top s.bot)
def looksOk (s : Scr) : Bool := isSt (s.sf, s.sb, s.sx) && (isSt (s.kf, s.kb, s.kbits) && (decide (0 ≤ s.modes ∧ s.modes ≤ 63) && keptOk s.km))
def restOk (s : Scr) : Bool := decide ((s.tabs.length : Int) = s.w) && ((decide (s.last = 0) || !decide (wd s.last = 0)) && titleOk s.title)
/-- What is wrong with a screen; 0: nothing. -/
def scrErr (s : Scr) : Int :=
  if gridErr s.w s.h s.cs ≠ 0 then gridErr s.w s.h s.cs
  else if placeOk s = false then 4
  else if lateBad s = true then 5
  else if looksOk s = false then 4
  else if restOk s = false then 5
  else goneErr s.gone
/-- Numbers that fit their kinds; sizes that any machine has. -/
structure Fits (s : Scr) : Prop where
  m0 : -9223372036854775808 ≤ s.modes
  m1 : s.modes ≤ 9223372036854775807
  k0 : -9223372036854775808 ≤ s.km
  k1 : s.km ≤ 9223372036854775807
  tl : s.title.size ≤ 1048576
  gl : s.gone.length ≤ 1048576
  bl : s.tabs.length ≤ 1048576
theorem grid_size {a h : Int} {cs : List C} (hz : gridErr a h cs = 0) : 1 ≤ a ∧ a ≤ 120 ∧ 1 ≤ h ∧ h ≤ 60 := by
  unfold gridErr at hz
  cases hs : Grd.isSize a h with
  | false => rw [hs] at hz; simp at hz
  | true =>
    have h2 : 1 ≤ a ∧ a ≤ 120 ∧ 1 ≤ h ∧ h ≤ 60 := by simpa [Grd.isSize] using hs
    exact h2
set_option maxHeartbeats 16000000 in
set_option maxRecDepth 100000 in
theorem putCheck_any (s : Scr) (cv tv gv : Value) (w : World) (hT : Txt.Tab w) (hV : ScrV w s cv tv gv) (hF : Fits s) :
    Calls Tryd.prog 17 #[.agg (scrA s cv tv gv)] w fun e w' => e = .returned (.int .i64 (scrErr s)) ∧ Below w.heap.size w w' := by
  obtain ⟨ca, cc, hcv⟩ := hV.c.shape
  obtain ⟨ta, tc, htv⟩ := hV.t.slice
  obtain ⟨ga, gc, hgv⟩ := hV.g.slice
  subst hcv htv hgv
  have x0 := heap_alloc_new w (.cells (scrA s (.slice ca s.cs.length cc) (.slice ta s.tabs.length tc) (.slice ga s.gone.length gc)) 32)
  have kb : Below w.heap.size w (w.alloc (.cells (scrA s (.slice ca s.cs.length cc) (.slice ta s.tabs.length tc) (.slice ga s.gone.length gc)) 32)) := (Below.refl _ _).alloc (Nat.le_refl _) _
  have HRG : Hid (∀ W, Calls Tryd.prog 33 #[.agg (scrA s (.slice ca s.cs.length cc) (.slice ta s.tabs.length tc) (.slice ga s.gone.length gc))] W fun e w' => e = .returned (.bool (regionOk s.h s.top s.bot)) ∧ Below W.heap.size W w') := fun W => hasRegion_any s _ _ _ W
  have HB0 : Hid _ := kb
  have HX0 : Hid _ := x0
  have HT : Hid (∀ W, Below w.heap.size w W → Txt.Tab W) := fun W hW => Grd.Tab.next hT hW
  have HV : Hid (ScrV w s _ _ _) := hV
  have HF : Hid (Fits s) := hF
  obtain ⟨res, hres⟩ : ∃ res, scrErr s = res := ⟨_, rfl⟩
  rw [hres]
  have HC : Hid (scrErr s = res) := hres
  obtain ⟨⟨c0, c1, c2, c3, c4, c5, c6, c7, c8, c9, c10⟩, ⟨c11, c12, c13, c14, c15, c16, c17, c18, c19, c20, c21⟩, -⟩ := scr_cells x0
  have HGC := Grd.check_any s.w s.h _ s.cs _ (HT.out _ HB0.out) (HV.out.c.below HB0.out)
  clear x0 kb hT hV hF hres
  by_cases hz : gridErr s.w s.h s.cs = 0
  case neg =>
    have hzb : (gridErr s.w s.h s.cs != 0) = true := by simp [bne, hz]
    have HR : Hid (gridErr s.w s.h s.cs = res) := by
      unfold Hid
      rw [← HC.out]
      unfold scrErr
      rw [if_pos hz]
    clear hz
    generalize gridErr s.w s.h s.cs = ge at *
    go_enter Tryd.func17, Tryd.ntmps17
    go_wp2_with fail
    refine HGC.mono ?_
    rintro e W1 ⟨rfl, b⟩
    clear c0 c1 c2 c3 c4 c5 c6 c7 c8 c9 c10 c11 c12 c13 c14 c15 c16 c17 c18 c19 c20 c21
    go_wp2_with fail
    go_ret
    exact ⟨ret_int HR.out, HB0.out.trans (b.mono HB0.out.size)⟩
  obtain ⟨w1, w2, w3, w4⟩ := grid_size hz
  rw [hz] at HGC
  have HZ : Hid (gridErr s.w s.h s.cs = 0) := hz
  clear hz
  go_enter Tryd.func17, Tryd.ntmps17
  go_wp2_with fail
  refine (HGC).mono ?_
  rintro e W1 ⟨rfl, b⟩
  have HX1 : Hid (W1.heap[w.heap.size]? = _) := Grd.carry HX0.out b
  have HB1 : Hid (Below w.heap.size w W1) := HB0.out.trans (b.mono HB0.out.size)
  clear c0 c1 c2 c3 c4 c5 c6 c7 c8 c9 c10 c11 c12 c13 c14 c15 c16 c17 c18 c19 c20 c21 b
  obtain ⟨⟨c0, c1, c2, c3, c4, c5, c6, c7, c8, c9, c10⟩, ⟨c11, c12, c13, c14, c15, c16, c17, c18, c19, c20, c21⟩, -⟩ := scr_cells HX1.out
  go_wp2_with fail
  cases h1 : hasC s.w s.h s.x s.y with
  | false =>
    have H1 := hasCell_any s.w s.h (.slice ca s.cs.length cc) s.x s.y W1
    rw [h1] at H1
    refine (H1).mono ?_
    rintro e W2 ⟨rfl, b⟩
    have HX2 : Hid (W2.heap[w.heap.size]? = _) := Grd.carry HX1.out b
    have HB2 : Hid (Below w.heap.size w W2) := HB1.out.trans (b.mono HB1.out.size)
    clear c0 c1 c2 c3 c4 c5 c6 c7 c8 c9 c10 c11 c12 c13 c14 c15 c16 c17 c18 c19 c20 c21 b
    obtain ⟨⟨c0, c1, c2, c3, c4, c5, c6, c7, c8, c9, c10⟩, ⟨c11, c12, c13, c14, c15, c16, c17, c18, c19, c20, c21⟩, -⟩ := scr_cells HX2.out
    go_wp2_with fail
    have HR : Hid (4 = res) := by
      unfold Hid
      rw [← HC.out]
      simp [scrErr, HZ.out, placeOk, h1]
    clear c0 c1 c2 c3 c4 c5 c6 c7 c8 c9 c10 c11 c12 c13 c14 c15 c16 c17 c18 c19 c20 c21
    go_wp2_with fail
    go_ret
    exact ⟨ret_int HR.out, HB2.out⟩
  | true =>
  have H1 := hasCell_any s.w s.h (.slice ca s.cs.length cc) s.x s.y W1
  rw [h1] at H1
  refine (H1).mono ?_
  rintro e W2 ⟨rfl, b⟩
  have HX2 : Hid (W2.heap[w.heap.size]? = _) := Grd.carry HX1.out b
  have HB2 : Hid (Below w.heap.size w W2) := HB1.out.trans (b.mono HB1.out.size)
  clear c0 c1 c2 c3 c4 c5 c6 c7 c8 c9 c10 c11 c12 c13 c14 c15 c16 c17 c18 c19 c20 c21 b
  obtain ⟨⟨c0, c1, c2, c3, c4, c5, c6, c7, c8, c9, c10⟩, ⟨c11, c12, c13, c14, c15, c16, c17, c18, c19, c20, c21⟩, -⟩ := scr_cells HX2.out
  go_wp2_with fail
  cases h2 : hasC s.w s.h s.kx s.ky with
  | false =>
    have H2 := hasCell_any s.w s.h (.slice ca s.cs.length cc) s.kx s.ky W2
    rw [h2] at H2
    refine (H2).mono ?_
    rintro e W3 ⟨rfl, b⟩
    have HX3 : Hid (W3.heap[w.heap.size]? = _) := Grd.carry HX2.out b
    have HB3 : Hid (Below w.heap.size w W3) := HB2.out.trans (b.mono HB2.out.size)
    clear c0 c1 c2 c3 c4 c5 c6 c7 c8 c9 c10 c11 c12 c13 c14 c15 c16 c17 c18 c19 c20 c21 b
    obtain ⟨⟨c0, c1, c2, c3, c4, c5, c6, c7, c8, c9, c10⟩, ⟨c11, c12, c13, c14, c15, c16, c17, c18, c19, c20, c21⟩, -⟩ := scr_cells HX3.out
    go_wp2_with fail
    have HR : Hid (4 = res) := by
      unfold Hid
      rw [← HC.out]
      simp [scrErr, HZ.out, placeOk, h1, h2]
    clear c0 c1 c2 c3 c4 c5 c6 c7 c8 c9 c10 c11 c12 c13 c14 c15 c16 c17 c18 c19 c20 c21
    go_wp2_with fail
    go_ret
    exact ⟨ret_int HR.out, HB3.out⟩
  | true =>
  have H2 := hasCell_any s.w s.h (.slice ca s.cs.length cc) s.kx s.ky W2
  rw [h2] at H2
  refine (H2).mono ?_
  rintro e W3 ⟨rfl, b⟩
  have HX3 : Hid (W3.heap[w.heap.size]? = _) := Grd.carry HX2.out b
  have HB3 : Hid (Below w.heap.size w W3) := HB2.out.trans (b.mono HB2.out.size)
  clear c0 c1 c2 c3 c4 c5 c6 c7 c8 c9 c10 c11 c12 c13 c14 c15 c16 c17 c18 c19 c20 c21 b
  obtain ⟨⟨c0, c1, c2, c3, c4, c5, c6, c7, c8, c9, c10⟩, ⟨c11, c12, c13, c14, c15, c16, c17, c18, c19, c20, c21⟩, -⟩ := scr_cells HX3.out
  go_wp2_with (refine BigFrame.wpList_want rfl fun K hK => wp_load_row 32 (.tmp 1) rfl w.heap.size rfl _ _ _ _ HX3.out Tryd.underlying32 rfl (by kernel_rfl) (hK _ _ ?_))
  cases h3 : regionOk s.h s.top s.bot with
  | false =>
    have H3 := HRG.out W3
    rw [h3] at H3
    refine (H3).mono ?_
    rintro e W4 ⟨rfl, b⟩
    have HX4 : Hid (W4.heap[w.heap.size]? = _) := Grd.carry HX3.out b
    have HB4 : Hid (Below w.heap.size w W4) := HB3.out.trans (b.mono HB3.out.size)
    clear c0 c1 c2 c3 c4 c5 c6 c7 c8 c9 c10 c11 c12 c13 c14 c15 c16 c17 c18 c19 c20 c21 b
    obtain ⟨⟨c0, c1, c2, c3, c4, c5, c6, c7, c8, c9, c10⟩, ⟨c11, c12, c13, c14, c15, c16, c17, c18, c19, c20, c21⟩, -⟩ := scr_cells HX4.out
    go_wp2_with fail
    have HR : Hid (4 = res) := by
      unfold Hid
      rw [← HC.out]
      simp [scrErr, HZ.out, placeOk, h1, h2, h3]
    clear c0 c1 c2 c3 c4 c5 c6 c7 c8 c9 c10 c11 c12 c13 c14 c15 c16 c17 c18 c19 c20 c21
    go_wp2_with fail
    go_ret
    exact ⟨ret_int HR.out, HB4.out⟩
  | true =>
  have H3 := HRG.out W3
  rw [h3] at H3
  have HP : Hid (placeOk s = true) := by unfold Hid placeOk; rw [h1, h2, h3]; rfl
  clear H1 H2 h1 h2 h3 HGC
  cases hl : s.late with
  | false =>
    have HLT : Hid (lateBad s = false) := by unfold Hid lateBad; rw [hl]; rfl
    refine (H3).mono ?_
    rintro e W4 ⟨rfl, b⟩
    have HX4 : Hid (W4.heap[w.heap.size]? = _) := Grd.carry HX3.out b
    have HB4 : Hid (Below w.heap.size w W4) := HB3.out.trans (b.mono HB3.out.size)
    clear c0 c1 c2 c3 c4 c5 c6 c7 c8 c9 c10 c11 c12 c13 c14 c15 c16 c17 c18 c19 c20 c21 b
    obtain ⟨⟨c0, c1, c2, c3, c4, c5, c6, c7, c8, c9, c10⟩, ⟨c11, c12, c13, c14, c15, c16, c17, c18, c19, c20, c21⟩, -⟩ := scr_cells HX4.out
    go_wp2_with fail
    clear H3 HRG
    cases h5 : isSt (s.sf, s.sb, s.sx) with
    | false =>
      have H5 := Sty.check_any s.sf s.sb s.sx W4
      rw [h5] at H5
      refine (H5).mono ?_
      rintro e W5 ⟨rfl, b⟩
      have HX5 : Hid (W5.heap[w.heap.size]? = _) := Grd.carry HX4.out b
      have HB5 : Hid (Below w.heap.size w W5) := HB4.out.trans (b.mono HB4.out.size)
      clear c0 c1 c2 c3 c4 c5 c6 c7 c8 c9 c10 c11 c12 c13 c14 c15 c16 c17 c18 c19 c20 c21 b
      obtain ⟨⟨c0, c1, c2, c3, c4, c5, c6, c7, c8, c9, c10⟩, ⟨c11, c12, c13, c14, c15, c16, c17, c18, c19, c20, c21⟩, -⟩ := scr_cells HX5.out
      go_wp2_with fail
      have HR : Hid (4 = res) := by
        unfold Hid
        rw [← HC.out]
        simp [scrErr, HZ.out, HP.out, HLT.out, looksOk, h5]
      clear c0 c1 c2 c3 c4 c5 c6 c7 c8 c9 c10 c11 c12 c13 c14 c15 c16 c17 c18 c19 c20 c21
      go_wp2_with fail
      go_ret
      exact ⟨ret_int HR.out, HB5.out⟩
    | true =>
      have H5 := Sty.check_any s.sf s.sb s.sx W4
      rw [h5] at H5
      refine (H5).mono ?_
      rintro e W5 ⟨rfl, b⟩
      have HX5 : Hid (W5.heap[w.heap.size]? = _) := Grd.carry HX4.out b
      have HB5 : Hid (Below w.heap.size w W5) := HB4.out.trans (b.mono HB4.out.size)
      clear c0 c1 c2 c3 c4 c5 c6 c7 c8 c9 c10 c11 c12 c13 c14 c15 c16 c17 c18 c19 c20 c21 b
      obtain ⟨⟨c0, c1, c2, c3, c4, c5, c6, c7, c8, c9, c10⟩, ⟨c11, c12, c13, c14, c15, c16, c17, c18, c19, c20, c21⟩, -⟩ := scr_cells HX5.out
      go_wp2_with fail
      cases h6 : isSt (s.kf, s.kb, s.kbits) with
      | false =>
        have H6 := Sty.check_any s.kf s.kb s.kbits W5
        rw [h6] at H6
        refine (H6).mono ?_
        rintro e W6 ⟨rfl, b⟩
        have HX6 : Hid (W6.heap[w.heap.size]? = _) := Grd.carry HX5.out b
        have HB6 : Hid (Below w.heap.size w W6) := HB5.out.trans (b.mono HB5.out.size)
        clear c0 c1 c2 c3 c4 c5 c6 c7 c8 c9 c10 c11 c12 c13 c14 c15 c16 c17 c18 c19 c20 c21 b
        obtain ⟨⟨c0, c1, c2, c3, c4, c5, c6, c7, c8, c9, c10⟩, ⟨c11, c12, c13, c14, c15, c16, c17, c18, c19, c20, c21⟩, -⟩ := scr_cells HX6.out
        go_wp2_with fail
        have HR : Hid (4 = res) := by
          unfold Hid
          rw [← HC.out]
          simp [scrErr, HZ.out, HP.out, HLT.out, looksOk, h5, h6]
        clear c0 c1 c2 c3 c4 c5 c6 c7 c8 c9 c10 c11 c12 c13 c14 c15 c16 c17 c18 c19 c20 c21
        go_wp2_with fail
        go_ret
        exact ⟨ret_int HR.out, HB6.out⟩
      | true =>
        have H6 := Sty.check_any s.kf s.kb s.kbits W5
        rw [h6] at H6
        by_cases hm : 0 ≤ s.modes ∧ s.modes ≤ 63
        case neg =>
          have hmb : (bits .andNot .i64 s.modes 63 != 0) = true := by rw [bne_iff_ne]; intro h; exact hm ((modes_ok _ HF.out.m0 HF.out.m1).1 h)
          refine (H6).mono ?_
          rintro e W6 ⟨rfl, b⟩
          have HX6 : Hid (W6.heap[w.heap.size]? = _) := Grd.carry HX5.out b
          have HB6 : Hid (Below w.heap.size w W6) := HB5.out.trans (b.mono HB5.out.size)
          clear c0 c1 c2 c3 c4 c5 c6 c7 c8 c9 c10 c11 c12 c13 c14 c15 c16 c17 c18 c19 c20 c21 b
          obtain ⟨⟨c0, c1, c2, c3, c4, c5, c6, c7, c8, c9, c10⟩, ⟨c11, c12, c13, c14, c15, c16, c17, c18, c19, c20, c21⟩, -⟩ := scr_cells HX6.out
          go_wp2_with fail
          have HR : Hid (4 = res) := by
            unfold Hid
            rw [← HC.out]
            simp [scrErr, HZ.out, HP.out, HLT.out, looksOk, h5, h6, hm]
          clear c0 c1 c2 c3 c4 c5 c6 c7 c8 c9 c10 c11 c12 c13 c14 c15 c16 c17 c18 c19 c20 c21
          go_wp2_with fail
          go_ret
          exact ⟨ret_int HR.out, HB6.out⟩
        have hmb : (bits .andNot .i64 s.modes 63 != 0) = false := by rw [bne_eq_false_iff_eq]; exact (modes_ok _ HF.out.m0 HF.out.m1).2 hm
        cases h7 : keptOk s.km with
        | false =>
          have hkb : (bits .andNot .i64 s.km 6 != 0) = true := by rw [bne_iff_ne]; intro h; rw [(kept_ok _ HF.out.k0 HF.out.k1).1 h] at h7; cases h7
          refine (H6).mono ?_
          rintro e W6 ⟨rfl, b⟩
          have HX6 : Hid (W6.heap[w.heap.size]? = _) := Grd.carry HX5.out b
          have HB6 : Hid (Below w.heap.size w W6) := HB5.out.trans (b.mono HB5.out.size)
          clear c0 c1 c2 c3 c4 c5 c6 c7 c8 c9 c10 c11 c12 c13 c14 c15 c16 c17 c18 c19 c20 c21 b
          obtain ⟨⟨c0, c1, c2, c3, c4, c5, c6, c7, c8, c9, c10⟩, ⟨c11, c12, c13, c14, c15, c16, c17, c18, c19, c20, c21⟩, -⟩ := scr_cells HX6.out
          go_wp2_with fail
          have HR : Hid (4 = res) := by
            unfold Hid
            rw [← HC.out]
            simp [scrErr, HZ.out, HP.out, HLT.out, looksOk, h5, h6, hm, h7]
          clear c0 c1 c2 c3 c4 c5 c6 c7 c8 c9 c10 c11 c12 c13 c14 c15 c16 c17 c18 c19 c20 c21
          go_wp2_with fail
          go_ret
          exact ⟨ret_int HR.out, HB6.out⟩
        | true =>
          have hkb : (bits .andNot .i64 s.km 6 != 0) = false := by rw [bne_eq_false_iff_eq]; exact (kept_ok _ HF.out.k0 HF.out.k1).2 h7
          have HLK : Hid (looksOk s = true) := by unfold Hid looksOk; simp [h5, h6, h7, hm]
          clear h5 h6 h7 hm
          have htb := HF.out.bl
          by_cases t1 : (s.tabs.length : Int) = s.w
          case neg =>
            have t1b : ((s.tabs.length : Int) != s.w) = true := by rw [bne_iff_ne]; exact t1
            have HT1 : Hid (¬ (s.tabs.length : Int) = s.w) := t1
            clear t1
            refine (H6).mono ?_
            rintro e W6 ⟨rfl, b⟩
            have HX6 : Hid (W6.heap[w.heap.size]? = _) := Grd.carry HX5.out b
            have HB6 : Hid (Below w.heap.size w W6) := HB5.out.trans (b.mono HB5.out.size)
            clear c0 c1 c2 c3 c4 c5 c6 c7 c8 c9 c10 c11 c12 c13 c14 c15 c16 c17 c18 c19 c20 c21 b
            obtain ⟨⟨c0, c1, c2, c3, c4, c5, c6, c7, c8, c9, c10⟩, ⟨c11, c12, c13, c14, c15, c16, c17, c18, c19, c20, c21⟩, -⟩ := scr_cells HX6.out
            go_wp2_with fail
            have HR : Hid (5 = res) := by
              unfold Hid
              rw [← HC.out]
              simp [scrErr, HZ.out, HP.out, HLT.out, HLK.out, restOk, HT1.out]
            clear c0 c1 c2 c3 c4 c5 c6 c7 c8 c9 c10 c11 c12 c13 c14 c15 c16 c17 c18 c19 c20 c21
            go_wp2_with fail
            go_ret
            exact ⟨ret_int HR.out, HB6.out⟩
          have t1b : ((s.tabs.length : Int) != s.w) = false := by rw [bne_eq_false_iff_eq]; exact t1
          have HT1 : Hid ((s.tabs.length : Int) = s.w) := t1
          clear t1
          by_cases l0 : s.last = 0
          · have l0b : (s.last != 0) = false := by rw [bne_eq_false_iff_eq]; exact l0
            have HL0 : Hid ((decide (s.last = 0) || !decide (wd s.last = 0)) = true) := by unfold Hid; rw [decide_eq_true l0]; rfl
            clear l0
            refine (H6).mono ?_
            rintro e W6 ⟨rfl, b⟩
            have HX6 : Hid (W6.heap[w.heap.size]? = _) := Grd.carry HX5.out b
            have HB6 : Hid (Below w.heap.size w W6) := HB5.out.trans (b.mono HB5.out.size)
            clear c0 c1 c2 c3 c4 c5 c6 c7 c8 c9 c10 c11 c12 c13 c14 c15 c16 c17 c18 c19 c20 c21 b
            obtain ⟨⟨c0, c1, c2, c3, c4, c5, c6, c7, c8, c9, c10⟩, ⟨c11, c12, c13, c14, c15, c16, c17, c18, c19, c20, c21⟩, -⟩ := scr_cells HX6.out
            go_wp2_with fail
            clear H5 H6
            cases h9 : titleOk s.title with
            | false =>
              have H9 := isTitle_any s.title W6 (HT.out _ HB6.out) HF.out.tl
              rw [h9] at H9
              refine (H9).mono ?_
              rintro e W7 ⟨rfl, b⟩
              have HX7 : Hid (W7.heap[w.heap.size]? = _) := Grd.carry HX6.out b
              have HB7 : Hid (Below w.heap.size w W7) := HB6.out.trans (b.mono HB6.out.size)
              clear c0 c1 c2 c3 c4 c5 c6 c7 c8 c9 c10 c11 c12 c13 c14 c15 c16 c17 c18 c19 c20 c21 b
              obtain ⟨⟨c0, c1, c2, c3, c4, c5, c6, c7, c8, c9, c10⟩, ⟨c11, c12, c13, c14, c15, c16, c17, c18, c19, c20, c21⟩, -⟩ := scr_cells HX7.out
              go_wp2_with fail
              have HR : Hid (5 = res) := by
                unfold Hid
                rw [← HC.out]
                simp [scrErr, HZ.out, HP.out, HLT.out, HLK.out, restOk, h9]
              clear c0 c1 c2 c3 c4 c5 c6 c7 c8 c9 c10 c11 c12 c13 c14 c15 c16 c17 c18 c19 c20 c21
              go_wp2_with fail
              go_ret
              exact ⟨ret_int HR.out, HB7.out⟩
            | true =>
              have H9 := isTitle_any s.title W6 (HT.out _ HB6.out) HF.out.tl
              rw [h9] at H9
              have HRS : Hid (restOk s = true) := by unfold Hid restOk; simp [HL0.out, HT1.out, h9]
              clear h9
              refine (H9).mono ?_
              rintro e W7 ⟨rfl, b⟩
              have HX7 : Hid (W7.heap[w.heap.size]? = _) := Grd.carry HX6.out b
              have HB7 : Hid (Below w.heap.size w W7) := HB6.out.trans (b.mono HB6.out.size)
              clear c0 c1 c2 c3 c4 c5 c6 c7 c8 c9 c10 c11 c12 c13 c14 c15 c16 c17 c18 c19 c20 c21 b
              obtain ⟨⟨c0, c1, c2, c3, c4, c5, c6, c7, c8, c9, c10⟩, ⟨c11, c12, c13, c14, c15, c16, c17, c18, c19, c20, c21⟩, -⟩ := scr_cells HX7.out
              go_wp2_with fail
              clear H9
              have HGN := checkGone_any s.gone _ W7 (HT.out _ HB7.out) (HV.out.g.next HB7.out) HF.out.gl
              have HR : Hid (goneErr s.gone = res) := by
                unfold Hid
                rw [← HC.out]
                simp [scrErr, HZ.out, HP.out, HLT.out, HLK.out, HRS.out]
              generalize goneErr s.gone = ge at HGN HR
              refine HGN.mono ?_
              rintro e V ⟨rfl, b⟩
              clear c0 c1 c2 c3 c4 c5 c6 c7 c8 c9 c10 c11 c12 c13 c14 c15 c16 c17 c18 c19 c20 c21
              go_wp2_with fail
              go_ret
              exact ⟨ret_int HR.out, HB7.out.trans (b.mono HB7.out.size)⟩
          · have l0b : (s.last != 0) = true := by rw [bne_iff_ne]; exact l0
            have HL1 : Hid (¬ s.last = 0) := l0
            clear l0
            by_cases l1 : wd s.last = 0
            · have HL2 : Hid (wd s.last = 0) := l1
              clear l1
              refine (H6).mono ?_
              rintro e W6 ⟨rfl, b⟩
              have HX6 : Hid (W6.heap[w.heap.size]? = _) := Grd.carry HX5.out b
              have HB6 : Hid (Below w.heap.size w W6) := HB5.out.trans (b.mono HB5.out.size)
              clear c0 c1 c2 c3 c4 c5 c6 c7 c8 c9 c10 c11 c12 c13 c14 c15 c16 c17 c18 c19 c20 c21 b
              obtain ⟨⟨c0, c1, c2, c3, c4, c5, c6, c7, c8, c9, c10⟩, ⟨c11, c12, c13, c14, c15, c16, c17, c18, c19, c20, c21⟩, -⟩ := scr_cells HX6.out
              go_wp2_with fail
              have H8 := Grd.width_to s.last W6 (HT.out _ HB6.out) 0 HL2.out
              refine (H8).mono ?_
              rintro e W7 ⟨rfl, b⟩
              have HX7 : Hid (W7.heap[w.heap.size]? = _) := Grd.carry HX6.out b
              have HB7 : Hid (Below w.heap.size w W7) := HB6.out.trans (b.mono HB6.out.size)
              clear c0 c1 c2 c3 c4 c5 c6 c7 c8 c9 c10 c11 c12 c13 c14 c15 c16 c17 c18 c19 c20 c21 b
              obtain ⟨⟨c0, c1, c2, c3, c4, c5, c6, c7, c8, c9, c10⟩, ⟨c11, c12, c13, c14, c15, c16, c17, c18, c19, c20, c21⟩, -⟩ := scr_cells HX7.out
              go_wp2_with fail
              have HR : Hid (5 = res) := by
                unfold Hid
                rw [← HC.out]
                simp [scrErr, HZ.out, HP.out, HLT.out, HLK.out, restOk, HL1.out, HL2.out]
              clear c0 c1 c2 c3 c4 c5 c6 c7 c8 c9 c10 c11 c12 c13 c14 c15 c16 c17 c18 c19 c20 c21
              go_wp2_with fail
              go_ret
              exact ⟨ret_int HR.out, HB7.out⟩
            · have l1b : (wd s.last == 0) = false := by rw [beq_eq_false_iff_ne]; exact l1
              have HL0 : Hid ((decide (s.last = 0) || !decide (wd s.last = 0)) = true) := by unfold Hid; rw [decide_eq_false l1]; simp
              clear l1
              refine (H6).mono ?_
              rintro e W6 ⟨rfl, b⟩
              have HX6 : Hid (W6.heap[w.heap.size]? = _) := Grd.carry HX5.out b
              have HB6 : Hid (Below w.heap.size w W6) := HB5.out.trans (b.mono HB5.out.size)
              clear c0 c1 c2 c3 c4 c5 c6 c7 c8 c9 c10 c11 c12 c13 c14 c15 c16 c17 c18 c19 c20 c21 b
              obtain ⟨⟨c0, c1, c2, c3, c4, c5, c6, c7, c8, c9, c10⟩, ⟨c11, c12, c13, c14, c15, c16, c17, c18, c19, c20, c21⟩, -⟩ := scr_cells HX6.out
              go_wp2_with fail
              have H8 := Grd.width_to s.last W6 (HT.out _ HB6.out) _ rfl
              refine (H8).mono ?_
              rintro e W7 ⟨rfl, b⟩
              have HX7 : Hid (W7.heap[w.heap.size]? = _) := Grd.carry HX6.out b
              have HB7 : Hid (Below w.heap.size w W7) := HB6.out.trans (b.mono HB6.out.size)
              clear c0 c1 c2 c3 c4 c5 c6 c7 c8 c9 c10 c11 c12 c13 c14 c15 c16 c17 c18 c19 c20 c21 b
              obtain ⟨⟨c0, c1, c2, c3, c4, c5, c6, c7, c8, c9, c10⟩, ⟨c11, c12, c13, c14, c15, c16, c17, c18, c19, c20, c21⟩, -⟩ := scr_cells HX7.out
              go_wp2_with fail
              clear H5 H6 H8
              cases h9 : titleOk s.title with
              | false =>
                have H9 := isTitle_any s.title W7 (HT.out _ HB7.out) HF.out.tl
                rw [h9] at H9
                refine (H9).mono ?_
                rintro e W8 ⟨rfl, b⟩
                have HX8 : Hid (W8.heap[w.heap.size]? = _) := Grd.carry HX7.out b
                have HB8 : Hid (Below w.heap.size w W8) := HB7.out.trans (b.mono HB7.out.size)
                clear c0 c1 c2 c3 c4 c5 c6 c7 c8 c9 c10 c11 c12 c13 c14 c15 c16 c17 c18 c19 c20 c21 b
                obtain ⟨⟨c0, c1, c2, c3, c4, c5, c6, c7, c8, c9, c10⟩, ⟨c11, c12, c13, c14, c15, c16, c17, c18, c19, c20, c21⟩, -⟩ := scr_cells HX8.out
                go_wp2_with fail
                have HR : Hid (5 = res) := by
                  unfold Hid
                  rw [← HC.out]
                  simp [scrErr, HZ.out, HP.out, HLT.out, HLK.out, restOk, h9]
                clear c0 c1 c2 c3 c4 c5 c6 c7 c8 c9 c10 c11 c12 c13 c14 c15 c16 c17 c18 c19 c20 c21
                go_wp2_with fail
                go_ret
                exact ⟨ret_int HR.out, HB8.out⟩
              | true =>
                have H9 := isTitle_any s.title W7 (HT.out _ HB7.out) HF.out.tl
                rw [h9] at H9
                have HRS : Hid (restOk s = true) := by unfold Hid restOk; simp [HL0.out, HT1.out, h9]
                clear h9
                refine (H9).mono ?_
                rintro e W8 ⟨rfl, b⟩
                have HX8 : Hid (W8.heap[w.heap.size]? = _) := Grd.carry HX7.out b
                have HB8 : Hid (Below w.heap.size w W8) := HB7.out.trans (b.mono HB7.out.size)
                clear c0 c1 c2 c3 c4 c5 c6 c7 c8 c9 c10 c11 c12 c13 c14 c15 c16 c17 c18 c19 c20 c21 b
                obtain ⟨⟨c0, c1, c2, c3, c4, c5, c6, c7, c8, c9, c10⟩, ⟨c11, c12, c13, c14, c15, c16, c17, c18, c19, c20, c21⟩, -⟩ := scr_cells HX8.out
                go_wp2_with fail
                clear H9
                have HGN := checkGone_any s.gone _ W8 (HT.out _ HB8.out) (HV.out.g.next HB8.out) HF.out.gl
                have HR : Hid (goneErr s.gone = res) := by
                  unfold Hid
                  rw [← HC.out]
                  simp [scrErr, HZ.out, HP.out, HLT.out, HLK.out, HRS.out]
                generalize goneErr s.gone = ge at HGN HR
                refine HGN.mono ?_
                rintro e V ⟨rfl, b⟩
                clear c0 c1 c2 c3 c4 c5 c6 c7 c8 c9 c10 c11 c12 c13 c14 c15 c16 c17 c18 c19 c20 c21
                go_wp2_with fail
                go_ret
                exact ⟨ret_int HR.out, HB8.out.trans (b.mono HB8.out.size)⟩
  | true =>
    by_cases hx : s.x = s.w - 1
    case neg =>
      have hxb : (s.x != s.w - 1) = true := by rw [bne_iff_ne]; exact hx
      have HLT : Hid (lateBad s = true) := by unfold Hid lateBad; rw [hl, decide_eq_false hx]; rfl
      clear hx
      refine (H3).mono ?_
      rintro e W4 ⟨rfl, b⟩
      have HX4 : Hid (W4.heap[w.heap.size]? = _) := Grd.carry HX3.out b
      have HB4 : Hid (Below w.heap.size w W4) := HB3.out.trans (b.mono HB3.out.size)
      clear c0 c1 c2 c3 c4 c5 c6 c7 c8 c9 c10 c11 c12 c13 c14 c15 c16 c17 c18 c19 c20 c21 b
      obtain ⟨⟨c0, c1, c2, c3, c4, c5, c6, c7, c8, c9, c10⟩, ⟨c11, c12, c13, c14, c15, c16, c17, c18, c19, c20, c21⟩, -⟩ := scr_cells HX4.out
      go_wp2_with fail
      have HR : Hid (5 = res) := by
        unfold Hid
        rw [← HC.out]
        simp [scrErr, HZ.out, HP.out, HLT.out]
      clear c0 c1 c2 c3 c4 c5 c6 c7 c8 c9 c10 c11 c12 c13 c14 c15 c16 c17 c18 c19 c20 c21
      go_wp2_with fail
      go_ret
      exact ⟨ret_int HR.out, HB4.out⟩
    have hxb : (s.x != s.w - 1) = false := by rw [bne_eq_false_iff_eq]; exact hx
    by_cases hm4 : bits .and .i64 s.modes 4 = 0
    · have hmb : (bits .and .i64 s.modes 4 == 0) = true := by rw [beq_iff_eq]; exact hm4
      have HLT : Hid (lateBad s = true) := by unfold Hid lateBad; rw [hl, decide_eq_true hm4]; simp
      clear hx hm4
      refine (H3).mono ?_
      rintro e W4 ⟨rfl, b⟩
      have HX4 : Hid (W4.heap[w.heap.size]? = _) := Grd.carry HX3.out b
      have HB4 : Hid (Below w.heap.size w W4) := HB3.out.trans (b.mono HB3.out.size)
      clear c0 c1 c2 c3 c4 c5 c6 c7 c8 c9 c10 c11 c12 c13 c14 c15 c16 c17 c18 c19 c20 c21 b
      obtain ⟨⟨c0, c1, c2, c3, c4, c5, c6, c7, c8, c9, c10⟩, ⟨c11, c12, c13, c14, c15, c16, c17, c18, c19, c20, c21⟩, -⟩ := scr_cells HX4.out
      go_wp2_with fail
      have HR : Hid (5 = res) := by
        unfold Hid
        rw [← HC.out]
        simp [scrErr, HZ.out, HP.out, HLT.out]
      clear c0 c1 c2 c3 c4 c5 c6 c7 c8 c9 c10 c11 c12 c13 c14 c15 c16 c17 c18 c19 c20 c21
      go_wp2_with fail
      go_ret
      exact ⟨ret_int HR.out, HB4.out⟩
    · have hmb4 : (bits .and .i64 s.modes 4 == 0) = false := by rw [beq_eq_false_iff_ne]; exact hm4
      have HLT : Hid (lateBad s = false) := by unfold Hid lateBad; rw [hl, decide_eq_false hm4, decide_eq_true hx]; rfl
      clear hx hm4
      refine (H3).mono ?_
      rintro e W4 ⟨rfl, b⟩
      have HX4 : Hid (W4.heap[w.heap.size]? = _) := Grd.carry HX3.out b
      have HB4 : Hid (Below w.heap.size w W4) := HB3.out.trans (b.mono HB3.out.size)
      clear c0 c1 c2 c3 c4 c5 c6 c7 c8 c9 c10 c11 c12 c13 c14 c15 c16 c17 c18 c19 c20 c21 b
      obtain ⟨⟨c0, c1, c2, c3, c4, c5, c6, c7, c8, c9, c10⟩, ⟨c11, c12, c13, c14, c15, c16, c17, c18, c19, c20, c21⟩, -⟩ := scr_cells HX4.out
      go_wp2_with fail
      clear H3 HRG
      cases h5 : isSt (s.sf, s.sb, s.sx) with
      | false =>
        have H5 := Sty.check_any s.sf s.sb s.sx W4
        rw [h5] at H5
        refine (H5).mono ?_
        rintro e W5 ⟨rfl, b⟩
        have HX5 : Hid (W5.heap[w.heap.size]? = _) := Grd.carry HX4.out b
        have HB5 : Hid (Below w.heap.size w W5) := HB4.out.trans (b.mono HB4.out.size)
        clear c0 c1 c2 c3 c4 c5 c6 c7 c8 c9 c10 c11 c12 c13 c14 c15 c16 c17 c18 c19 c20 c21 b
        obtain ⟨⟨c0, c1, c2, c3, c4, c5, c6, c7, c8, c9, c10⟩, ⟨c11, c12, c13, c14, c15, c16, c17, c18, c19, c20, c21⟩, -⟩ := scr_cells HX5.out
        go_wp2_with fail
        have HR : Hid (4 = res) := by
          unfold Hid
          rw [← HC.out]
          simp [scrErr, HZ.out, HP.out, HLT.out, looksOk, h5]
        clear c0 c1 c2 c3 c4 c5 c6 c7 c8 c9 c10 c11 c12 c13 c14 c15 c16 c17 c18 c19 c20 c21
        go_wp2_with fail
        go_ret
        exact ⟨ret_int HR.out, HB5.out⟩
      | true =>
        have H5 := Sty.check_any s.sf s.sb s.sx W4
        rw [h5] at H5
        refine (H5).mono ?_
        rintro e W5 ⟨rfl, b⟩
        have HX5 : Hid (W5.heap[w.heap.size]? = _) := Grd.carry HX4.out b
        have HB5 : Hid (Below w.heap.size w W5) := HB4.out.trans (b.mono HB4.out.size)
        clear c0 c1 c2 c3 c4 c5 c6 c7 c8 c9 c10 c11 c12 c13 c14 c15 c16 c17 c18 c19 c20 c21 b
        obtain ⟨⟨c0, c1, c2, c3, c4, c5, c6, c7, c8, c9, c10⟩, ⟨c11, c12, c13, c14, c15, c16, c17, c18, c19, c20, c21⟩, -⟩ := scr_cells HX5.out
        go_wp2_with fail
        cases h6 : isSt (s.kf, s.kb, s.kbits) with
        | false =>
          have H6 := Sty.check_any s.kf s.kb s.kbits W5
          rw [h6] at H6
          refine (H6).mono ?_
          rintro e W6 ⟨rfl, b⟩
          have HX6 : Hid (W6.heap[w.heap.size]? = _) := Grd.carry HX5.out b
          have HB6 : Hid (Below w.heap.size w W6) := HB5.out.trans (b.mono HB5.out.size)
          clear c0 c1 c2 c3 c4 c5 c6 c7 c8 c9 c10 c11 c12 c13 c14 c15 c16 c17 c18 c19 c20 c21 b
          obtain ⟨⟨c0, c1, c2, c3, c4, c5, c6, c7, c8, c9, c10⟩, ⟨c11, c12, c13, c14, c15, c16, c17, c18, c19, c20, c21⟩, -⟩ := scr_cells HX6.out
          go_wp2_with fail
          have HR : Hid (4 = res) := by
            unfold Hid
            rw [← HC.out]
            simp [scrErr, HZ.out, HP.out, HLT.out, looksOk, h5, h6]
          clear c0 c1 c2 c3 c4 c5 c6 c7 c8 c9 c10 c11 c12 c13 c14 c15 c16 c17 c18 c19 c20 c21
          go_wp2_with fail
          go_ret
          exact ⟨ret_int HR.out, HB6.out⟩
        | true =>
          have H6 := Sty.check_any s.kf s.kb s.kbits W5
          rw [h6] at H6
          by_cases hm : 0 ≤ s.modes ∧ s.modes ≤ 63
          case neg =>
            have hmb : (bits .andNot .i64 s.modes 63 != 0) = true := by rw [bne_iff_ne]; intro h; exact hm ((modes_ok _ HF.out.m0 HF.out.m1).1 h)
            refine (H6).mono ?_
            rintro e W6 ⟨rfl, b⟩
            have HX6 : Hid (W6.heap[w.heap.size]? = _) := Grd.carry HX5.out b
            have HB6 : Hid (Below w.heap.size w W6) := HB5.out.trans (b.mono HB5.out.size)
            clear c0 c1 c2 c3 c4 c5 c6 c7 c8 c9 c10 c11 c12 c13 c14 c15 c16 c17 c18 c19 c20 c21 b
            obtain ⟨⟨c0, c1, c2, c3, c4, c5, c6, c7, c8, c9, c10⟩, ⟨c11, c12, c13, c14, c15, c16, c17, c18, c19, c20, c21⟩, -⟩ := scr_cells HX6.out
            go_wp2_with fail
            have HR : Hid (4 = res) := by
              unfold Hid
              rw [← HC.out]
              simp [scrErr, HZ.out, HP.out, HLT.out, looksOk, h5, h6, hm]
            clear c0 c1 c2 c3 c4 c5 c6 c7 c8 c9 c10 c11 c12 c13 c14 c15 c16 c17 c18 c19 c20 c21
            go_wp2_with fail
            go_ret
            exact ⟨ret_int HR.out, HB6.out⟩
          have hmb : (bits .andNot .i64 s.modes 63 != 0) = false := by rw [bne_eq_false_iff_eq]; exact (modes_ok _ HF.out.m0 HF.out.m1).2 hm
          cases h7 : keptOk s.km with
          | false =>
            have hkb : (bits .andNot .i64 s.km 6 != 0) = true := by rw [bne_iff_ne]; intro h; rw [(kept_ok _ HF.out.k0 HF.out.k1).1 h] at h7; cases h7
            refine (H6).mono ?_
            rintro e W6 ⟨rfl, b⟩
            have HX6 : Hid (W6.heap[w.heap.size]? = _) := Grd.carry HX5.out b
            have HB6 : Hid (Below w.heap.size w W6) := HB5.out.trans (b.mono HB5.out.size)
            clear c0 c1 c2 c3 c4 c5 c6 c7 c8 c9 c10 c11 c12 c13 c14 c15 c16 c17 c18 c19 c20 c21 b
            obtain ⟨⟨c0, c1, c2, c3, c4, c5, c6, c7, c8, c9, c10⟩, ⟨c11, c12, c13, c14, c15, c16, c17, c18, c19, c20, c21⟩, -⟩ := scr_cells HX6.out
            go_wp2_with fail
            have HR : Hid (4 = res) := by
              unfold Hid
              rw [← HC.out]
              simp [scrErr, HZ.out, HP.out, HLT.out, looksOk, h5, h6, hm, h7]
            clear c0 c1 c2 c3 c4 c5 c6 c7 c8 c9 c10 c11 c12 c13 c14 c15 c16 c17 c18 c19 c20 c21
            go_wp2_with fail
            go_ret
            exact ⟨ret_int HR.out, HB6.out⟩
          | true =>
            have hkb : (bits .andNot .i64 s.km 6 != 0) = false := by rw [bne_eq_false_iff_eq]; exact (kept_ok _ HF.out.k0 HF.out.k1).2 h7
            have HLK : Hid (looksOk s = true) := by unfold Hid looksOk; simp [h5, h6, h7, hm]
            clear h5 h6 h7 hm
            have htb := HF.out.bl
            by_cases t1 : (s.tabs.length : Int) = s.w
            case neg =>
              have t1b : ((s.tabs.length : Int) != s.w) = true := by rw [bne_iff_ne]; exact t1
              have HT1 : Hid (¬ (s.tabs.length : Int) = s.w) := t1
              clear t1
              refine (H6).mono ?_
              rintro e W6 ⟨rfl, b⟩
              have HX6 : Hid (W6.heap[w.heap.size]? = _) := Grd.carry HX5.out b
              have HB6 : Hid (Below w.heap.size w W6) := HB5.out.trans (b.mono HB5.out.size)
              clear c0 c1 c2 c3 c4 c5 c6 c7 c8 c9 c10 c11 c12 c13 c14 c15 c16 c17 c18 c19 c20 c21 b
              obtain ⟨⟨c0, c1, c2, c3, c4, c5, c6, c7, c8, c9, c10⟩, ⟨c11, c12, c13, c14, c15, c16, c17, c18, c19, c20, c21⟩, -⟩ := scr_cells HX6.out
              go_wp2_with fail
              have HR : Hid (5 = res) := by
                unfold Hid
                rw [← HC.out]
                simp [scrErr, HZ.out, HP.out, HLT.out, HLK.out, restOk, HT1.out]
              clear c0 c1 c2 c3 c4 c5 c6 c7 c8 c9 c10 c11 c12 c13 c14 c15 c16 c17 c18 c19 c20 c21
              go_wp2_with fail
              go_ret
              exact ⟨ret_int HR.out, HB6.out⟩
            have t1b : ((s.tabs.length : Int) != s.w) = false := by rw [bne_eq_false_iff_eq]; exact t1
            have HT1 : Hid ((s.tabs.length : Int) = s.w) := t1
            clear t1
            by_cases l0 : s.last = 0
            · have l0b : (s.last != 0) = false := by rw [bne_eq_false_iff_eq]; exact l0
              have HL0 : Hid ((decide (s.last = 0) || !decide (wd s.last = 0)) = true) := by unfold Hid; rw [decide_eq_true l0]; rfl
              clear l0
              refine (H6).mono ?_
              rintro e W6 ⟨rfl, b⟩
              have HX6 : Hid (W6.heap[w.heap.size]? = _) := Grd.carry HX5.out b
              have HB6 : Hid (Below w.heap.size w W6) := HB5.out.trans (b.mono HB5.out.size)
              clear c0 c1 c2 c3 c4 c5 c6 c7 c8 c9 c10 c11 c12 c13 c14 c15 c16 c17 c18 c19 c20 c21 b
              obtain ⟨⟨c0, c1, c2, c3, c4, c5, c6, c7, c8, c9, c10⟩, ⟨c11, c12, c13, c14, c15, c16, c17, c18, c19, c20, c21⟩, -⟩ := scr_cells HX6.out
              go_wp2_with fail
              clear H5 H6
              cases h9 : titleOk s.title with
              | false =>
                have H9 := isTitle_any s.title W6 (HT.out _ HB6.out) HF.out.tl
                rw [h9] at H9
                refine (H9).mono ?_
                rintro e W7 ⟨rfl, b⟩
                have HX7 : Hid (W7.heap[w.heap.size]? = _) := Grd.carry HX6.out b
                have HB7 : Hid (Below w.heap.size w W7) := HB6.out.trans (b.mono HB6.out.size)
                clear c0 c1 c2 c3 c4 c5 c6 c7 c8 c9 c10 c11 c12 c13 c14 c15 c16 c17 c18 c19 c20 c21 b
                obtain ⟨⟨c0, c1, c2, c3, c4, c5, c6, c7, c8, c9, c10⟩, ⟨c11, c12, c13, c14, c15, c16, c17, c18, c19, c20, c21⟩, -⟩ := scr_cells HX7.out
                go_wp2_with fail
                have HR : Hid (5 = res) := by
                  unfold Hid
                  rw [← HC.out]
                  simp [scrErr, HZ.out, HP.out, HLT.out, HLK.out, restOk, h9]
                clear c0 c1 c2 c3 c4 c5 c6 c7 c8 c9 c10 c11 c12 c13 c14 c15 c16 c17 c18 c19 c20 c21
                go_wp2_with fail
                go_ret
                exact ⟨ret_int HR.out, HB7.out⟩
              | true =>
                have H9 := isTitle_any s.title W6 (HT.out _ HB6.out) HF.out.tl
                rw [h9] at H9
                have HRS : Hid (restOk s = true) := by unfold Hid restOk; simp [HL0.out, HT1.out, h9]
                clear h9
                refine (H9).mono ?_
                rintro e W7 ⟨rfl, b⟩
                have HX7 : Hid (W7.heap[w.heap.size]? = _) := Grd.carry HX6.out b
                have HB7 : Hid (Below w.heap.size w W7) := HB6.out.trans (b.mono HB6.out.size)
                clear c0 c1 c2 c3 c4 c5 c6 c7 c8 c9 c10 c11 c12 c13 c14 c15 c16 c17 c18 c19 c20 c21 b
                obtain ⟨⟨c0, c1, c2, c3, c4, c5, c6, c7, c8, c9, c10⟩, ⟨c11, c12, c13, c14, c15, c16, c17, c18, c19, c20, c21⟩, -⟩ := scr_cells HX7.out
                go_wp2_with fail
                clear H9
                have HGN := checkGone_any s.gone _ W7 (HT.out _ HB7.out) (HV.out.g.next HB7.out) HF.out.gl
                have HR : Hid (goneErr s.gone = res) := by
                  unfold Hid
                  rw [← HC.out]
                  simp [scrErr, HZ.out, HP.out, HLT.out, HLK.out, HRS.out]
                generalize goneErr s.gone = ge at HGN HR
                refine HGN.mono ?_
                rintro e V ⟨rfl, b⟩
                clear c0 c1 c2 c3 c4 c5 c6 c7 c8 c9 c10 c11 c12 c13 c14 c15 c16 c17 c18 c19 c20 c21
                go_wp2_with fail
                go_ret
                exact ⟨ret_int HR.out, HB7.out.trans (b.mono HB7.out.size)⟩
            · have l0b : (s.last != 0) = true := by rw [bne_iff_ne]; exact l0
              have HL1 : Hid (¬ s.last = 0) := l0
              clear l0
              by_cases l1 : wd s.last = 0
              · have HL2 : Hid (wd s.last = 0) := l1
                clear l1
                refine (H6).mono ?_
                rintro e W6 ⟨rfl, b⟩
                have HX6 : Hid (W6.heap[w.heap.size]? = _) := Grd.carry HX5.out b
                have HB6 : Hid (Below w.heap.size w W6) := HB5.out.trans (b.mono HB5.out.size)
                clear c0 c1 c2 c3 c4 c5 c6 c7 c8 c9 c10 c11 c12 c13 c14 c15 c16 c17 c18 c19 c20 c21 b
                obtain ⟨⟨c0, c1, c2, c3, c4, c5, c6, c7, c8, c9, c10⟩, ⟨c11, c12, c13, c14, c15, c16, c17, c18, c19, c20, c21⟩, -⟩ := scr_cells HX6.out
                go_wp2_with fail
                have H8 := Grd.width_to s.last W6 (HT.out _ HB6.out) 0 HL2.out
                refine (H8).mono ?_
                rintro e W7 ⟨rfl, b⟩
                have HX7 : Hid (W7.heap[w.heap.size]? = _) := Grd.carry HX6.out b
                have HB7 : Hid (Below w.heap.size w W7) := HB6.out.trans (b.mono HB6.out.size)
                clear c0 c1 c2 c3 c4 c5 c6 c7 c8 c9 c10 c11 c12 c13 c14 c15 c16 c17 c18 c19 c20 c21 b
                obtain ⟨⟨c0, c1, c2, c3, c4, c5, c6, c7, c8, c9, c10⟩, ⟨c11, c12, c13, c14, c15, c16, c17, c18, c19, c20, c21⟩, -⟩ := scr_cells HX7.out
                go_wp2_with fail
                have HR : Hid (5 = res) := by
                  unfold Hid
                  rw [← HC.out]
                  simp [scrErr, HZ.out, HP.out, HLT.out, HLK.out, restOk, HL1.out, HL2.out]
                clear c0 c1 c2 c3 c4 c5 c6 c7 c8 c9 c10 c11 c12 c13 c14 c15 c16 c17 c18 c19 c20 c21
                go_wp2_with fail
                go_ret
                exact ⟨ret_int HR.out, HB7.out⟩
              · have l1b : (wd s.last == 0) = false := by rw [beq_eq_false_iff_ne]; exact l1
                have HL0 : Hid ((decide (s.last = 0) || !decide (wd s.last = 0)) = true) := by unfold Hid; rw [decide_eq_false l1]; simp
                clear l1
                refine (H6).mono ?_
                rintro e W6 ⟨rfl, b⟩
                have HX6 : Hid (W6.heap[w.heap.size]? = _) := Grd.carry HX5.out b
                have HB6 : Hid (Below w.heap.size w W6) := HB5.out.trans (b.mono HB5.out.size)
                clear c0 c1 c2 c3 c4 c5 c6 c7 c8 c9 c10 c11 c12 c13 c14 c15 c16 c17 c18 c19 c20 c21 b
                obtain ⟨⟨c0, c1, c2, c3, c4, c5, c6, c7, c8, c9, c10⟩, ⟨c11, c12, c13, c14, c15, c16, c17, c18, c19, c20, c21⟩, -⟩ := scr_cells HX6.out
                go_wp2_with fail
                have H8 := Grd.width_to s.last W6 (HT.out _ HB6.out) _ rfl
                refine (H8).mono ?_
                rintro e W7 ⟨rfl, b⟩
                have HX7 : Hid (W7.heap[w.heap.size]? = _) := Grd.carry HX6.out b
                have HB7 : Hid (Below w.heap.size w W7) := HB6.out.trans (b.mono HB6.out.size)
                clear c0 c1 c2 c3 c4 c5 c6 c7 c8 c9 c10 c11 c12 c13 c14 c15 c16 c17 c18 c19 c20 c21 b
                obtain ⟨⟨c0, c1, c2, c3, c4, c5, c6, c7, c8, c9, c10⟩, ⟨c11, c12, c13, c14, c15, c16, c17, c18, c19, c20, c21⟩, -⟩ := scr_cells HX7.out
                go_wp2_with fail
                clear H5 H6 H8
                cases h9 : titleOk s.title with
                | false =>
                  have H9 := isTitle_any s.title W7 (HT.out _ HB7.out) HF.out.tl
                  rw [h9] at H9
                  refine (H9).mono ?_
                  rintro e W8 ⟨rfl, b⟩
                  have HX8 : Hid (W8.heap[w.heap.size]? = _) := Grd.carry HX7.out b
                  have HB8 : Hid (Below w.heap.size w W8) := HB7.out.trans (b.mono HB7.out.size)
                  clear c0 c1 c2 c3 c4 c5 c6 c7 c8 c9 c10 c11 c12 c13 c14 c15 c16 c17 c18 c19 c20 c21 b
                  obtain ⟨⟨c0, c1, c2, c3, c4, c5, c6, c7, c8, c9, c10⟩, ⟨c11, c12, c13, c14, c15, c16, c17, c18, c19, c20, c21⟩, -⟩ := scr_cells HX8.out
                  go_wp2_with fail
                  have HR : Hid (5 = res) := by
                    unfold Hid
                    rw [← HC.out]
                    simp [scrErr, HZ.out, HP.out, HLT.out, HLK.out, restOk, h9]
                  clear c0 c1 c2 c3 c4 c5 c6 c7 c8 c9 c10 c11 c12 c13 c14 c15 c16 c17 c18 c19 c20 c21
                  go_wp2_with fail
                  go_ret
                  exact ⟨ret_int HR.out, HB8.out⟩
                | true =>
                  have H9 := isTitle_any s.title W7 (HT.out _ HB7.out) HF.out.tl
                  rw [h9] at H9
                  have HRS : Hid (restOk s = true) := by unfold Hid restOk; simp [HL0.out, HT1.out, h9]
                  clear h9
                  refine (H9).mono ?_
                  rintro e W8 ⟨rfl, b⟩
                  have HX8 : Hid (W8.heap[w.heap.size]? = _) := Grd.carry HX7.out b
                  have HB8 : Hid (Below w.heap.size w W8) := HB7.out.trans (b.mono HB7.out.size)
                  clear c0 c1 c2 c3 c4 c5 c6 c7 c8 c9 c10 c11 c12 c13 c14 c15 c16 c17 c18 c19 c20 c21 b
                  obtain ⟨⟨c0, c1, c2, c3, c4, c5, c6, c7, c8, c9, c10⟩, ⟨c11, c12, c13, c14, c15, c16, c17, c18, c19, c20, c21⟩, -⟩ := scr_cells HX8.out
                  go_wp2_with fail
                  clear H9
                  have HGN := checkGone_any s.gone _ W8 (HT.out _ HB8.out) (HV.out.g.next HB8.out) HF.out.gl
                  have HR : Hid (goneErr s.gone = res) := by
                    unfold Hid
                    rw [← HC.out]
                    simp [scrErr, HZ.out, HP.out, HLT.out, HLK.out, HRS.out]
                  generalize goneErr s.gone = ge at HGN HR
                  refine HGN.mono ?_
                  rintro e V ⟨rfl, b⟩
                  clear c0 c1 c2 c3 c4 c5 c6 c7 c8 c9 c10 c11 c12 c13 c14 c15 c16 c17 c18 c19 c20 c21
                  go_wp2_with fail
                  go_ret
                  exact ⟨ret_int HR.out, HB8.out.trans (b.mono HB8.out.size)⟩
end Put
end Go.Proofs.YtmeeojgjboppoaaDoor
