/- Tabs: the next one to the right, to the left, so often. -/
import Derived.Test.YtnkeahfcpbepjaaGreatDoorPartF
import Derived.Test.YtnkeahfcpbepjaaGreatDoorPartI
import Derived.Test.YtnkeahfcpbepjaaGreatDoorPartH
import Derived.BigRegion
import Derived.Lib.SliceRun
import Derived.Test.YtnkeahfcpbepjaaGreatDoorPartO
import Derived.Test.YtnkeahfcpbepjaaGreatDoorPartN
namespace Go.Proofs.YtnkeahfcpbepjaaGreatDoor
namespace Put
/-- The next tab to the right, d columns ahead of the last one. -/
def nR (tabs : List Bool) (n : Nat) : Nat → Nat
  | 0 => n - 1
  | d + 1 => if tabs.getD (n - 1 - d) false then n - 1 - d else nR tabs n d
def nextR (tabs : List Bool) (n x : Nat) : Nat := nR tabs n (n - 1 - x)
def nextL (tabs : List Bool) : Nat → Nat
  | 0 => 0
  | x + 1 => if tabs.getD x false then x else nextL tabs x
theorem nextR_last (tabs : List Bool) (n x : Nat) (h : n ≤ x + 1) : nextR tabs n x = n - 1 := by
  unfold nextR
  rw [show n - 1 - x = 0 by omega]
  rfl
theorem nextR_step (tabs : List Bool) (n x : Nat) (h : x + 1 < n) : nextR tabs n x = if tabs.getD (x + 1) false then x + 1 else nextR tabs n (x + 1) := by
  unfold nextR
  rw [show n - 1 - x = (n - 1 - (x + 1)) + 1 by omega]
  show (if tabs.getD (n - 1 - (n - 1 - (x + 1))) false then n - 1 - (n - 1 - (x + 1)) else _) = _
  rw [show n - 1 - (n - 1 - (x + 1)) = x + 1 by omega]
theorem nR_range (tabs : List Bool) (n : Nat) : ∀ d, d ≤ n - 1 → n - d ≤ nR tabs n d + 1 ∧ nR tabs n d ≤ n - 1
  | 0, _ => by
    show n - 0 ≤ n - 1 + 1 ∧ n - 1 ≤ n - 1
    omega
  | d + 1, h => by
    have ih := nR_range tabs n d (by omega)
    show n - (d + 1) ≤ (if tabs.getD (n - 1 - d) false then n - 1 - d else nR tabs n d) + 1 ∧ (if tabs.getD (n - 1 - d) false then n - 1 - d else nR tabs n d) ≤ n - 1
    split <;> omega
theorem nextR_range (tabs : List Bool) (n x : Nat) (hx : x < n) : x ≤ nextR tabs n x ∧ nextR tabs n x ≤ n - 1 ∧ (x + 1 < n → x < nextR tabs n x) := by
  have h := nR_range tabs n (n - 1 - x) (by omega)
  have h2 : nR tabs n (n - 1 - x) = nextR tabs n x := rfl
  rw [h2] at h
  refine ⟨by omega, h.2, fun h1 => ?_⟩
  rw [nextR_step tabs n x h1]
  split
  · omega
  · have h3 := nR_range tabs n (n - 1 - (x + 1)) (by omega)
    have h4 : nR tabs n (n - 1 - (x + 1)) = nextR tabs n (x + 1) := rfl
    rw [h4] at h3
    omega
theorem nextL_range (tabs : List Bool) : ∀ x, nextL tabs x ≤ x - 1
  | 0 => Nat.le_refl _
  | x + 1 => by
    have ih := nextL_range tabs x
    show (if tabs.getD x false then x else nextL tabs x) ≤ _
    split <;> omega
/-- So often. -/
def often' (f : Nat → Nat) : Nat → Nat → Nat
  | 0, x => x
  | k + 1, x => f (often' f k x)
theorem oftenR (tabs : List Bool) (n x : Nat) (hx : x < n) : ∀ k, often' (nextR tabs n) k x < n ∧ min (x + k) (n - 1) ≤ often' (nextR tabs n) k x
  | 0 => ⟨hx, by show _ ≤ x; omega⟩
  | k + 1 => by
    obtain ⟨h1, h2⟩ := oftenR tabs n x hx k
    have h3 := nextR_range tabs n _ h1
    show nextR tabs n (often' (nextR tabs n) k x) < n ∧ _ ≤ nextR tabs n (often' (nextR tabs n) k x)
    refine ⟨by omega, ?_⟩
    by_cases h4 : often' (nextR tabs n) k x + 1 < n
    · have := h3.2.2 h4
      omega
    · omega
theorem oftenL (tabs : List Bool) (n x : Nat) (hx : x < n) : ∀ k, often' (nextL tabs) k x ≤ x - k
  | 0 => Nat.le_refl _
  | k + 1 => by
    have h := oftenL tabs n x hx k
    have h2 := nextL_range tabs (often' (nextL tabs) k x)
    show nextL tabs (often' (nextL tabs) k x) ≤ _
    omega
theorem oftenR_min (tabs : List Bool) (n x c : Nat) (hx : x < n) : often' (nextR tabs n) c x = often' (nextR tabs n) (min c n) x := by
  by_cases h : c ≤ n
  · rw [Nat.min_eq_left h]
  · rw [Nat.min_eq_right (by omega)]
    have h1 := oftenR tabs n x hx c
    have h2 := oftenR tabs n x hx n
    omega
theorem oftenL_min (tabs : List Bool) (n x c : Nat) (hx : x < n) : often' (nextL tabs) c x = often' (nextL tabs) (min c n) x := by
  by_cases h : c ≤ n
  · rw [Nat.min_eq_left h]
  · rw [Nat.min_eq_right (by omega)]
    have h1 := oftenL tabs n x hx c
    have h2 := oftenL tabs n x hx n
    omega
end Put
end Go.Proofs.YtnkeahfcpbepjaaGreatDoor

/- nextTab; tabbed's, SetTab's and ClearTab's closures. -/
namespace Go.Proofs.YtnkeahfcpbepjaaGreatDoor
open Go.ChangeShapes Go.WideShapes Go.ChangeAt Go.RowKit
namespace Put
open Grd (C SliceAt CellsAt gridErr z0 nilV)
/-- The tabs of a sheet, where they lie. -/
theorem bools_at {W : World} {N : Nat} {tv : Value} {l : List Bool} (h : W.ownsRow N 4 1 tv l.length (l.map Value.bool)) (hn : 0 < l.length) : ∃ g c, tv = .slice (some ⟨g, 0, none⟩) l.length c ∧ N ≤ g ∧ l.length ≤ c ∧ c ≤ 9223372036854775807 ∧ (∀ j, j < l.length → W.cell? ⟨g, j, none⟩ = some (.bool (l.getD j false))) ∧ ∃ A, W.heap[g]? = some (.cells A 4 (0, 0)) := by
  obtain ⟨h0, ⟨-, hz⟩ | ⟨g, cap, cur, hv, hg, hh, hc, hm, hs, htk⟩⟩ := h
  · omega
  · refine ⟨g, cap, hv, hg, hc, by unfold maxLen at hm; omega, fun j hj => ?_, cur, hh⟩
    have e : cur[j]? = (l.map Value.bool)[j]? := by
      rw [← htk, ← Array.getElem?_toList, List.getElem?_take_of_lt (by omega)]
    unfold World.cell?
    simp only [hh]
    rw [e, List.getElem?_map, List.getElem?_eq_getElem hj]
    simp [List.getD, hj]
set_option maxHeartbeats 2000000 in
theorem nextTabR {M N p : Nat} {s : Scr} {rows : List (List C)} (n x : Nat) (W : World) (hS : ShAt 64 W M N p s rows) (hw : s.w = n) (hx : s.x = x) (hxn : x < n) (hn : n ≤ 120) (htl : s.tabs.length = n) :
    Calls Tryz.prog 90 #[.pointer (some ⟨p, 0, none⟩), .int .i64 1] W fun e w' => e = .returned (.int .i64 (nextR s.tabs n x : Nat)) ∧ W = w' := by
  obtain ⟨cv, tv, gv, rv, gvs, vs, hA⟩ := hS
  obtain ⟨g, tc, rfl, -, h1, h2, hcell, -⟩ := bools_at hA.tabs (by omega)
  obtain ⟨⟨c0, -, -, c3, -⟩, ⟨-, c12, -⟩, -⟩ := sh_cells hA.blk
  rw [htl] at c12 h1 hcell
  rw [hw] at c0
  rw [hx] at c3
  have HC : Hid (∀ j, j < n → W.cell? ⟨g, j, none⟩ = some (.bool (s.tabs.getD j false))) := hcell
  clear hA hcell hw hx htl
  generalize s.tabs = tabs at *
  go_enter Tryz.func90, Tryz.ntmps90
  go_wp2_with fail
  go_loopg [5] n (fun q v wr => ∃ j : Nat, v = .int .i64 (j : Int) ∧ j < n ∧ n - j ≤ q ∧ nextR tabs n j = nextR tabs n x ∧ wr = W)
  case atStart => exact ⟨x, rfl, hxn, by omega, rfl, rfl⟩
  case round =>
    obtain ⟨j, rfl, hj, hq, he, rfl⟩ := hrel
    have HE : Hid (nextR tabs n j = nextR tabs n x) := he
    clear he
    by_cases hlt : j + 1 < n
    · have l1 : (0 : Int) ≤ (j : Int) + 1 := by omega
      have l2 : (j : Int) + 1 < (n : Int) := by omega
      have d := HC.out (j + 1) hlt
      have hst := nextR_step tabs n j hlt
      have HST : Hid (nextR tabs n j = if tabs.getD (j + 1) false then j + 1 else nextR tabs n (j + 1)) := hst
      clear hst
      cases hb : tabs.getD (j + 1) false with
      | true =>
        rw [hb] at d
        go_wp2_with fail
        go_ret
        refine ⟨?_, rfl⟩
        rw [← HE.out, HST.out, hb]
        rfl
      | false =>
        rw [hb] at d
        go_wp2_with fail
        go_roundg (n - (j + 1))
        case measure => omega
        case rel => exact ⟨j + 1, by go_num, hlt, by omega, by rw [← HE.out, HST.out, hb]; rfl, rfl⟩
    · have l1 : (0 : Int) ≤ (j : Int) + 1 := by omega
      have l2 : ¬ (j : Int) + 1 < (n : Int) := by omega
      go_wp2_with fail
      go_ret
      refine ⟨?_, rfl⟩
      rw [← HE.out, nextR_last tabs n j (by omega), show n - 1 = j by omega]
      rfl
set_option maxHeartbeats 2000000 in
theorem nextTabL {M N p : Nat} {s : Scr} {rows : List (List C)} (n x : Nat) (W : World) (hS : ShAt 64 W M N p s rows) (hw : s.w = n) (hx : s.x = x) (hxn : x < n) (hn : n ≤ 120) (htl : s.tabs.length = n) :
    Calls Tryz.prog 90 #[.pointer (some ⟨p, 0, none⟩), .int .i64 (-1)] W fun e w' => e = .returned (.int .i64 (nextL s.tabs x : Nat)) ∧ W = w' := by
  obtain ⟨cv, tv, gv, rv, gvs, vs, hA⟩ := hS
  obtain ⟨g, tc, rfl, -, h1, h2, hcell, -⟩ := bools_at hA.tabs (by omega)
  obtain ⟨⟨c0, -, -, c3, -⟩, ⟨-, c12, -⟩, -⟩ := sh_cells hA.blk
  rw [htl] at c12 h1 hcell
  rw [hw] at c0
  rw [hx] at c3
  have HC : Hid (∀ j, j < n → W.cell? ⟨g, j, none⟩ = some (.bool (s.tabs.getD j false))) := hcell
  clear hA hcell hw hx htl
  generalize s.tabs = tabs at *
  go_enter Tryz.func90, Tryz.ntmps90
  go_wp2_with fail
  go_loopg [5] n (fun q v wr => ∃ j : Nat, v = .int .i64 (j : Int) ∧ j < n ∧ j ≤ q ∧ nextL tabs j = nextL tabs x ∧ wr = W)
  case atStart => exact ⟨x, rfl, hxn, by omega, rfl, rfl⟩
  case round =>
    obtain ⟨j, rfl, hj, hq, he, rfl⟩ := hrel
    have HE : Hid (nextL tabs j = nextL tabs x) := he
    clear he
    cases j with
    | zero =>
      have l1 : ¬ (0 : Int) ≤ ((0 : Nat) : Int) + -1 := by omega
      go_wp2_with fail
      go_ret
      refine ⟨?_, rfl⟩
      rw [← HE.out]
      rfl
    | succ j =>
      have l0 : (j : Int) + 1 + -1 = (j : Int) := by omega
      have l1 : (0 : Int) ≤ (j : Int) := by omega
      have l2 : (j : Int) < (n : Int) := by omega
      have hwr : IntKind.i64.wrap ((j : Int) + 1 + -1) = (j : Int) := by rw [l0]; exact wrap_id _ (by omega) (by omega)
      have d := HC.out j (by omega)
      have HST : Hid (nextL tabs (j + 1) = if tabs.getD j false then j else nextL tabs j) := rfl
      cases hb : tabs.getD j false with
      | true =>
        rw [hb] at d
        go_wp2_with fail
        go_ret
        refine ⟨?_, rfl⟩
        rw [← HE.out, HST.out, hb]
        rfl
      | false =>
        rw [hb] at d
        go_wp2_with fail
        go_roundg j
        case measure => omega
        case rel => exact ⟨j, by go_num, by omega, by omega, by rw [← HE.out, HST.out, hb]; rfl, rfl⟩
end Put
end Go.Proofs.YtnkeahfcpbepjaaGreatDoor

/- tabbed's, SetTab's and ClearTab's closures. -/
namespace Go.Proofs.YtnkeahfcpbepjaaGreatDoor
open Go.ChangeShapes Go.WideShapes Go.ChangeAt Go.RowKit
namespace Put
open Grd (C SliceAt CellsAt gridErr z0 nilV)
theorem own_tab {W : World} {N g c : Nat} {l : List Bool} (h : W.ownsRow N 4 1 (.slice (some ⟨g, 0, none⟩) l.length c) l.length (l.map Value.bool)) (k : Nat) (b : Bool) : (W.setCell ⟨g, k, none⟩ (.bool b)).ownsRow N 4 1 (.slice (some ⟨g, 0, none⟩) l.length c) (l.set k b).length ((l.set k b).map Value.bool) := by
  have h1 := own_set (k := k) (v := .bool b) h
  rw [List.length_set, List.map_set]
  exact h1
/-- A tab is set, or cleared. -/
theorem ShA.tab {t : TypeId} (ht : IsSheet t) {W : World} {M N p : Nat} {s : Scr} {rows : List (List C)} {cv gv rv : Value} {gvs vs : List Value} {g c : Nat} (h : ShA t W M N p s rows cv (.slice (some ⟨g, 0, none⟩) s.tabs.length c) gv rv gvs vs) (hn : 0 < s.tabs.length) (k : Nat) (b : Bool) :
    ShA t (W.setCell ⟨g, k, none⟩ (.bool b)) M N p { s with tabs := s.tabs.set k b } rows cv (.slice (some ⟨g, 0, none⟩) s.tabs.length c) gv rv gvs vs := by
  obtain ⟨g', c', hv, hg, -, -, -, A, hA⟩ := bools_at h.tabs hn
  injection hv with hv1 _ hv3
  injection hv1 with hv1
  injection hv1 with hv1
  subst hv1
  have hne : p ≠ g := fun e => by
    have hb := h.blk
    rw [e, hA] at hb
    injection hb with hb
    injection hb with _ hb _
    exact ht.1 hb.symm
  have hk : Kept M W (W.setCell ⟨g, k, none⟩ (.bool b)) := Kept.store hA (by decide) (Nat.le_trans h.ml hg)
  exact ⟨(store_off hne).trans h.blk, h.lo, h.ml, h.cvs, own_tab h.tabs k b, own_off h.gone hA (by decide), h.gin.keep hk, own_off h.rws hA (by decide), h.rin.keep hk, h.two⟩
/-- So many tabs from one on are cleared. -/
def clrFrom : Nat → List Bool → Nat → List Bool
  | 0, l, _ => l
  | m + 1, l, o => clrFrom m (l.set o false) (o + 1)
theorem clrFrom_len : ∀ m l o, (clrFrom m l o).length = l.length
  | 0, _, _ => rfl
  | m + 1, l, o => by
    show (clrFrom m (l.set o false) (o + 1)).length = _
    rw [clrFrom_len m, List.length_set]
theorem clrFrom_get : ∀ m (l : List Bool) o i, i < l.length → (clrFrom m l o).getD i false = if o ≤ i ∧ i < o + m then false else l.getD i false
  | 0, l, o, i, _ => by
    rw [if_neg (by omega)]
    rfl
  | m + 1, l, o, i, hi => by
    show (clrFrom m (l.set o false) (o + 1)).getD i false = _
    rw [clrFrom_get m _ _ i (by rw [List.length_set]; exact hi)]
    by_cases e : i = o
    · subst e
      rw [if_neg (by omega), if_pos (by omega), getD_set_same _ _ _ _ hi]
    · rw [getD_set_ne _ _ _ _ _ e]
      by_cases h1 : o + 1 ≤ i ∧ i < o + 1 + m
      · rw [if_pos h1, if_pos (by omega)]
      · rw [if_neg h1, if_neg (by omega)]
theorem clrFrom_all (l : List Bool) : clrFrom l.length l 0 = List.replicate l.length false := by
  apply List.ext_getElem (by rw [clrFrom_len, List.length_replicate])
  intro i h1 h2
  rw [List.length_replicate] at h2
  have h := clrFrom_get l.length l 0 i h2
  rw [if_pos (by omega)] at h
  rw [List.getElem_replicate, ← h]
  simp [List.getD, h1]
theorem ShA.tabs0 {t : TypeId} (ht : IsSheet t) {M N p : Nat} {rows : List (List C)} {cv gv rv : Value} {gvs vs : List Value} {g c n : Nat} (hn : 0 < n) : ∀ (m : Nat) (W : World) (s : Scr) (o : Nat), s.tabs.length = n → ShA t W M N p s rows cv (.slice (some ⟨g, 0, none⟩) n c) gv rv gvs vs →
    ShA t (W.setCells g o (List.replicate m (.bool false))) M N p { s with tabs := clrFrom m s.tabs o } rows cv (.slice (some ⟨g, 0, none⟩) n c) gv rv gvs vs
  | 0, W, s, o, _, h => h
  | m + 1, W, s, o, hl, h => by
    have h1 := ShA.tab ht (by rw [hl]; exact h) (by omega) o false
    rw [hl] at h1
    have h2 := ShA.tabs0 ht hn m _ { s with tabs := s.tabs.set o false } (o + 1) (by show (s.tabs.set o false).length = n; rw [List.length_set]; exact hl) h1
    exact h2
def clrTabs (tabs : List Bool) (x : Nat) (k : Int) : List Bool := if k ≤ 0 then tabs.set x false else if k = 3 then List.replicate tabs.length false else tabs
set_option maxHeartbeats 2000000 in
theorem setTab_does (M : Nat) (w : World) (s : Scr) (rows : List (List C)) (n x : Nat) (hx : s.x = x) (hxn : x < n) (htl : s.tabs.length = n) (hn : n ≤ 120) : Does 41 #[] M w s { s with tabs := s.tabs.set x true } rows rows := by
  intro W p hb hS
  obtain ⟨cv, tv, gv, rv, gvs, vs, hA⟩ := hS
  obtain ⟨g, tc, rfl, hg, h1, h2, hcell, A, hgA⟩ := bools_at hA.tabs (by omega)
  obtain ⟨⟨-, -, -, c3, -⟩, ⟨-, c12, -⟩, -⟩ := sh_cells hA.blk
  have d := hcell x (by omega)
  have fr := frozen_cells hgA x
  have HE : Hid (ShAt 64 (W.setCell ⟨g, x, none⟩ (.bool true)).drew M w.heap.size p { s with tabs := s.tabs.set x true } rows ∧ Below w.heap.size W (W.setCell ⟨g, x, none⟩ (.bool true)).drew) := ⟨ShAt.drew ⟨_, _, _, _, _, _, hA.tab sheet_is (by omega) x true⟩, ((Below.refl _ _).setCell hg _).drew⟩
  rw [htl] at c12 h1
  rw [hx] at c3
  clear hA hcell hgA hx htl hb
  generalize s.tabs.getD x false = b0 at *
  go_enter Tryz.func41, Tryz.ntmps41
  go_upto_region 0 with fail
  go_region
  all_goals go_end0
  all_goals exact ⟨rfl, HE.out⟩
set_option maxHeartbeats 2000000 in
theorem clearTab_does (k : Int) (B M : Nat) (w : World) (s : Scr) (rows : List (List C)) (n x : Nat) (hB : w.cell? ⟨B, 0, none⟩ = some (.int .i64 k)) (hx : s.x = x) (hxn : x < n) (htl : s.tabs.length = n) (hn : n ≤ 120) : Does 42 #[.pointer (some ⟨B, 0, none⟩)] M w s { s with tabs := clrTabs s.tabs x k } rows rows := by
  intro W p hb hS
  have hS0 := hS
  obtain ⟨cv, tv, gv, rv, gvs, vs, hA⟩ := hS
  obtain ⟨g, tc, rfl, hg, h1, h2, hcell, A, hgA⟩ := bools_at hA.tabs (by omega)
  obtain ⟨⟨-, -, -, c3, -⟩, ⟨-, c12, -⟩, -⟩ := sh_cells hA.blk
  have q0 := cell_stay hb hB
  have fr := frozen_cells hgA
  by_cases hk0 : k ≤ 0
  · have e : clrTabs s.tabs x k = s.tabs.set x false := by unfold clrTabs; rw [if_pos hk0]
    rw [e]
    have d := hcell x (by omega)
    have fx := fr x
    have HE : Hid (ShAt 64 (W.setCell ⟨g, x, none⟩ (.bool false)).drew M w.heap.size p { s with tabs := s.tabs.set x false } rows ∧ Below w.heap.size W (W.setCell ⟨g, x, none⟩ (.bool false)).drew) := ⟨ShAt.drew ⟨_, _, _, _, _, _, hA.tab sheet_is (by omega) x false⟩, ((Below.refl _ _).setCell hg _).drew⟩
    rw [htl] at c12 h1
    rw [hx] at c3
    clear hA hcell hgA hx htl hb hB e fr hS0
    generalize s.tabs.getD x false = b0 at *
    go_enter Tryz.func42, Tryz.ntmps42
    go_upto_region 1 with fail
    go_region
    all_goals go_wp2_with fail
    all_goals go_end0
    all_goals exact ⟨rfl, HE.out⟩
  · by_cases hk3 : k = 3
    · have e : clrTabs s.tabs x k = List.replicate s.tabs.length false := by unfold clrTabs; rw [if_neg hk0, if_pos hk3]
      rw [e]
      have h0 := ShA.tabs0 sheet_is (by omega) s.tabs.length W s 0 rfl hA
      rw [clrFrom_all] at h0
      have HE : Hid (ShAt 64 (W.setCells g 0 (List.replicate s.tabs.length (.bool false))) M w.heap.size p { s with tabs := List.replicate s.tabs.length false } rows ∧ Below w.heap.size W (W.setCells g 0 (List.replicate s.tabs.length (.bool false)))) := ⟨⟨_, _, _, _, _, _, h0⟩, Grd.below_cells hg _ _ _ (Below.refl _ _)⟩
      have hcl : ∀ ty, (Builtin.clear_ #[27] ty #[.slice (some ⟨g, 0, none⟩) s.tabs.length tc]).run Tryz.prog W = .ok (.tuple #[]) (W.setCells g 0 (List.replicate s.tabs.length (.bool false))) := fun ty => Lib.run_clear_slice W 27 4 ty (.bool false) und_bools (fun w => by kernel_rfl) rfl rfl g 0 s.tabs.length tc (by omega) (fun j hj => by rw [Nat.zero_add, hcell j hj]; rfl) (fun j _ => by rw [Nat.zero_add]; exact fr j)
      clear hA hcell hgA hx htl hb hB e fr c3 h0 hS0
      subst hk3
      generalize W.setCells g 0 (List.replicate s.tabs.length (.bool false)) = X at *
      go_enter Tryz.func42, Tryz.ntmps42
      go_wp2_with fail
      go_end0
      exact ⟨rfl, HE.out⟩
    · have e : clrTabs s.tabs x k = s.tabs := by unfold clrTabs; rw [if_neg hk0, if_neg hk3]
      rw [e]
      have hkb : (k == 3) = false := by rw [beq_eq_false_iff_ne]; exact hk3
      have HS0 : Hid (ShAt 64 W M w.heap.size p s rows) := hS0
      clear hA hcell hgA hx htl hb hB e fr c3 c12 hS0 hk3
      go_enter Tryz.func42, Tryz.ntmps42
      go_wp2_with fail
      go_end0
      exact ⟨rfl, HS0.out, Below.refl _ _⟩
set_option maxHeartbeats 2000000 in
theorem tabbed_does (a step : Int) (f : Nat → Nat) (B1 B2 M : Nat) (w : World) (s : Scr) (rows : List (List C)) (x c : Nat) (hB1 : w.cell? ⟨B1, 0, none⟩ = some (.int .i64 a)) (hB2 : w.cell? ⟨B2, 0, none⟩ = some (.int .i64 step)) (hx : s.x = x) (hc : cnt a = c)
    (hf : ∀ W p k, ShAt 64 W M w.heap.size p { s with x := ((often' f k x : Nat) : Int) } rows → Calls Tryz.prog 90 #[.pointer (some ⟨p, 0, none⟩), .int .i64 step] W fun e w' => e = .returned (.int .i64 (f (often' f k x) : Nat)) ∧ W = w') :
    Does 88 #[.pointer (some ⟨B1, 0, none⟩), .pointer (some ⟨B2, 0, none⟩)] M w s { s with x := ((often' f c x : Nat) : Int) } rows rows := by
  intro W p hb hS
  have q1 := cell_stay hb hB1
  have HQ2 : Hid (∀ V, Below w.heap.size W V → V.cell? ⟨B2, 0, none⟩ = some (.int .i64 step)) := fun V h => cell_stay (hb.trans h) hB2
  have hcr := cnt_range a
  have H1 := counted_any a W
  rw [hc] at H1 hcr
  have HS : Hid (ShAt 64 W M w.heap.size p { s with x := ((often' f 0 x : Nat) : Int) } rows) := by
    unfold Hid
    show ShAt _ _ _ _ _ { s with x := (x : Int) } _
    rw [← hx]
    exact hS
  have HF : Hid (∀ W p k, ShAt 64 W M w.heap.size p { s with x := ((often' f k x : Nat) : Int) } rows → Calls Tryz.prog 90 #[.pointer (some ⟨p, 0, none⟩), .int .i64 step] W fun e w' => e = .returned (.int .i64 (f (often' f k x) : Nat)) ∧ W = w') := hf
  have hlo := hS.lo
  clear hb hB1 hB2 hS hf hc hx
  go_enter Tryz.func88, Tryz.ntmps88
  go_wp2_with fail
  refine H1.mono ?_
  rintro e V ⟨rfl, hv⟩
  subst hv
  clear q1 H1
  go_wp2_with fail
  go_loopg [6] c (fun q i wr => ∃ k : Nat, i = .int .i64 (k : Int) ∧ k ≤ c ∧ c - k ≤ q ∧ ShAt 64 wr M w.heap.size p { s with x := ((often' f k x : Nat) : Int) } rows ∧ Below w.heap.size W wr)
  case atStart => exact ⟨0, rfl, by omega, by omega, HS.out, Below.refl _ _⟩
  case round =>
    obtain ⟨k, rfl, hk, hq, hSk, hbk⟩ := hrel
    by_cases hlt : k < c
    · have lt1 : (k : Int) < (c : Int) := by omega
      have q2 := HQ2.out wr hbk
      have HN := HF.out wr p k hSk
      obtain ⟨c0, c1, c3, c4, c5, c9, c10, c11, c19, fr⟩ := hSk.words
      have f3 := fr 3
      have HE : Hid (ShAt 64 (wr.setCell ⟨p, 3, none⟩ (.int .i64 (f (often' f k x) : Nat))) M w.heap.size p { s with x := ((often' f (k + 1) x : Nat) : Int) } rows) := hSk.set sheet_is 3 _ (fun _ _ _ _ => rfl) rfl rfl
      have HB : Hid (Below w.heap.size W (wr.setCell ⟨p, 3, none⟩ (.int .i64 (f (often' f k x) : Nat)))) := hbk.setCell hlo _
      clear hSk hbk c0 c1 c4 c5 c9 c10 c11 c19 fr
      generalize f (often' f k x) = x2 at *
      go_wp2_with fail
      refine HN.mono ?_
      rintro e V ⟨rfl, hv⟩
      subst hv
      go_wp2_with fail
      go_roundg (c - (k + 1))
      case measure => omega
      case rel => exact ⟨k + 1, by go_num, by omega, by omega, HE.out, HB.out⟩
    · have lt1 : ¬ (k : Int) < (c : Int) := by omega
      have hkc : k = c := by omega
      subst hkc
      go_wp2_with fail
      go_end0
      exact ⟨rfl, hSk, hbk⟩
end Put
end Go.Proofs.YtnkeahfcpbepjaaGreatDoor

/- Act: a cursor that goes from tab to tab. (Written by gen_acttab.py.) -/
namespace Go.Proofs.YtnkeahfcpbepjaaGreatDoor
open Go.ChangeShapes Go.WideShapes Go.ChangeAt Go.RowKit
namespace Put
open Grd (C SliceAt CellsAt gridErr z0 nilV rowsL RowsAt RowB flat)
/-- A cursor that went from tab to tab, so often. -/
def tabS (s : Scr) (f : Nat → Nat) (x k : Nat) : Scr := { s with x := ((often' f k x : Nat) : Int), late := s.late && decide (k = 0) }
theorem tabS_zero (s : Scr) (f : Nat → Nat) (x : Nat) (hx : s.x = x) : tabS s f x 0 = s := by
  unfold tabS
  show { s with x := (x : Int), late := s.late && true } = s
  rw [← hx, Bool.and_true]
theorem tabS_next (s : Scr) (f : Nat → Nat) (x k n : Nat) (hw : s.w = n) (hf : f (often' f k x) < n) (y0 : 0 ≤ s.y) (y1 : s.y < s.h) : goS (tabS s f x k) ((f (often' f k x) : Nat) : Int) s.y = tabS s f x (k + 1) := by
  unfold goS tabS
  have e1 : max 0 (min ((f (often' f k x) : Nat) : Int) (s.w - 1)) = ((often' f (k + 1) x : Nat) : Int) := by
    show _ = ((f (often' f k x) : Nat) : Int)
    omega
  have e2 : max 0 (min s.y (s.h - 1)) = s.y := by omega
  have e3 : (s.late && decide (k + 1 = 0)) = false := by simp
  rw [e3]
  show { s with x := max 0 (min ((f (often' f k x) : Nat) : Int) (s.w - 1)), y := max 0 (min s.y (s.h - 1)), late := false } = _
  rw [e1, e2]
theorem numR (i : Nat) (h : 1 ≤ i) : Value.int .i64 ((i : Int) - 1) = Value.int .i64 ((i - 1 : Nat) : Int) := by
  rw [show ((i - 1 : Nat) : Int) = (i : Int) - 1 by omega]
end Put
end Go.Proofs.YtnkeahfcpbepjaaGreatDoor

/- Act: tab. (Written by gen_acttab.py.) -/
namespace Go.Proofs.YtnkeahfcpbepjaaGreatDoor
open Go.ChangeShapes Go.WideShapes Go.ChangeAt Go.RowKit
namespace Put
open Grd (C SliceAt CellsAt gridErr z0 nilV rowsL RowsAt RowB flat)
set_option maxHeartbeats 8000000 in
set_option maxRecDepth 100000 in
theorem act_tab (a m : Int) (s : Scr) (rows : List (List C)) (n x c : Nat) (hw : s.w = n) (hx : s.x = x) (hxn : x < n) (htl : s.tabs.length = n) (hn : n ≤ 120) (w3 : 1 ≤ s.h) (w4 : s.h ≤ 60) (y0 : 0 ≤ s.y) (y1 : s.y < s.h) (hc : cnt a = c) :
    ActMakes ⟨#[116, 97, 98]⟩ a m s (tabS s (nextR s.tabs n) x (min c n)) rows rows := by
  intro N W p hN hD
  have hcr := cnt_range a
  have HO : Hid (∀ W, Calls Tryz.prog 92 #[.int .i64 a] W fun e w' => e = .returned (.int .i64 (c : Int)) ∧ W = w') := fun W => by
    have h := often_any a W
    rw [hc] at h
    exact h
  rw [hc] at hcr
  have HIT : Hid (∀ k, often' (nextR s.tabs n) k x < n) := fun k => (oftenR s.tabs n x hxn k).1
  have HST : Hid (s.w = n ∧ s.x = x ∧ s.tabs.length = n) := ⟨hw, hx, htl⟩
  have HD0 : Hid (DkAt W N p (tabS s (nextR s.tabs n) x 0) rows) := by unfold Hid; rw [tabS_zero s _ x hx]; exact hD
  clear hD hc hw hx htl
  go_enter Tryz.func39, Tryz.ntmps39
  go_wp2_with fail
  go_loopg [10] (min c n) (fun q kv wr => ∃ k : Nat, kv = .int .i64 (k : Int) ∧ k ≤ min c n ∧ min c n - k ≤ q ∧ DkAt wr N p (tabS s (nextR s.tabs n) x k) rows ∧ Below N W wr)
  case atStart => exact ⟨0, rfl, by omega, by omega, HD0.out, Below.refl _ _⟩
  case round =>
    clear HD0
    obtain ⟨k, rfl, hk, hq, hDk, hbk⟩ := hrel
    have HBK : Hid (Below N W wr) := hbk
    have HDK : Hid (DkAt wr N p (tabS s (nextR s.tabs n) x k) rows) := hDk
    obtain ⟨cv, tv, gv, rv, gvs, vs, gs, hA⟩ := hDk
    obtain ⟨g, tc, rfl, hg, h1, h2, hcell, A, hgA⟩ := bools_at hA.tabs (by show 0 < s.tabs.length; rw [HST.out.2.2]; omega)
    obtain ⟨⟨c0, -, -, c3, c4, -⟩, ⟨-, c12, -⟩, -⟩ := sh_cells hA.blk
    have c0' : wr.cell? ⟨p, 0, none⟩ = some (.int .i64 (n : Int)) := by rw [← HST.out.1]; exact c0
    have c12' : wr.cell? ⟨p, 12, none⟩ = some (.slice (some ⟨g, 0, none⟩) n tc) := by rw [← HST.out.2.2]; exact c12
    have h1' : n ≤ tc := by rw [← HST.out.2.2]; exact h1
    have HC : Hid (∀ j, j < n → wr.cell? ⟨g, j, none⟩ = some (.bool (s.tabs.getD j false))) := fun j hj => hcell j (by show j < s.tabs.length; rw [HST.out.2.2]; exact hj)
    obtain ⟨X, hX⟩ : ∃ X, X = often' (nextR s.tabs n) k x := ⟨_, rfl⟩
    have hXn : X < n := by rw [hX]; exact HIT.out k
    have c3' : wr.cell? ⟨p, 3, none⟩ = some (.int .i64 (X : Int)) := by rw [hX]; exact c3
    have c4' : wr.cell? ⟨p, 4, none⟩ = some (.int .i64 s.y) := c4
    have HXX : Hid (X = often' (nextR s.tabs n) k x) := hX
    clear hA hcell hgA c0 c3 c4 c12 h1 hbk hX
    by_cases hkc : k < c
    · have l1 : (k : Int) < (c : Int) := by omega
      by_cases hkn : k < n
      · have l2 : (k : Int) < (n : Int) := by omega
        have HG : Hid (∀ v : Nat, v = nextR s.tabs n X → Calls Tryz.prog 91 #[.pointer (some ⟨p, 0, none⟩), .int .i64 (v : Int), .int .i64 s.y] wr fun e W' => e = .returned (.tuple #[]) ∧ DkAt W' N p (tabS s (nextR s.tabs n) x (k + 1)) rows ∧ Below N wr W') := fun v hv => by
          have hw1 : (tabS s (nextR s.tabs n) x k).w = n := HST.out.1
          have h := go_any (v : Int) s.y wr HDK.out (by rw [hw1]; omega) (by rw [hw1]; omega) w3 w4
          rw [hv, HXX.out] at h
          rw [hv, HXX.out]
          have hlt : nextR s.tabs n (often' (nextR s.tabs n) k x) < n := HIT.out (k + 1)
          have e := tabS_next s (nextR s.tabs n) x k n HST.out.1 hlt y0 y1
          rw [e] at h
          exact h
        clear HIT HXX HDK HST
        generalize s.tabs = tabs at *
        go_wp2_with fail
        refine (HO.out _).mono ?_
        rintro e V ⟨rfl, hv⟩
        subst hv
        go_wp2_with fail
        go_loopg [11, 12] n (fun q xv iv wr2 => ∃ i : Nat, iv = .int .i64 (i : Int) ∧ X ≤ i ∧ i < n ∧ i ≤ q ∧ xv = .int .i64 (nextR tabs n i : Nat) ∧ wr2 = wr)
        case atStart => exact ⟨n - 1, numR n (by omega), by omega, by omega, by omega, by rw [nextR_last tabs n (n - 1) (by omega)]; exact numR n (by omega), rfl⟩
        case round =>
          obtain ⟨i, rfl, hXi, hi, hq2, rfl, rfl⟩ := hrel
          by_cases hlt : X < i
          · have l3 : (X : Int) < (i : Int) := by omega
            have d := HC.out i hi
            have hst := nextR_step tabs n (i - 1) (by omega)
            rw [show i - 1 + 1 = i by omega] at hst
            have HSS : Hid (nextR tabs n (i - 1) = if tabs.getD i false then i else nextR tabs n i) := hst
            clear hst
            cases hb : tabs.getD i false with
            | true =>
              rw [hb] at d
              go_wp2_with fail
              go_roundg (i - 1)
              case measure => omega
              case rel => exact ⟨i - 1, numR i (by omega), by omega, by omega, by omega, by rw [HSS.out, hb]; rfl, rfl⟩
            | false =>
              rw [hb] at d
              go_wp2_with fail
              go_roundg (i - 1)
              case measure => omega
              case rel => exact ⟨i - 1, numR i (by omega), by omega, by omega, by omega, by rw [HSS.out, hb]; rfl, rfl⟩
          · have l3 : ¬ (X : Int) < (i : Int) := by omega
            have hiX : i = X := by omega
            subst hiX
            go_wp2_with fail
            refine (HG.out _ rfl).mono ?_
            rintro e V2 ⟨rfl, hD2, b2⟩
            clear HG
            go_wp2_with fail
            go_roundg (min c n - (k + 1))
            case measure => omega
            case rel => exact ⟨k + 1, by go_num, by omega, by omega, hD2, HBK.out.trans b2⟩
      · have l2 : ¬ (k : Int) < (n : Int) := by omega
        have hkm : k = min c n := by omega
        clear HIT HXX HST
        go_wp2_with fail
        refine (HO.out _).mono ?_
        rintro e V ⟨rfl, hv⟩
        subst hv
        go_wp2_with fail
        go_end0
        refine ⟨rfl, ?_, HBK.out⟩
        rw [← hkm]
        exact HDK.out
    · have l1 : ¬ (k : Int) < (c : Int) := by omega
      have hkm : k = min c n := by omega
      clear HIT HXX HST
      go_wp2_with fail
      refine (HO.out _).mono ?_
      rintro e V ⟨rfl, hv⟩
      subst hv
      go_wp2_with fail
      go_end0
      refine ⟨rfl, ?_, HBK.out⟩
      rw [← hkm]
      exact HDK.out
end Put
end Go.Proofs.YtnkeahfcpbepjaaGreatDoor

/- Act: tabback. (Written by gen_acttab.py.) -/
namespace Go.Proofs.YtnkeahfcpbepjaaGreatDoor
open Go.ChangeShapes Go.WideShapes Go.ChangeAt Go.RowKit
namespace Put
open Grd (C SliceAt CellsAt gridErr z0 nilV rowsL RowsAt RowB flat)
set_option maxHeartbeats 8000000 in
set_option maxRecDepth 100000 in
theorem act_tabback (a m : Int) (s : Scr) (rows : List (List C)) (n x c : Nat) (hw : s.w = n) (hx : s.x = x) (hxn : x < n) (htl : s.tabs.length = n) (hn : n ≤ 120) (w3 : 1 ≤ s.h) (w4 : s.h ≤ 60) (y0 : 0 ≤ s.y) (y1 : s.y < s.h) (hc : cnt a = c) :
    ActMakes ⟨#[116, 97, 98, 98, 97, 99, 107]⟩ a m s (tabS s (nextL s.tabs) x (min c n)) rows rows := by
  intro N W p hN hD
  have hcr := cnt_range a
  have HO : Hid (∀ W, Calls Tryz.prog 92 #[.int .i64 a] W fun e w' => e = .returned (.int .i64 (c : Int)) ∧ W = w') := fun W => by
    have h := often_any a W
    rw [hc] at h
    exact h
  rw [hc] at hcr
  have HIT : Hid (∀ k, often' (nextL s.tabs) k x < n) := fun k => by have := oftenL s.tabs n x hxn k; omega
  have HST : Hid (s.w = n ∧ s.x = x ∧ s.tabs.length = n) := ⟨hw, hx, htl⟩
  have HD0 : Hid (DkAt W N p (tabS s (nextL s.tabs) x 0) rows) := by unfold Hid; rw [tabS_zero s _ x hx]; exact hD
  clear hD hc hw hx htl
  go_enter Tryz.func39, Tryz.ntmps39
  go_wp2_with fail
  go_loopg [13] (min c n) (fun q kv wr => ∃ k : Nat, kv = .int .i64 (k : Int) ∧ k ≤ min c n ∧ min c n - k ≤ q ∧ DkAt wr N p (tabS s (nextL s.tabs) x k) rows ∧ Below N W wr)
  case atStart => exact ⟨0, rfl, by omega, by omega, HD0.out, Below.refl _ _⟩
  case round =>
    clear HD0
    obtain ⟨k, rfl, hk, hq, hDk, hbk⟩ := hrel
    have HBK : Hid (Below N W wr) := hbk
    have HDK : Hid (DkAt wr N p (tabS s (nextL s.tabs) x k) rows) := hDk
    obtain ⟨cv, tv, gv, rv, gvs, vs, gs, hA⟩ := hDk
    obtain ⟨g, tc, rfl, hg, h1, h2, hcell, A, hgA⟩ := bools_at hA.tabs (by show 0 < s.tabs.length; rw [HST.out.2.2]; omega)
    obtain ⟨⟨c0, -, -, c3, c4, -⟩, ⟨-, c12, -⟩, -⟩ := sh_cells hA.blk
    have c0' : wr.cell? ⟨p, 0, none⟩ = some (.int .i64 (n : Int)) := by rw [← HST.out.1]; exact c0
    have c12' : wr.cell? ⟨p, 12, none⟩ = some (.slice (some ⟨g, 0, none⟩) n tc) := by rw [← HST.out.2.2]; exact c12
    have h1' : n ≤ tc := by rw [← HST.out.2.2]; exact h1
    have HC : Hid (∀ j, j < n → wr.cell? ⟨g, j, none⟩ = some (.bool (s.tabs.getD j false))) := fun j hj => hcell j (by show j < s.tabs.length; rw [HST.out.2.2]; exact hj)
    obtain ⟨X, hX⟩ : ∃ X, X = often' (nextL s.tabs) k x := ⟨_, rfl⟩
    have hXn : X < n := by rw [hX]; exact HIT.out k
    have c3' : wr.cell? ⟨p, 3, none⟩ = some (.int .i64 (X : Int)) := by rw [hX]; exact c3
    have c4' : wr.cell? ⟨p, 4, none⟩ = some (.int .i64 s.y) := c4
    have HXX : Hid (X = often' (nextL s.tabs) k x) := hX
    clear hA hcell hgA c0 c3 c4 c12 h1 hbk hX
    by_cases hkc : k < c
    · have l1 : (k : Int) < (c : Int) := by omega
      by_cases hkn : k < n
      · have l2 : (k : Int) < (n : Int) := by omega
        have HG : Hid (∀ v : Nat, v = nextL s.tabs X → Calls Tryz.prog 91 #[.pointer (some ⟨p, 0, none⟩), .int .i64 (v : Int), .int .i64 s.y] wr fun e W' => e = .returned (.tuple #[]) ∧ DkAt W' N p (tabS s (nextL s.tabs) x (k + 1)) rows ∧ Below N wr W') := fun v hv => by
          have hw1 : (tabS s (nextL s.tabs) x k).w = n := HST.out.1
          have h := go_any (v : Int) s.y wr HDK.out (by rw [hw1]; omega) (by rw [hw1]; omega) w3 w4
          rw [hv, HXX.out] at h
          rw [hv, HXX.out]
          have hlt : nextL s.tabs (often' (nextL s.tabs) k x) < n := HIT.out (k + 1)
          have e := tabS_next s (nextL s.tabs) x k n HST.out.1 hlt y0 y1
          rw [e] at h
          exact h
        clear HIT HXX HDK HST
        generalize s.tabs = tabs at *
        go_wp2_with fail
        refine (HO.out _).mono ?_
        rintro e V ⟨rfl, hv⟩
        subst hv
        go_wp2_with fail
        go_loopg [14, 15] n (fun q xv iv wr2 => ∃ i : Nat, iv = .int .i64 (i : Int) ∧ i ≤ X ∧ n - i ≤ q ∧ xv = .int .i64 (nextL tabs i : Nat) ∧ wr2 = wr)
        case atStart => exact ⟨0, rfl, by omega, by omega, rfl, rfl⟩
        case round =>
          obtain ⟨i, rfl, hi, hq2, rfl, rfl⟩ := hrel
          by_cases hlt : i < X
          · have l3 : (i : Int) < (X : Int) := by omega
            have d := HC.out i (by omega)
            have HSS : Hid (nextL tabs (i + 1) = if tabs.getD i false then i else nextL tabs i) := rfl
            cases hb : tabs.getD i false with
            | true =>
              rw [hb] at d
              go_wp2_with fail
              go_roundg (n - (i + 1))
              case measure => omega
              case rel => exact ⟨i + 1, by go_num, by omega, by omega, by rw [HSS.out, hb]; rfl, rfl⟩
            | false =>
              rw [hb] at d
              go_wp2_with fail
              go_roundg (n - (i + 1))
              case measure => omega
              case rel => exact ⟨i + 1, by go_num, by omega, by omega, by rw [HSS.out, hb]; rfl, rfl⟩
          · have l3 : ¬ (i : Int) < (X : Int) := by omega
            have hiX : i = X := by omega
            subst hiX
            go_wp2_with fail
            refine (HG.out _ rfl).mono ?_
            rintro e V2 ⟨rfl, hD2, b2⟩
            clear HG
            go_wp2_with fail
            go_roundg (min c n - (k + 1))
            case measure => omega
            case rel => exact ⟨k + 1, by go_num, by omega, by omega, hD2, HBK.out.trans b2⟩
      · have l2 : ¬ (k : Int) < (n : Int) := by omega
        have hkm : k = min c n := by omega
        clear HIT HXX HST
        go_wp2_with fail
        refine (HO.out _).mono ?_
        rintro e V ⟨rfl, hv⟩
        subst hv
        go_wp2_with fail
        go_end0
        refine ⟨rfl, ?_, HBK.out⟩
        rw [← hkm]
        exact HDK.out
    · have l1 : ¬ (k : Int) < (c : Int) := by omega
      have hkm : k = min c n := by omega
      clear HIT HXX HST
      go_wp2_with fail
      refine (HO.out _).mono ?_
      rintro e V ⟨rfl, hv⟩
      subst hv
      go_wp2_with fail
      go_end0
      refine ⟨rfl, ?_, HBK.out⟩
      rw [← hkm]
      exact HDK.out
end Put
end Go.Proofs.YtnkeahfcpbepjaaGreatDoor

/- Act: settab, cleartab. -/
namespace Go.Proofs.YtnkeahfcpbepjaaGreatDoor
open Go.ChangeShapes Go.WideShapes Go.ChangeAt Go.RowKit
namespace Put
open Grd (C SliceAt CellsAt gridErr z0 nilV rowsL RowsAt RowB flat)
theorem DkA.tab {W : World} {N p : Nat} {s : Scr} {rows : List (List C)} {cv gv rv : Value} {gvs vs : List Value} {gs : List Nat} {g c : Nat} (h : DkA W N p s rows cv (.slice (some ⟨g, 0, none⟩) s.tabs.length c) gv rv gvs vs gs) (hn : 0 < s.tabs.length) (k : Nat) (b : Bool) :
    DkA (W.setCell ⟨g, k, none⟩ (.bool b)) N p { s with tabs := s.tabs.set k b } rows cv (.slice (some ⟨g, 0, none⟩) s.tabs.length c) gv rv gvs vs gs := by
  obtain ⟨g', c', hv, hg, -, -, -, A, hA⟩ := bools_at h.tabs hn
  injection hv with hv1 _ hv3
  injection hv1 with hv1
  injection hv1 with hv1
  subst hv1
  have ho : ∀ q, q ≠ g → (W.setCell ⟨g, k, none⟩ (.bool b)).heap[q]? = W.heap[q]? := fun q hq => store_off hq
  have hne : p ≠ g := fun e => by
    have hb := h.blk
    rw [e, hA] at hb
    injection hb with hb
    injection hb with _ hb _
    exact absurd hb (by decide)
  exact ⟨(store_off hne).trans h.blk, h.lo, h.cvs, own_tab h.tabs k b, h.gone.apart hA (by decide) ho, h.gin.keep (Kept.apart hA (by decide) hg ho), h.gof, own_apart h.rws hA (by decide) ho, RowsAt.apart h.rin hA (by decide) ho, h.two⟩
/-- Other tabs. -/
theorem DkA.newTabs {W : World} {N p : Nat} {s : Scr} {rows : List (List C)} {cv tv gv rv : Value} {gvs vs : List Value} {gs : List Nat} (h : DkA W N p s rows cv tv gv rv gvs vs gs) {tv' : Value} {l : List Bool} (ht : W.ownsRow N 4 1 tv' l.length (l.map Value.bool)) :
    DkA (W.setCell ⟨p, 12, none⟩ tv') N p { s with tabs := l } rows cv tv' gv rv gvs vs gs := by
  have ho : ∀ q, q ≠ p → (W.setCell ⟨p, 12, none⟩ tv').heap[q]? = W.heap[q]? := fun q hq => store_off hq
  exact ⟨store_at h.blk rfl, h.lo, h.cvs, own_apart ht h.blk (by decide) ho, h.gone.apart h.blk (by decide) ho, h.gin.keep (Kept.apart h.blk (by decide) h.lo ho), h.gof, own_apart h.rws h.blk (by decide) ho, RowsAt.apart h.rin h.blk (by decide) ho, h.two⟩
set_option maxHeartbeats 4000000 in
set_option maxRecDepth 100000 in
theorem act_settab (a m : Int) (s : Scr) (rows : List (List C)) (n x : Nat) (hx : s.x = x) (hxn : x < n) (htl : s.tabs.length = n) (hn : n ≤ 120) : ActMakes ⟨#[115, 101, 116, 116, 97, 98]⟩ a m s { s with tabs := s.tabs.set x true } rows rows := by
  intro N W p hN hD
  obtain ⟨cv, tv, gv, rv, gvs, vs, gs, hA⟩ := hD
  obtain ⟨g, tc, rfl, hg, h1, h2, hcell, A, hgA⟩ := bools_at hA.tabs (by omega)
  obtain ⟨⟨-, -, -, c3, -⟩, ⟨-, c12, -⟩, -⟩ := sh_cells hA.blk
  have d := hcell x (by omega)
  have fr := frozen_cells hgA x
  have HE : Hid (DkAt (W.setCell ⟨g, x, none⟩ (.bool true)).drew N p { s with tabs := s.tabs.set x true } rows ∧ Below N W (W.setCell ⟨g, x, none⟩ (.bool true)).drew) := ⟨DkAt.drew ⟨_, _, _, _, _, _, _, hA.tab (by omega) x true⟩, ((Below.refl _ _).setCell hg _).drew⟩
  rw [htl] at c12 h1
  rw [hx] at c3
  clear hA hcell hgA hx htl
  generalize s.tabs.getD x false = b0 at *
  go_enter Tryz.func39, Tryz.ntmps39
  go_upto_region 46 with fail
  go_region
  all_goals go_wp2_with fail
  all_goals go_end0
  all_goals exact ⟨rfl, HE.out⟩
theorem falses_own (W : World) (N n : Nat) (hN : N ≤ W.heap.size) (hn : n ≤ 120) : (W.alloc (.cells (falses n) 4)).ownsRow N 4 1 (.slice (some ⟨W.heap.size, 0, none⟩) n n) (List.replicate n false).length ((List.replicate n false).map Value.bool) := by
  rw [List.length_replicate, List.map_replicate]
  refine ⟨by simp, .inr ⟨W.heap.size, n, falses n, rfl, hN, heap_alloc_new _ _, Nat.le_refl _, by unfold maxLen; omega, by simp [falses], ?_⟩⟩
  unfold falses
  simp
set_option maxHeartbeats 4000000 in
set_option maxRecDepth 100000 in
theorem act_cleartab (a m : Int) (s : Scr) (rows : List (List C)) (n x : Nat) (hw : s.w = n) (hx : s.x = x) (hxn : x < n) (htl : s.tabs.length = n) (hn : n ≤ 120) : ActMakes ⟨#[99, 108, 101, 97, 114, 116, 97, 98]⟩ a m s { s with tabs := clrTabs s.tabs x a } rows rows := by
  intro N W p hN hD
  have hD0 := hD
  obtain ⟨cv, tv, gv, rv, gvs, vs, gs, hA⟩ := hD
  obtain ⟨g, tc, rfl, hg, h1, h2, hcell, A, hgA⟩ := bools_at hA.tabs (by omega)
  obtain ⟨⟨c0, -, -, c3, -⟩, ⟨-, c12, -⟩, f⟩ := sh_cells hA.blk
  by_cases hk0 : a ≤ 0
  · have e : clrTabs s.tabs x a = s.tabs.set x false := by unfold clrTabs; rw [if_pos hk0]
    rw [e]
    have hk3 : (a == 3) = false := by rw [beq_eq_false_iff_ne]; omega
    have d := hcell x (by omega)
    have fr := frozen_cells hgA x
    have HE : Hid (DkAt (W.setCell ⟨g, x, none⟩ (.bool false)).drew N p { s with tabs := s.tabs.set x false } rows ∧ Below N W (W.setCell ⟨g, x, none⟩ (.bool false)).drew) := ⟨DkAt.drew ⟨_, _, _, _, _, _, _, hA.tab (by omega) x false⟩, ((Below.refl _ _).setCell hg _).drew⟩
    rw [htl] at c12 h1
    rw [hx] at c3
    clear hA hcell hgA hx htl e hD0 f c0 hw
    generalize s.tabs.getD x false = b0 at *
    go_enter Tryz.func39, Tryz.ntmps39
    go_upto_region 49 with fail
    go_region
    all_goals go_wp2_with fail
    all_goals go_end0
    all_goals exact ⟨rfl, HE.out⟩
  · by_cases hk3 : a = 3
    · have e : clrTabs s.tabs x a = List.replicate n false := by unfold clrTabs; rw [if_neg hk0, if_pos hk3, htl]
      rw [e]
      have hms := makeTabs n hn
      have kb : Below W.heap.size W (W.alloc (.cells (falses n) 4)) := (Below.refl _ _).alloc (Nat.le_refl _) _
      have hA2 := hA.next kb
      have h12 := (sh_cells hA2.blk).2.1.2.1
      have f12 := (sh_cells hA2.blk).2.2 12
      have HE : Hid (DkAt ((W.alloc (.cells (falses n) 4)).setCell ⟨p, 12, none⟩ (.slice (some ⟨W.heap.size, 0, none⟩) n n)) N p { s with tabs := List.replicate n false } rows ∧ Below N W ((W.alloc (.cells (falses n) 4)).setCell ⟨p, 12, none⟩ (.slice (some ⟨W.heap.size, 0, none⟩) n n))) := ⟨⟨_, _, _, _, _, _, _, hA2.newTabs (falses_own W N n hN hn)⟩, (kb.mono hN).setCell hA.lo _⟩
      rw [hw] at c0
      clear hA hA2 hcell hgA hx htl e hD0 f c3 hw kb c12 hk0 h1
      subst hk3
      go_enter Tryz.func39, Tryz.ntmps39
      go_wp2_with fail
      go_end0
      exact ⟨rfl, HE.out⟩
    · have e : clrTabs s.tabs x a = s.tabs := by unfold clrTabs; rw [if_neg hk0, if_neg hk3]
      rw [e]
      have hkb : (a == 3) = false := by rw [beq_eq_false_iff_ne]; exact hk3
      have HS0 : Hid (DkAt W N p s rows) := hD0
      clear hA hcell hgA hx htl e hD0 f c3 c12 c0 hw hk3
      go_enter Tryz.func39, Tryz.ntmps39
      go_wp2_with fail
      go_end0
      exact ⟨rfl, HS0.out, Below.refl _ _⟩
end Put
end Go.Proofs.YtnkeahfcpbepjaaGreatDoor

/- The law MoveTabs. -/
namespace Go.Proofs.YtnkeahfcpbepjaaGreatDoor
set_option linter.unusedVariables false
open Go.ChangeShapes Go.WideShapes Go.ChangeAt Go.RowKit
namespace Put
open Grd (C SliceAt CellsAt gridErr z0 nilV flat rowsL)
theorem plain_tabbed : Plain 88 := by
  intro args W
  kernel_rfl
theorem plain_setTab : Plain 41 := by
  intro args W
  kernel_rfl
theorem plain_clearTab : Plain 42 := by
  intro args W
  kernel_rfl
theorem plainF_tab : Plain 10 := by
  intro args W
  kernel_rfl
theorem plainF_tabBack : Plain 11 := by
  intro args W
  kernel_rfl
theorem plainF_setTab : Plain 13 := by
  intro args W
  kernel_rfl
theorem plainF_clearTab : Plain 14 := by
  intro args W
  kernel_rfl
theorem tabbed_bad {w0 w : World} {s : Scr} {cv tv gv : Value} (h : Came w0 w s cv tv gv) (hz : scrErr s ≠ 0) (a b : Int) : Calls Tryz.prog 37 #[.agg (scrA s cv tv gv), .int .i64 a, .int .i64 b] w (Made w0 w zScr (scrErr s)) :=
  tabbed_calls s zScr cv tv gv a b (scrErr s) w0 w h.v h.b.size fun _ _ _ hW _ _ => moved_bad (h.next hW) hz _ _
theorem tabbed_good {w0 w : World} {s : Scr} {cv tv gv : Value} {n hh : Nat} (h : Came w0 w s cv tv gv) (hR : RightS s n hh) (a b : Int) (f : Nat → Nat) (x c : Nat) (hx : s.x = x) (hc : cnt a = c)
    (hf : ∀ w1 W p k, ShAt 64 W w0.heap.size w1 p { onTime s with x := ((often' f k x : Nat) : Int) } (rowsL n s.cs hh) → Calls Tryz.prog 90 #[.pointer (some ⟨p, 0, none⟩), .int .i64 b] W fun e w' => e = .returned (.int .i64 (f (often' f k x) : Nat)) ∧ W = w') :
    Calls Tryz.prog 37 #[.agg (scrA s cv tv gv), .int .i64 a, .int .i64 b] w (Made w0 w (movedS s ((often' f c x : Nat) : Int) s.y) 0) :=
  tabbed_calls s _ cv tv gv a b 0 w0 w h.v h.b.size fun _ B1 B2 hW hB1 hB2 => moved_good (h.next hW) (right_err hR) hR _ plain_tabbed _ (fun w1 hw1 => tabbed_does a b f B1 B2 _ w1 (onTime s) _ x c (cell_stay hw1 hB1) (cell_stay hw1 hB2) hx hc fun W p k hS => hf w1.heap.size W p k hS) rfl rfl rfl
theorem small_tabs {s : Scr} {n hh : Nat} (hR : RightS s n hh) (l : List Bool) (hl : l.length = n) : Small { s with tabs := l } := by
  have h0 := right_small hR
  exact ⟨h0.c, by show l.length ≤ _; have := hR.n2; omega, h0.g, h0.r⟩
theorem agree_tab {what : ByteArray} {a b : Int} {s : Scr} {n hh : Nat} (hR : RightS s n hh) (f : Nat → Nat) (x c : Nat) (hc : 1 ≤ c) (hlt : often' f (min c n) x < n) (hm : often' f c x = often' f (min c n) x) (hA : ActMakes what a b s (tabS s f x (min c n)) (rowsL n s.cs hh) (rowsL n s.cs hh)) : Agrees what a b s (movedS s ((often' f c x : Nat) : Int) s.y) n hh := by
  have h0 := right_small hR
  have n1 := hR.n1
  have ew := hR.w
  have eh := hR.h
  have y0 := hR.y0
  have y1 := hR.y1
  refine ⟨⟨h0.c, h0.t, h0.g, h0.r⟩, _, _, hA, Grd.rowsL_len _ _ _, rowsL_row hR, ?_⟩
  rw [hR.flatten, ← hR.w, ← hR.h]
  unfold tabS movedS
  have e1 : withinI ((often' f c x : Nat) : Int) 0 (s.w - 1) = ((often' f (min c n) x : Nat) : Int) := by
    rw [hm]
    unfold withinI
    omega
  have e2 : withinI s.y 0 (s.h - 1) = s.y := by unfold withinI; omega
  have e3 : (s.late && decide (min c n = 0)) = false := by
    rw [decide_eq_false (by omega)]
    simp
  rw [e1, e2, e3]
theorem agree_tabs {what : ByteArray} {a b : Int} {s : Scr} {n hh : Nat} (hR : RightS s n hh) (l : List Bool) (hl : l.length = n) (hA : ActMakes what a b s { s with tabs := l } (rowsL n s.cs hh) (rowsL n s.cs hh)) : Agrees what a b s { s with tabs := l, cs := s.cs } n hh := by
  refine ⟨small_tabs hR l hl, _, _, hA, Grd.rowsL_len _ _ _, rowsL_row hR, ?_⟩
  rw [hR.flatten, ← hR.w, ← hR.h]
theorem tab_law (s : Scr) (cv tv gv : Value) (k : Int) (w : World) (hT : Txt.Tab w) (hV : ScrV w s cv tv gv) (hB : Bulk s) :
    Calls Tryz.prog 8 #[.agg (scrA s cv tv gv), .func (.func 10) #[] #[], .string ⟨#[116, 97, 98]⟩, .int .i64 k] w fun e w' => e = .returned (.bool true) ∧ Below w.heap.size w w' :=
  one_any s cv tv gv _ plainF_tab _ k w hT hV hB (movedS s ((often' (nextR s.tabs s.w.toNat) (cnt k).toNat s.x.toNat : Nat) : Int) s.y) (fun hz w0 W cv' tv' gv' hm => tab_calls s zScr cv' tv' gv' k _ w0 W hm.v hm.b.size fun V hV' => tabbed_bad (hm.next hV').came hz k 1) fun nn hh hR => by
    have e1 := hR.w
    have e2 := hR.h
    have n1 := hR.n1
    have n2 := hR.n2
    have h1 := hR.h1
    have h2 := hR.h2
    have x0 := hR.x0
    have x1 := hR.x1
    have y0 := hR.y0
    have y1 := hR.y1
    have hc := cnt_range k
    have hxx : s.x = (s.x.toNat : Int) := by omega
    have hcc : cnt k = ((cnt k).toNat : Int) := by omega
    have hwn : s.w.toNat = nn := by omega
    rw [hwn]
    have hxn : s.x.toNat < nn := by omega
    refine ⟨fun w0 W cv' tv' gv' hm => tab_calls s _ cv' tv' gv' k _ w0 W hm.v hm.b.size fun V hV' => tabbed_good (hm.next hV').came hR k 1 _ _ _ hxx hcc fun w1 W' p j hS => ?_, agree_tab hR _ _ _ (by omega) (oftenR s.tabs nn _ hxn _).1 (oftenR_min s.tabs nn _ _ hxn) (act_tab k 0 s _ nn _ _ e1 hxx hxn hR.tl n2 (by omega) (by omega) y0 (by omega) hcc)⟩
    exact nextTabR (s := { onTime s with x := ((often' (nextR s.tabs nn) j s.x.toNat : Nat) : Int) }) nn _ W' hS e1 rfl (oftenR s.tabs nn _ hxn j).1 n2 hR.tl
theorem tabBack_law (s : Scr) (cv tv gv : Value) (k : Int) (w : World) (hT : Txt.Tab w) (hV : ScrV w s cv tv gv) (hB : Bulk s) :
    Calls Tryz.prog 8 #[.agg (scrA s cv tv gv), .func (.func 11) #[] #[], .string ⟨#[116, 97, 98, 98, 97, 99, 107]⟩, .int .i64 k] w fun e w' => e = .returned (.bool true) ∧ Below w.heap.size w w' :=
  one_any s cv tv gv _ plainF_tabBack _ k w hT hV hB (movedS s ((often' (nextL s.tabs) (cnt k).toNat s.x.toNat : Nat) : Int) s.y) (fun hz w0 W cv' tv' gv' hm => tabBack_calls s zScr cv' tv' gv' k _ w0 W hm.v hm.b.size fun V hV' => tabbed_bad (hm.next hV').came hz k (-1)) fun nn hh hR => by
    have e1 := hR.w
    have e2 := hR.h
    have n1 := hR.n1
    have n2 := hR.n2
    have h1 := hR.h1
    have h2 := hR.h2
    have x0 := hR.x0
    have x1 := hR.x1
    have y0 := hR.y0
    have y1 := hR.y1
    have hc := cnt_range k
    have hxx : s.x = (s.x.toNat : Int) := by omega
    have hcc : cnt k = ((cnt k).toNat : Int) := by omega
    have hxn : s.x.toNat < nn := by omega
    have hlt : ∀ j, often' (nextL s.tabs) j s.x.toNat < nn := fun j => by have := oftenL s.tabs nn _ hxn j; omega
    refine ⟨fun w0 W cv' tv' gv' hm => tabBack_calls s _ cv' tv' gv' k _ w0 W hm.v hm.b.size fun V hV' => tabbed_good (hm.next hV').came hR k (-1) _ _ _ hxx hcc fun w1 W' p j hS => ?_, agree_tab hR _ _ _ (by omega) (hlt _) (oftenL_min s.tabs nn _ _ hxn) (act_tabback k 0 s _ nn _ _ e1 hxx hxn hR.tl n2 (by omega) (by omega) y0 (by omega) hcc)⟩
    exact nextTabL (s := { onTime s with x := ((often' (nextL s.tabs) j s.x.toNat : Nat) : Int) }) nn _ W' hS e1 rfl (hlt j) n2 hR.tl
theorem setTab_law (s : Scr) (cv tv gv : Value) (w : World) (hT : Txt.Tab w) (hV : ScrV w s cv tv gv) (hB : Bulk s) :
    Calls Tryz.prog 12 #[.agg (scrA s cv tv gv), .func (.func 13) #[] #[], .string ⟨#[115, 101, 116, 116, 97, 98]⟩, .int .i64 0, .int .i64 0] w fun e w' => e = .returned (.bool true) ∧ Below w.heap.size w w' :=
  acts_any s cv tv gv _ plainF_setTab _ _ 0 0 w hT hV hB { s with tabs := s.tabs.set s.x.toNat true, cs := s.cs } (fun hz w0 W cv' tv' gv' _ hm => setTab_calls s zScr cv' tv' gv' _ w0 W hm.v hm.b.size fun V _ hV' => mchange_bad (hm.next hV').came hz _ _) fun nn hh hR => by
    have n2 := hR.n2
    have x0 := hR.x0
    have x1 := hR.x1
    have hxx : s.x = (s.x.toNat : Int) := by omega
    have hxn : s.x.toNat < nn := by omega
    refine ⟨fun w0 W cv' tv' gv' _ hm => setTab_calls s _ cv' tv' gv' _ w0 W hm.v hm.b.size fun V _ hV' => ?_, agree_tabs hR _ (by rw [List.length_set]; exact hR.tl) (act_settab 0 0 s _ nn _ hxx hxn hR.tl n2)⟩
    have h := mchange_good (hm.next hV').came (right_err hR) hR _ plain_setTab #[] (rowsL nn s.cs hh) s.cs (fun w1 _ => setTab_does w0.heap.size w1 s _ nn _ hxx hxn hR.tl n2) (hR.rows (s' := { s with tabs := s.tabs.set s.x.toNat true }) rfl) hR.flatten
    rw [right_err hR] at h
    exact h
theorem clearTab_law (s : Scr) (cv tv gv : Value) (k : Int) (w : World) (hT : Txt.Tab w) (hV : ScrV w s cv tv gv) (hB : Bulk s) :
    Calls Tryz.prog 8 #[.agg (scrA s cv tv gv), .func (.func 14) #[] #[], .string ⟨#[99, 108, 101, 97, 114, 116, 97, 98]⟩, .int .i64 k] w fun e w' => e = .returned (.bool true) ∧ Below w.heap.size w w' :=
  one_any s cv tv gv _ plainF_clearTab _ k w hT hV hB { s with tabs := clrTabs s.tabs s.x.toNat k, cs := s.cs } (fun hz w0 W cv' tv' gv' hm => clearTab_calls s zScr cv' tv' gv' k _ w0 W hm.v hm.b.size fun V _ hV' _ => mchange_bad (hm.next hV').came hz _ _) fun nn hh hR => by
    have n2 := hR.n2
    have x0 := hR.x0
    have x1 := hR.x1
    have hxx : s.x = (s.x.toNat : Int) := by omega
    have hxn : s.x.toNat < nn := by omega
    have hl : (clrTabs s.tabs s.x.toNat k).length = nn := by
      have := hR.tl
      unfold clrTabs
      split
      · rw [List.length_set]
        omega
      · split
        · rw [List.length_replicate]
          omega
        · omega
    refine ⟨fun w0 W cv' tv' gv' hm => clearTab_calls s _ cv' tv' gv' k _ w0 W hm.v hm.b.size fun V B hV' hB' => ?_, agree_tabs hR _ hl (act_cleartab k 0 s _ nn _ hR.w hxx hxn hR.tl n2)⟩
    have h := mchange_good (hm.next hV').came (right_err hR) hR _ plain_clearTab _ (rowsL nn s.cs hh) s.cs (fun w1 hw1 => clearTab_does k B w0.heap.size w1 s _ nn _ (cell_stay hw1 hB') hxx hxn hR.tl n2) (hR.rows (s' := { s with tabs := clrTabs s.tabs s.x.toNat k }) rfl) hR.flatten
    rw [right_err hR] at h
    exact h
set_option maxHeartbeats 4000000 in
set_option maxRecDepth 100000 in
theorem moveTabs_walk (s : Scr) (cv tv gv : Value) (a : Int) (w : World) (hT : Txt.Tab w) (hV : ScrV w s cv tv gv) (hB : Bulk s) :
    Calls Tryz.prog 4 #[.agg (scrA s cv tv gv), .int .i64 a] w fun e w' => e = .returned (.bool true) ∧ Below w.heap.size w w' := by
  have HC_tab : Hid (∀ W, Below w.heap.size w W → Calls Tryz.prog 8 #[.agg (scrA s cv tv gv), .func (.func 10) #[] #[], .string ⟨#[116, 97, 98]⟩, .int .i64 a] W fun e w' => e = .returned (.bool true) ∧ Below W.heap.size W w') := fun W h => tab_law s cv tv gv a W (Grd.Tab.next hT h) (hV.next h) hB
  have HC_tabBack : Hid (∀ W, Below w.heap.size w W → Calls Tryz.prog 8 #[.agg (scrA s cv tv gv), .func (.func 11) #[] #[], .string ⟨#[116, 97, 98, 98, 97, 99, 107]⟩, .int .i64 a] W fun e w' => e = .returned (.bool true) ∧ Below W.heap.size W w') := fun W h => tabBack_law s cv tv gv a W (Grd.Tab.next hT h) (hV.next h) hB
  have HC_setTab : Hid (∀ W, Below w.heap.size w W → Calls Tryz.prog 12 #[.agg (scrA s cv tv gv), .func (.func 13) #[] #[], .string ⟨#[115, 101, 116, 116, 97, 98]⟩, .int .i64 0, .int .i64 0] W fun e w' => e = .returned (.bool true) ∧ Below W.heap.size W w') := fun W h => setTab_law s cv tv gv W (Grd.Tab.next hT h) (hV.next h) hB
  have HC_clearTab : Hid (∀ W, Below w.heap.size w W → Calls Tryz.prog 8 #[.agg (scrA s cv tv gv), .func (.func 14) #[] #[], .string ⟨#[99, 108, 101, 97, 114, 116, 97, 98]⟩, .int .i64 a] W fun e w' => e = .returned (.bool true) ∧ Below W.heap.size W w') := fun W h => clearTab_law s cv tv gv a W (Grd.Tab.next hT h) (hV.next h) hB
  have x0 := heap_alloc_new w (.cells (scrA s cv tv gv) 32)
  have kb : Below w.heap.size w (w.alloc (.cells (scrA s cv tv gv) 32)) := (Below.refl _ _).alloc (Nat.le_refl _) _
  have HX0 : Hid _ := x0
  have HB0 : Hid _ := kb
  clear x0 kb hV hT hB
  go_enter Tryz.func4, Tryz.ntmps4
  go_wp2_with (refine wpList_load_row rfl 32 (.tmp 2) rfl w.heap.size rfl _ _ _ _ HX0.out Tryz.underlying32 rfl (by kernel_rfl) ?_)
  refine (HC_tab.out _ HB0.out).mono ?_
  rintro e V1 ⟨rfl, b1⟩
  have HB1 : Hid (Below w.heap.size w V1) := HB0.out.trans (b1.mono HB0.out.size)
  have HX1 : Hid (V1.heap[w.heap.size]? = _) := Grd.carry HX0.out b1
  clear b1
  go_wp2_with (refine BigFrame.wpList_want rfl fun K hK => wp_load_row 32 (.tmp 2) rfl w.heap.size rfl _ _ _ _ HX1.out Tryz.underlying32 rfl (by kernel_rfl) (hK _ _ ?_))
  refine (HC_tabBack.out _ HB1.out).mono ?_
  rintro e V2 ⟨rfl, b2⟩
  have HB2 : Hid (Below w.heap.size w V2) := HB1.out.trans (b2.mono HB1.out.size)
  have HX2 : Hid (V2.heap[w.heap.size]? = _) := Grd.carry HX1.out b2
  clear b2
  go_wp2_with (refine BigFrame.wpList_want rfl fun K hK => wp_load_row 32 (.tmp 2) rfl w.heap.size rfl _ _ _ _ HX2.out Tryz.underlying32 rfl (by kernel_rfl) (hK _ _ ?_))
  refine (HC_setTab.out _ HB2.out).mono ?_
  rintro e V3 ⟨rfl, b3⟩
  have HB3 : Hid (Below w.heap.size w V3) := HB2.out.trans (b3.mono HB2.out.size)
  have HX3 : Hid (V3.heap[w.heap.size]? = _) := Grd.carry HX2.out b3
  clear b3
  go_wp2_with (refine BigFrame.wpList_want rfl fun K hK => wp_load_row 32 (.tmp 2) rfl w.heap.size rfl _ _ _ _ HX3.out Tryz.underlying32 rfl (by kernel_rfl) (hK _ _ ?_))
  refine (HC_clearTab.out _ HB3.out).mono ?_
  rintro e V4 ⟨rfl, b4⟩
  have HB4 : Hid (Below w.heap.size w V4) := HB3.out.trans (b4.mono HB3.out.size)
  have HX4 : Hid (V4.heap[w.heap.size]? = _) := Grd.carry HX3.out b4
  clear b4
  go_wp2_with fail
  go_ret
  exact ⟨rfl, HB4.out⟩
end Put
end Go.Proofs.YtnkeahfcpbepjaaGreatDoor
