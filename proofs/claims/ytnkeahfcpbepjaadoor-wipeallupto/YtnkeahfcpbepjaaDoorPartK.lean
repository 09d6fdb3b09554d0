/- (*sheet.Sheet).blanks, replace, Drop, Down: a row goes, and a blank one comes. -/
import Derived.Test.YtnkeahfcpbepjaaDoorPartJ
import Derived.Test.YtnkeahfcpbepjaaDoorPartE
import Derived.Deep.RegionHeld3
import Derived.Test.YtnkeahfcpbepjaaDoorPartF
import Derived.Test.YtnkeahfcpbepjaaDoorPartI
import Derived.Deep.Cut
import Derived.Deep.CutRange
import Derived.Test.YtnkeahfcpbepjaaDoorPartH
namespace Go.Proofs.YtnkeahfcpbepjaaDoor
open Go.ChangeShapes Go.WideShapes Go.ChangeAt Go.RowKit
namespace Put
open Grd (C SliceAt CellsAt gridErr z0 nilV flat rowsL OwnG RowB)
theorem getD_erase {α : Type} (l : List α) (i j : Nat) (d : α) : (l.eraseIdx i).getD j d = if j < i then l.getD j d else l.getD (j + 1) d := by
  simp only [List.getD, List.getElem?_eraseIdx]
  split <;> rfl
theorem getD_insert {α : Type} (l : List α) (i j : Nat) (x d : α) (hi : i ≤ l.length) : (l.insertIdx i x).getD j d = if j < i then l.getD j d else if j = i then x else l.getD (j - 1) d := by
  simp only [List.getD, List.getElem?_insertIdx]
  by_cases h1 : j < i
  · rw [if_pos h1, if_pos h1]
  · rw [if_neg h1, if_neg h1]
    by_cases h2 : j = i
    · subst h2
      rw [if_pos rfl, if_pos rfl, if_pos hi]
      rfl
    · rw [if_neg h2, if_neg h2]
theorem RowsIn.erase {W : World} {N : Nat} {vs : List Value} {rows : List (List C)} (h : RowsIn W N vs rows) (i : Nat) (hi : i < rows.length) : RowsIn W N (vs.eraseIdx i) (rows.eraseIdx i) := by
  have hl := h.1
  refine ⟨by rw [List.length_eraseIdx_of_lt (by omega), List.length_eraseIdx_of_lt hi, hl], fun j hj => ?_⟩
  rw [List.length_eraseIdx_of_lt hi] at hj
  rw [getD_erase, getD_erase]
  split
  · exact h.2 j (by omega)
  · exact h.2 (j + 1) (by omega)
theorem RowsIn.insert {W : World} {N : Nat} {vs : List Value} {rows : List (List C)} (h : RowsIn W N vs rows) (i : Nat) (hi : i ≤ rows.length) (v : Value) (row : List C) (hr : RowIn W N v row) : RowsIn W N (vs.insertIdx i v) (rows.insertIdx i row) := by
  have hl := h.1
  refine ⟨by rw [List.length_insertIdx_of_le_length (by omega), List.length_insertIdx_of_le_length hi, hl], fun j hj => ?_⟩
  rw [List.length_insertIdx_of_le_length hi] at hj
  rw [getD_insert _ _ _ _ _ (by omega), getD_insert _ _ _ _ _ hi]
  split
  · exact h.2 j (by omega)
  · split
    · exact hr
    · exact h.2 (j - 1) (by omega)
theorem RowsIn.sls {W : World} {N : Nat} {vs : List Value} {rows : List (List C)} (h : RowsIn W N vs rows) : ∀ v, v ∈ vs → IsSl v := by
  intro v hv
  obtain ⟨i, hi, rfl⟩ := List.mem_iff_getElem.1 hv
  obtain ⟨a, c, e⟩ := (h.2 i (by rw [← h.1]; exact hi)).shape
  have e2 : vs.getD i nilV = vs[i] := by simp [List.getD, hi]
  rw [e2] at e
  exact ⟨(a, _, c), e⟩
theorem sl_in {W : World} {N : Nat} {v : Value} {row : List C} (h : RowIn W N v row) : IsSl v := by
  obtain ⟨a, c, e⟩ := h.shape
  exact ⟨(a, _, c), e⟩
theorem ShA.keptR {W V : World} {M N p : Nat} {s : Scr} {rows : List (List C)} {cv tv gv rv : Value} {gvs vs : List Value} {rb : Nat} (h : ShA 109 W M N p s rows cv tv gv rv gvs vs) (hrb : rv.ownBlock = some rb) (ho : ∀ k, k < W.heap.size → k ≠ rb → V.heap[k]? = W.heap[k]?) : Kept M W V := fun k hk hS => ho k hk fun e => by
  obtain ⟨hlo, A, f, hA⟩ := owns_block h.rws rb hrb
  subst e
  rcases hS with hS | ⟨B, f', hS⟩
  · have := h.ml
    omega
  · rw [hA] at hS
    injection hS with hS
    injection hS with _ hS _
    exact absurd hS (by decide)
/-- Other rows in the same block. -/
theorem ShA.rowsNew {W V : World} {M N p : Nat} {s : Scr} {rows rows' : List (List C)} {cv tv gv rv rv' : Value} {gvs vs vs' : List Value} {rb : Nat} (h : ShA 109 W M N p s rows cv tv gv rv gvs vs) (hrb : rv.ownBlock = some rb) (hrb' : rv'.ownBlock = some rb)
    (ho : ∀ k, k < W.heap.size → k ≠ rb → V.heap[k]? = W.heap[k]?) (hw : V.ownsRow N 22 1 rv' rows'.length vs') (hr : RowsIn V M vs' rows') :
    ShA 109 (V.setCell ⟨p, 22, none⟩ rv') M N p s rows' cv tv gv rv' gvs vs' := by
  obtain ⟨hlo, A, f, hA⟩ := owns_block h.rws rb hrb
  have hpr : p ≠ rb := by
    intro e
    rw [← e, h.blk] at hA
    injection hA with hA
    injection hA with _ hA _
    exact absurd hA (by decide)
  have hp : V.heap[p]? = some (.cells (shA s cv tv gv rv) 109 (0, 0)) := (ho p (heap_lt h.blk) hpr).trans h.blk
  have hk1 : Kept M W V := fun k hk hS => ho k hk fun e => by
    subst e
    rcases hS with hS | ⟨B, f', hS⟩
    · have := h.ml
      omega
    · rw [hA] at hS
      injection hS with hS
      injection hS with _ hS _
      exact absurd hS (by decide)
  have hk2 : Kept M V (V.setCell ⟨p, 22, none⟩ rv') := Kept.store hp (by decide) (Nat.le_trans h.ml h.lo)
  have hof : ∀ {e : TypeId} {v : Value} {n : Nat} {xs : List Value}, e ≠ 109 → (∀ k, v.ownBlock = some k → k ≠ rb) → W.ownsRow N e 1 v n xs → (V.setCell ⟨p, 22, none⟩ rv').ownsRow N e 1 v n xs := fun hte hn hw => by
    refine own_off (owns_kept hw fun g hg => ?_) hp (Ne.symm hte)
    obtain ⟨-, B, f', hB⟩ := owns_block hw g hg
    exact ho g (heap_lt hB) (hn g hg)
  have hnb : ∀ k, tv.ownBlock = some k → k ≠ rb := fun k hk e => by
    subst e
    obtain ⟨-, B, f', hB⟩ := owns_block h.tabs k hk
    rw [hA] at hB
    injection hB with hB
    injection hB with _ hB _
    exact absurd hB (by decide)
  have hng : ∀ k, gv.ownBlock = some k → k ≠ rb := fun k hk e => h.two rb hrb (by rw [hk, e])
  refine ⟨store_at hp rfl, h.lo, h.ml, h.cvs, hof (by decide) hnb h.tabs, hof (by decide) hng h.gone, (h.gin.keep hk1).keep hk2, own_off hw hp (by decide), hr.keep hk2, fun k hk e => ?_⟩
  rw [hrb'] at hk
  exact hng k e (Option.some.inj hk).symm
theorem one4w (a : Int) (b c d : Int) : (#[.int .i32 a, .int .i64 b, .int .i64 c, .int .i64 d] : Array Value).all (·.oneCell') = true := by simp [Value.oneCell']
set_option maxHeartbeats 2000000 in
theorem blankS_any (p : Nat) (bk : Int) (V : World) (h : V.cell? ⟨p, 7, none⟩ = some (.int .i64 bk)) : Calls Tryd.prog 156 #[.pointer (some ⟨p, 0, none⟩)] V fun e V' => e = .returned (.agg #[.int .i32 32, .int .i64 0, .int .i64 bk, .int .i64 0]) ∧ Below V.heap.size V V' := by
  have x0 := heap_alloc_new V (.cells #[.int .i32 0, .int .i64 0, .int .i64 0, .int .i64 0] 63)
  have kb : Below V.heap.size V (V.alloc (.cells #[.int .i32 0, .int .i64 0, .int .i64 0, .int .i64 0] 63)) := (Below.refl _ _).alloc (Nat.le_refl _) _
  have h1 := cell_stay kb h
  have HX0 : Hid _ := x0
  have HKB : Hid _ := kb
  clear x0 kb h
  go_enter Tryd.func156, Tryd.ntmps156
  go_upto_region 1 with fail
  generalize V.alloc (.cells #[.int .i32 0, .int .i64 0, .int .i64 0, .int .i64 0] 63) = Y at *
  go_wp2_with (refine wpList_store_row rfl 63 (.tmp 2) _ rfl V.heap.size #[.int .i32 32, .int .i64 0, .int .i64 bk, .int .i64 0] rfl rfl _ _ HX0.out (by kernel_rfl) rfl (one4w _ _ _ _) ?_)
  (try simp only [Exit.inBlock, Exit.then])
  refine bodyPost_ret (v := .agg #[.int .i32 32, .int .i64 0, .int .i64 bk, .int .i64 0]) ?_ rfl ⟨rfl, below_setRow HKB.out (Nat.le_refl _) _⟩
  exact results_cell_row rfl _ _ V.heap.size _ _ _ _ rfl (setRow_heap _ _ _ _ _ _ HX0.out) Tryd.underlying63 rfl (by kernel_rfl)
theorem cells_one (V : World) (c : C) : CellsAt (V.alloc (.cells #[.int .i32 c.1, .int .i64 c.2.1, .int .i64 c.2.2.1, .int .i64 c.2.2.2] 63)) V.heap.size 0 [c] := fun j hj => by
  have h := heap_alloc_new V (.cells #[.int .i32 c.1, .int .i64 c.2.1, .int .i64 c.2.2.1, .int .i64 c.2.2.2] 63)
  generalize V.alloc (.cells #[.int .i32 c.1, .int .i64 c.2.1, .int .i64 c.2.2.1, .int .i64 c.2.2.2] 63) = X at *
  match j, hj with
  | 0, _ => exact ⟨by simp [World.cell?, h], by simp [World.cell?, h], by simp [World.cell?, h], by simp [World.cell?, h]⟩
set_option maxHeartbeats 2000000 in
theorem blanks_any (p n : Nat) (bk : Int) (W : World) (h7 : W.cell? ⟨p, 7, none⟩ = some (.int .i64 bk)) (hn1 : 1 ≤ n) (hn2 : n ≤ 120) :
    Calls Tryd.prog 137 #[.pointer (some ⟨p, 0, none⟩), .int .i64 (n : Int)] W fun e W' => ∃ a c g, e = .returned (.slice a n c) ∧ W.heap.size ≤ g ∧ RowB W' g (.slice a n c) (List.replicate n (32, 0, bk, 0)) ∧ Below W.heap.size W W' := by
  have HB := blankS_any p bk W h7
  have HRP : Hid (∀ V : World, Calls Tryd.prog 93 #[.slice (some ⟨V.heap.size, 0, none⟩) 1 1, .int .i64 (n : Int)] (V.alloc (.cells #[.int .i32 32, .int .i64 0, .int .i64 bk, .int .i64 0] 63)) fun e w' => ∃ v', e = .returned v' ∧ OwnG w' (V.alloc (.cells #[.int .i32 32, .int .i64 0, .int .i64 bk, .int .i64 0] 63)).heap.size v' (List.replicate n (32, 0, bk, 0)) ∧ Below (V.alloc (.cells #[.int .i32 32, .int .i64 0, .int .i64 bk, .int .i64 0] 63)).heap.size (V.alloc (.cells #[.int .i32 32, .int .i64 0, .int .i64 bk, .int .i64 0] 63)) w') := fun V => Grd.repeat_one V.heap.size 0 1 n (32, 0, bk, 0) _ (cells_one V (32, 0, bk, 0)) hn1 (by omega)
  clear h7
  go_enter Tryd.func137, Tryd.ntmps137
  go_wp2_with fail
  refine HB.mono ?_
  rintro e V1 ⟨rfl, b1⟩
  clear HB
  go_wp2_with fail
  refine (HRP.out V1).mono ?_
  rintro e V2 ⟨v2, rfl, ho, b2⟩
  have q2 := b1.alloc b1.size (.cells #[.int .i32 32, .int .i64 0, .int .i64 bk, .int .i64 0] 63)
  have q3 := q2.trans (b2.mono q2.size)
  obtain ⟨g, hg1, hr⟩ := own_rowB ho
  obtain ⟨cap, rest, hv, hc1, hc2, hh⟩ := hr
  subst hv
  go_wp2_with fail
  go_ret
  refine ⟨_, cap, g, rfl, by have := q2.size; omega, ⟨cap, rest, by rw [List.length_replicate], hc1, hc2, hh⟩, q3⟩
set_option maxHeartbeats 2000000 in
theorem blanks_zero (p : Nat) (bk : Int) (W : World) (h7 : W.cell? ⟨p, 7, none⟩ = some (.int .i64 bk)) :
    Calls Tryd.prog 137 #[.pointer (some ⟨p, 0, none⟩), .int .i64 0] W fun e W' => ∃ a c g, e = .returned (.slice a 0 c) ∧ W.heap.size ≤ g ∧ RowB W' g (.slice a 0 c) [] ∧ Below W.heap.size W W' := by
  have HB := blankS_any p bk W h7
  have HRP : Hid (∀ V : World, Calls Tryd.prog 93 #[.slice (some ⟨V.heap.size, 0, none⟩) 1 1, .int .i64 0] (V.alloc (.cells #[.int .i32 32, .int .i64 0, .int .i64 bk, .int .i64 0] 63)) fun e w' => ∃ v', e = .returned v' ∧ OwnG w' (V.alloc (.cells #[.int .i32 32, .int .i64 0, .int .i64 bk, .int .i64 0] 63)).heap.size v' [] ∧ Below (V.alloc (.cells #[.int .i32 32, .int .i64 0, .int .i64 bk, .int .i64 0] 63)).heap.size (V.alloc (.cells #[.int .i32 32, .int .i64 0, .int .i64 bk, .int .i64 0] 63)) w') := fun V => Grd.repeat_zero _ 0 1 (32, 0, bk, 0) _ (cells_one V (32, 0, bk, 0))
  clear h7
  go_enter Tryd.func137, Tryd.ntmps137
  go_wp2_with fail
  refine HB.mono ?_
  rintro e V1 ⟨rfl, b1⟩
  clear HB
  go_wp2_with fail
  refine (HRP.out V1).mono ?_
  rintro e V2 ⟨v2, rfl, ho, b2⟩
  have q2 := b1.alloc b1.size (.cells #[.int .i32 32, .int .i64 0, .int .i64 bk, .int .i64 0] 63)
  have q3 := q2.trans (b2.mono q2.size)
  obtain ⟨g, hg1, hr⟩ := own_rowB ho
  obtain ⟨cap, rest, hv, hc1, hc2, hh⟩ := hr
  subst hv
  go_wp2_with fail
  go_ret
  exact ⟨_, cap, g, rfl, by have := q2.size; omega, ⟨cap, rest, rfl, hc1, hc2, hh⟩, q3⟩
theorem blanks_all (p n : Nat) (bk : Int) (W : World) (h7 : W.cell? ⟨p, 7, none⟩ = some (.int .i64 bk)) (hn2 : n ≤ 120) :
    Calls Tryd.prog 137 #[.pointer (some ⟨p, 0, none⟩), .int .i64 (n : Int)] W fun e W' => ∃ a c g, e = .returned (.slice a n c) ∧ W.heap.size ≤ g ∧ RowB W' g (.slice a n c) (List.replicate n (32, 0, bk, 0)) ∧ Below W.heap.size W W' := by
  rcases Nat.eq_zero_or_pos n with rfl | h
  · exact blanks_zero p bk W h7
  · exact blanks_any p n bk W h7 h hn2
/-- A row goes, and a blank one comes. -/
def replR (rows : List (List C)) (n : Nat) (bk : Int) (gone fresh : Nat) : List (List C) := (rows.eraseIdx gone).insertIdx fresh (List.replicate n (32, 0, bk, 0))
theorem replR_len (rows : List (List C)) (n : Nat) (bk : Int) (gone fresh : Nat) (hg : gone < rows.length) (hf : fresh < rows.length) : (replR rows n bk gone fresh).length = rows.length := by
  unfold replR
  rw [List.length_insertIdx_of_le_length (by rw [List.length_eraseIdx_of_lt hg]; omega), List.length_eraseIdx_of_lt hg]
  omega
theorem replR_row (rows : List (List C)) (n : Nat) (bk : Int) (gone fresh : Nat) (hg : gone < rows.length) (hf : fresh < rows.length) (hn : ∀ i, i < rows.length → (rows.getD i []).length = n) (i : Nat) (hi : i < rows.length) : ((replR rows n bk gone fresh).getD i []).length = n := by
  have hl : (rows.eraseIdx gone).length = rows.length - 1 := List.length_eraseIdx_of_lt hg
  have he : ∀ j, j < rows.length - 1 → ((rows.eraseIdx gone).getD j []).length = n := fun j hj => by
    rw [getD_erase]
    split
    · exact hn j (by omega)
    · exact hn (j + 1) (by omega)
  unfold replR
  rw [getD_insert _ _ _ _ _ (by omega)]
  split
  · exact he i (by omega)
  · split
    · simp
    · exact he (i - 1) (by omega)
set_option linter.unusedSimpArgs false in
set_option maxHeartbeats 4000000 in
set_option maxRecDepth 100000 in
theorem replace_any (W : World) (M N p n : Nat) (s : Scr) (rows : List (List C)) (hS : ShAt 109 W M N p s rows) (gone fresh : Nat) (hw : s.w = n) (hn1 : 1 ≤ n) (hn2 : n ≤ 120) (hg : gone < rows.length) (hf : fresh < rows.length) (hrl : rows.length ≤ 60) :
    Calls Tryd.prog 163 #[.pointer (some ⟨p, 0, none⟩), .int .i64 (gone : Int), .int .i64 (fresh : Int)] W (Ran W M N p s (replR rows n s.sb gone fresh)) := by
  obtain ⟨cv, tv, gv, rv, gvs, vs, hS⟩ := hS
  obtain ⟨rb, rc, hrv, hrb, hrc1, hrc2, hvl, hrcell, A, hrA⟩ := own_cells hS.rws (by omega)
  subst hrv
  have HD := delete_own N rb rows.length rc gone vs W hS.rws hS.rin.sls hg
  obtain ⟨⟨c0, -⟩, ⟨-, -, -, -, -, -, -, -, -, -, -, c22⟩, f⟩ := sh_cells hS.blk
  have hpr : p ≠ rb := by
    intro e
    rw [← e, hS.blk] at hrA
    injection hrA with hrA
    injection hrA with _ hrA _
    exact absurd hrA (by decide)
  have hlo := hS.lo
  have hwg : IntKind.i64.wrap ((gone : Int) + 1) = ((gone + 1 : Nat) : Int) := by rw [wrap_id _ (by omega) (by omega)]; omega
  have HS : Hid (ShA 109 W M N p s rows cv tv gv (.slice (some ⟨rb, 0, none⟩) rows.length rc) gvs vs) := hS
  clear hS hrcell hvl f c0
  go_enter Tryd.func163, Tryd.ntmps163
  go_wp2_with fail
  refine HD.mono ?_
  rintro e V1 ⟨rfl, hO1, hk1, hb1⟩
  have hpV := (hk1 p hpr).trans HS.out.blk
  have c22' := (sh_cells hpV).2.1.2.2.2.2.2.2.2.2.2.2.2
  have f22 := (sh_cells hpV).2.2 22
  go_upto_region 1 with fail
  have hS1 : ShA 109 (V1.setCell ⟨p, 22, none⟩ (.slice (some ⟨rb, 0, none⟩) (rows.length - 1) rc)) M N p s (rows.eraseIdx gone) cv tv gv (.slice (some ⟨rb, 0, none⟩) (rows.length - 1) rc) gvs (vs.eraseIdx gone) :=
    HS.out.rowsNew (rb := rb) rfl rfl (fun k _ hk => hk1 k hk) (by rw [List.length_eraseIdx_of_lt hg]; exact hO1) ((HS.out.rin.erase gone hg).keep (HS.out.keptR (rb := rb) rfl fun k _ hk => hk1 k hk))
  have hB1 : Below N W (V1.setCell ⟨p, 22, none⟩ (.slice (some ⟨rb, 0, none⟩) (rows.length - 1) rc)) := (hb1.mono hrb).setCell hlo _
  have hF1 : Framed W (V1.setCell ⟨p, 22, none⟩ (.slice (some ⟨rb, 0, none⟩) (rows.length - 1) rc)) := fun k o hk ho => by
    have e1 : k ≠ rb := by
      intro e
      rw [e, hrA] at hk
      injection hk with hk
      exact not_other_rows (ho A _ _ hk.symm)
    exact Framed.store hpV not_other_sheet k o ((hk1 k e1).trans hk) ho
  have HS1 : Hid _ := hS1
  have HB1 : Hid _ := hB1
  have HF1 : Hid _ := hF1
  clear hS1 hB1 hF1 hO1 hk1 hb1 hpV c22' f22 c22 hrA HS HD
  generalize V1.setCell ⟨p, 22, none⟩ (.slice (some ⟨rb, 0, none⟩) (rows.length - 1) rc) = X at *
  have hX := HS1.out
  obtain ⟨⟨c0, -, -, -, -, -, -, c7, -⟩, ⟨-, -, -, -, -, -, -, -, -, -, -, c22⟩, -⟩ := sh_cells hX.blk
  rw [hw] at c0
  have b0 : Below X.heap.size X X.drew := (Below.refl _ _).drew
  have hNX : N ≤ X.heap.size := Nat.le_trans hlo (Nat.le_of_lt (heap_lt hX.blk))
  have HBL := blanks_any p n s.sb X.drew (cell_stay b0 c7) hn1 hn2
  have HIN : Hid (∀ (V2 : World) (a : Option Addr) (c g : Nat), Below X.heap.size X V2 → RowB V2 g (.slice a n c) (List.replicate n (32, 0, s.sb, 0)) → Calls Tryd.prog 139 #[.slice (some ⟨rb, 0, none⟩) (rows.length - 1) rc, .int .i64 (fresh : Int), .slice (some ⟨V2.heap.size, 0, none⟩) 1 1] (V2.alloc (.cells #[.slice a n c] 22)) fun e V3 => e = .returned (.slice (some ⟨rb, 0, none⟩) (rows.length - 1 + 1) rc) ∧ V3.cell? ⟨p, 22, none⟩ = some (.slice (some ⟨rb, 0, none⟩) (rows.length - 1) rc) ∧ V3.frozen? ⟨p, 22, none⟩ = false ∧ Hid (Ran W M N p s (replR rows n s.sb gone fresh) (.returned (.tuple #[])) (V3.setCell ⟨p, 22, none⟩ (.slice (some ⟨rb, 0, none⟩) (rows.length - 1 + 1) rc)))) := fun V2 a c g q1 hR => by
    have q2 := q1.alloc q1.size (.cells #[.slice a n c] 22)
    have hS2 := hX.next q2
    have hal := heap_alloc_new V2 (.cells #[.slice a n c] 22)
    have hri : RowIn V2 M (.slice a n c) (List.replicate n (32, 0, s.sb, 0)) := rowIn_rowB hR
    have hle : (rows.eraseIdx gone).length = rows.length - 1 := List.length_eraseIdx_of_lt hg
    obtain ⟨-, B, f', hB⟩ := owns_block hX.rws rb rfl
    have hne : V2.heap.size ≠ rb := by have h1 := heap_lt hB; have h2 := q1.size; omega
    have key := insert_own N rb (rows.length - 1) rc fresh V2.heap.size 1 (vs.eraseIdx gone) (.slice a n c) _ (by have := hS2.rws; rwa [hle] at this) hS2.rin.sls (sl_in hri) (by omega) (by omega) hal hne
    refine Calls.mono key ?_
    rintro e V3 ⟨rfl, hO3, hk3, hb3⟩
    have hp3 : V3.heap[p]? = _ := (hk3 p hpr).trans hS2.blk
    have hri3 : RowIn V3 M (.slice a n c) (List.replicate n (32, 0, s.sb, 0)) := (hri.keep (Kept.of_below ((Below.refl _ _).alloc (Nat.le_refl _) _))).keep (hS2.keptR (rb := rb) rfl fun k _ hk => hk3 k hk)
    have hS3 := hS2.rowsNew (rb := rb) (rv' := .slice (some ⟨rb, 0, none⟩) (rows.length - 1 + 1) rc) (rows' := replR rows n s.sb gone fresh) (vs' := (vs.eraseIdx gone).insertIdx fresh (.slice a n c)) rfl rfl (fun k _ hk => hk3 k hk) (by rw [replR_len rows n s.sb gone fresh hg hf, show rows.length = rows.length - 1 + 1 by omega]; exact hO3) ((hS2.rin.keep (hS2.keptR (rb := rb) rfl fun k _ hk => hk3 k hk)).insert fresh (by omega) _ _ hri3)
    refine ⟨rfl, (sh_cells hp3).2.1.2.2.2.2.2.2.2.2.2.2.2, (sh_cells hp3).2.2 22, rfl, ⟨_, _, _, _, _, _, hS3⟩, ((HB1.out.trans (q2.mono hNX)).trans (hb3.mono hrb)).setCell hlo _, ?_⟩
    refine (Framed.trans HF1.out (Framed.of_below q2)).trans ?_
    intro k o hk ho
    have e1 : k ≠ rb := by
      intro e
      have hB2 := Grd.carry hB q2
      rw [e, hB2] at hk
      injection hk with hk
      exact not_other_rows (ho B _ _ hk.symm)
    exact Framed.store hp3 not_other_sheet k o ((hk3 k e1).trans hk) ho
  have HC22 : Hid (∀ V, Below X.heap.size X V → V.cell? ⟨p, 22, none⟩ = some (.slice (some ⟨rb, 0, none⟩) (rows.length - 1) rc)) := fun V h => cell_stay h c22
  clear hX c7 HS1 HB1 HF1 hw
  generalize rows.length - 1 = m at *
  generalize replR rows n s.sb gone fresh = rows' at *
  go_region_with (first
    | (go_at_call 137; refine HBL.mono ?_; rintro e V2 ⟨a, c, g, rfl, hg2, hR, b2⟩; have q1 := b0.trans (b2.mono b0.size); have d22 := HC22.out _ q1; have e22 := HC22.out _ (q1.alloc q1.size (.cells #[.slice a n c] 22)); have hI := HIN.out V2 a c g q1 hR; clear hR b2)
    | (go_at_call 139; refine hI.mono ?_; rintro e V3 ⟨rfl, z22, zf, HE⟩))
  all_goals go_wp2_with fail
  all_goals go_end0
  all_goals exact HE.out
end Put
end Go.Proofs.YtnkeahfcpbepjaaDoor

/- What a row is with some cells blank. -/
namespace Go.Proofs.YtnkeahfcpbepjaaDoor
namespace Put
open Grd (C z0 gridErr putRow mendL RightRow Meant)
open Sty (isSt)
open Txt (wd)
def wipeRow (bk : Int) (row : List C) (a b : Nat) : List C := mendL (putRow row (fun x => decide (a ≤ x ∧ x < b)) fun _ => (32, 0, bk, 0))
theorem wipe_len (bk : Int) (row : List C) (a b : Nat) : (wipeRow bk row a b).length = row.length := by
  unfold wipeRow
  rw [Grd.mendL_len, Grd.putRow_len]
theorem wipe_right (bk : Int) (row : List C) (a b : Nat) (h : RightRow row) (hs : isSt (0, bk, 0) = true) : RightRow (wipeRow bk row a b) := by
  unfold wipeRow
  exact Grd.mend_right _ (Grd.meant_fill row _ _ h.1 Grd.wd32 hs)
theorem wipe_at (bk : Int) (row : List C) (a b x : Nat) (hx : x < row.length) (h : a ≤ x ∧ x < b) : (wipeRow bk row a b).getD x z0 = (32, 0, bk, 0) := by
  unfold wipeRow
  rw [Grd.mendL_eq, Grd.mendM_at _ _ (by rw [Grd.putRow_len]; exact hx)]
  have e : (putRow row (fun x => decide (a ≤ x ∧ x < b)) fun _ => (32, 0, bk, 0)).getD x z0 = (32, 0, bk, 0) := by
    rw [Grd.putRow_at _ _ _ _ hx, if_pos (by simpa using h)]
  rw [e]
  split <;> rfl
/-- Wiping again changes nothing. -/
theorem wipe_wipe (bk : Int) (row : List C) (a b : Nat) (h : RightRow row) (hs : isSt (0, bk, 0) = true) : wipeRow bk (wipeRow bk row a b) a b = wipeRow bk row a b := by
  have hr := wipe_right bk row a b h hs
  have e : putRow (wipeRow bk row a b) (fun x => decide (a ≤ x ∧ x < b)) (fun _ => ((32, 0, bk, 0) : C)) = wipeRow bk row a b := by
    refine Grd.ext_getD _ _ (Grd.putRow_len _ _ _) fun x hx => ?_
    rw [Grd.putRow_len] at hx
    rw [Grd.putRow_at _ _ _ _ hx]
    by_cases hp : a ≤ x ∧ x < b
    · rw [if_pos (by simpa using hp), wipe_at bk row a b x (by rw [wipe_len] at hx; exact hx) hp]
    · rw [if_neg (by simpa using hp)]
  generalize hq : wipeRow bk row a b = q at *
  unfold wipeRow
  rw [e]
  exact Grd.mendL_fix _ hr.2
/-- A row that is wiped as a whole. -/
theorem wipe_whole (bk : Int) (row : List C) (b : Nat) (hb : row.length ≤ b) : wipeRow bk row 0 b = List.replicate row.length (32, 0, bk, 0) := by
  refine Grd.ext_getD _ _ (by rw [wipe_len, List.length_replicate]) fun x hx => ?_
  rw [wipe_len] at hx
  rw [wipe_at bk row 0 b x hx ⟨Nat.zero_le _, by omega⟩]
  simp [List.getD, hx]
theorem row_grid (n : Nat) (row : List C) (hn : row.length = n) (hz : gridErr n 1 row = 0) : RightRow row := by
  have h := ((Grd.gridErr_zero n 1 row).1 hz).2.2 0 (by omega)
  have e : Grd.rowAt n row 0 = row := by unfold Grd.rowAt; rw [Nat.zero_mul, List.drop_zero, ← hn, List.take_length]
  rw [e] at h
  exact h
theorem grid_row (n : Nat) (row row' : List C) (hn : row'.length = n) (hz : gridErr n 1 row = 0) (h : RightRow row') : gridErr n 1 row' = 0 := by
  obtain ⟨h1, -, -⟩ := (Grd.gridErr_zero n 1 row).1 hz
  refine (Grd.gridErr_zero n 1 row').2 ⟨h1, by rw [hn, Nat.mul_one], fun y hy => ?_⟩
  obtain rfl : y = 0 := by omega
  have e : Grd.rowAt n row' 0 = row' := by unfold Grd.rowAt; rw [Nat.zero_mul, List.drop_zero, ← hn, List.take_length]
  rw [e]
  exact h
end Put
end Go.Proofs.YtnkeahfcpbepjaaDoor

/- (*sheet.Sheet).Clear: cells of a row become blank. (Written by gen_sheetover.py.) -/
namespace Go.Proofs.YtnkeahfcpbepjaaDoor
open Go.ChangeShapes Go.WideShapes Go.ChangeAt Go.RowKit
namespace Put
open Grd (C SliceAt CellsAt gridErr z0 nilV flat rowsL OwnG RowB)
open Sty (isSt)
open Txt (wd)
set_option linter.unusedVariables false in
set_option maxHeartbeats 8000000 in
set_option maxRecDepth 100000 in
theorem clear1_in (W : World) (p Bp Bf Be rb ro c a b n : Nat) (bk : Int) (row : List C) (hp : W.cell? ⟨Bp, 0, none⟩ = some (.pointer (some ⟨p, 0, none⟩))) (hf : W.cell? ⟨Bf, 0, none⟩ = some (.int .i64 (a : Int))) (he : W.cell? ⟨Be, 0, none⟩ = some (.int .i64 (b : Int))) (h7 : W.cell? ⟨p, 7, none⟩ = some (.int .i64 bk)) (hC : CellsAt W rb ro row) (hc : row.length ≤ c) (hab : a + n = b) (hbl : b ≤ row.length) (hl : row.length ≤ 120) (hcc : b < c) :
    Calls Tryd.prog 147 #[.slice (some ⟨rb, ro, none⟩) row.length c, .pointer (some ⟨Bf, 0, none⟩), .pointer (some ⟨Bp, 0, none⟩), .pointer (some ⟨Be, 0, none⟩)] W fun e W' => ∃ v', e = .returned v' ∧ W'.ownsRow W.heap.size 63 4 v' row.length (flat (ovR row (List.replicate n (32, 0, bk, 0)) a b)) ∧ Below W.heap.size W W' := by
  have SK : Hid (∀ V, Below W.heap.size W V → V.cell? ⟨Bp, 0, none⟩ = some (.pointer (some ⟨p, 0, none⟩)) ∧ V.cell? ⟨Bf, 0, none⟩ = some (.int .i64 (a : Int)) ∧ V.cell? ⟨Be, 0, none⟩ = some (.int .i64 (b : Int))) := fun V h => ⟨cell_stay h hp, cell_stay h hf, cell_stay h he⟩
  have HBL : Hid (∀ V, Below W.heap.size W V → Calls Tryd.prog 137 #[.pointer (some ⟨p, 0, none⟩), .int .i64 (n : Int)] V fun e W' => ∃ q c g, e = .returned (.slice q n c) ∧ V.heap.size ≤ g ∧ RowB W' g (.slice q n c) (List.replicate n (32, 0, bk, 0)) ∧ Below V.heap.size V W') := fun V h => blanks_all p n bk V (cell_stay h h7) (by omega)
  have hwr : IntKind.i64.wrap ((b : Int) - (a : Int)) = (n : Int) := by
    rw [wrap_id _ (by omega) (by omega)]
    omega
  have HCC : Hid (CellsAt W rb ro row) := hC
  obtain ⟨L, hL⟩ : ∃ L, L = row.length := ⟨_, rfl⟩
  obtain ⟨m, hm⟩ : ∃ m, m = L - b := ⟨_, rfl⟩
  have HCN : Hid (∀ (V : World) (q : Option Addr) (vc g : Nat), Below W.heap.size W V → RowB V g (.slice q n vc) (List.replicate n (32, 0, bk, 0)) → Calls Tryd.prog 64 #[.slice (some ⟨V.heap.size, 0, none⟩) 3 3] (V.alloc (.cells #[.slice (some ⟨rb, ro, none⟩) a c, .slice q n vc, .slice (some ⟨rb, ro + b * 4, none⟩) m (c - b)] 22)) fun e w' => ∃ v', e = .returned v' ∧ w'.ownsRow (V.alloc (.cells #[.slice (some ⟨rb, ro, none⟩) a c, .slice q n vc, .slice (some ⟨rb, ro + b * 4, none⟩) m (c - b)] 22)).heap.size 63 4 v' L (flat (ovR row (List.replicate n (32, 0, bk, 0)) a b)) ∧ Below (V.alloc (.cells #[.slice (some ⟨rb, ro, none⟩) a c, .slice q n vc, .slice (some ⟨rb, ro + b * 4, none⟩) m (c - b)] 22)).heap.size (V.alloc (.cells #[.slice (some ⟨rb, ro, none⟩) a c, .slice q n vc, .slice (some ⟨rb, ro + b * 4, none⟩) m (c - b)] 22)) w') := fun V q vc g hV hB => by
    have hM := hB.cells
    obtain ⟨bc, brest, hbv, -⟩ := hB
    injection hbv with ha _ _
    subst ha
    have key := over3 V rb ro g 0 c a b n vc L row (List.replicate n (32, 0, bk, 0)) (HCC.out.below hV) hM List.length_replicate hab hL.symm (by omega) (by omega) (ro + b * 4) (c - b) (.inl rfl)
    rw [← hm] at key
    exact key
  have b0 : Below W.heap.size W W.drew := (Below.refl _ _).drew
  have hx1 : (a : Int) ≤ (c : Int) := by omega
  have hx2 : (a : Int) ≤ (L : Int) := by omega
  have hx3 : (b : Int) ≤ (L : Int) := by omega
  have hx4 : (0 : Int) ≤ (b : Int) := by omega
  have hcI : (b : Int) < (c : Int) := by omega
  have hcN : ¬ c = b := by omega
  have hkk : L - b = m := hm.symm
  rw [← hL]
  clear hp hf he h7 hC hc hab hbl hl hcc hL hm HCC
  generalize ovR row (List.replicate n (32, 0, bk, 0)) a b = res at *
  go_enter Tryd.func147, Tryd.ntmps147
  go_upto_region 1 with fail
  go_region_held3 (fun w' => w'.cell? ⟨Bp, 0, none⟩ = some (.pointer (some ⟨p, 0, none⟩)) ∧ w'.cell? ⟨Bf, 0, none⟩ = some (.int .i64 (a : Int)) ∧ w'.cell? ⟨Be, 0, none⟩ = some (.int .i64 (b : Int)))
    (first | exact SK.out _ q3 | exact SK.out _ q2 | exact SK.out _ q1 | exact SK.out _ b0)
    (first
      | (go_at_call 137; refine (HBL.out _ b0).mono ?_; rintro e V1 ⟨q, vc, g, rfl, hg, hB, b1⟩; have q1 : Below W.heap.size W V1 := b0.trans (b1.mono b0.size); have q2 := q1.alloc q1.size (.cells #[.slice (some ⟨rb, ro, none⟩) a c, .slice q n vc, .slice (some ⟨rb, ro + b * 4, none⟩) m (c - b)] 22); have HC1 := HCN.out V1 q vc g q1 hB)
      | (go_at_call 64; (try rw [hkk]); refine HC1.mono ?_; rintro e V2 ⟨v', rfl, hO, b2⟩; have q3 : Below W.heap.size W V2 := q2.trans (b2.mono q2.size); have HFI : Hid _ := And.intro (Grd.ownsRow_mono hO q2.size) q3; obtain ⟨za, zc, hzv⟩ := own_slice hO; subst hzv))
  all_goals go_wp2_with fail
  all_goals go_ret
  all_goals exact ⟨_, rfl, HFI.out.1, HFI.out.2⟩
set_option linter.unusedVariables false in
set_option maxHeartbeats 8000000 in
set_option maxRecDepth 100000 in
theorem clear1_end (W : World) (p Bp Bf Be rb ro c a b n : Nat) (bk : Int) (row : List C) (hp : W.cell? ⟨Bp, 0, none⟩ = some (.pointer (some ⟨p, 0, none⟩))) (hf : W.cell? ⟨Bf, 0, none⟩ = some (.int .i64 (a : Int))) (he : W.cell? ⟨Be, 0, none⟩ = some (.int .i64 (b : Int))) (h7 : W.cell? ⟨p, 7, none⟩ = some (.int .i64 bk)) (hC : CellsAt W rb ro row) (hc : row.length ≤ c) (hab : a + n = b) (hbl : b ≤ row.length) (hl : row.length ≤ 120) (hcc : ¬ b < c) :
    Calls Tryd.prog 147 #[.slice (some ⟨rb, ro, none⟩) row.length c, .pointer (some ⟨Bf, 0, none⟩), .pointer (some ⟨Bp, 0, none⟩), .pointer (some ⟨Be, 0, none⟩)] W fun e W' => ∃ v', e = .returned v' ∧ W'.ownsRow W.heap.size 63 4 v' row.length (flat (ovR row (List.replicate n (32, 0, bk, 0)) a b)) ∧ Below W.heap.size W W' := by
  have SK : Hid (∀ V, Below W.heap.size W V → V.cell? ⟨Bp, 0, none⟩ = some (.pointer (some ⟨p, 0, none⟩)) ∧ V.cell? ⟨Bf, 0, none⟩ = some (.int .i64 (a : Int)) ∧ V.cell? ⟨Be, 0, none⟩ = some (.int .i64 (b : Int))) := fun V h => ⟨cell_stay h hp, cell_stay h hf, cell_stay h he⟩
  have HBL : Hid (∀ V, Below W.heap.size W V → Calls Tryd.prog 137 #[.pointer (some ⟨p, 0, none⟩), .int .i64 (n : Int)] V fun e W' => ∃ q c g, e = .returned (.slice q n c) ∧ V.heap.size ≤ g ∧ RowB W' g (.slice q n c) (List.replicate n (32, 0, bk, 0)) ∧ Below V.heap.size V W') := fun V h => blanks_all p n bk V (cell_stay h h7) (by omega)
  have hwr : IntKind.i64.wrap ((b : Int) - (a : Int)) = (n : Int) := by
    rw [wrap_id _ (by omega) (by omega)]
    omega
  have HCC : Hid (CellsAt W rb ro row) := hC
  obtain ⟨L, hL⟩ : ∃ L, L = row.length := ⟨_, rfl⟩
  have hbc : b = c := by omega
  have hbL : b = L := by omega
  subst hbc
  subst hbL
  have HCN : Hid (∀ (V : World) (q : Option Addr) (vc g : Nat), Below W.heap.size W V → RowB V g (.slice q n vc) (List.replicate n (32, 0, bk, 0)) → Calls Tryd.prog 64 #[.slice (some ⟨V.heap.size, 0, none⟩) 3 3] (V.alloc (.cells #[.slice (some ⟨rb, ro, none⟩) a b, .slice q n vc, .slice (some ⟨rb, ro, none⟩) 0 0] 22)) fun e w' => ∃ v', e = .returned v' ∧ w'.ownsRow (V.alloc (.cells #[.slice (some ⟨rb, ro, none⟩) a b, .slice q n vc, .slice (some ⟨rb, ro, none⟩) 0 0] 22)).heap.size 63 4 v' b (flat (ovR row (List.replicate n (32, 0, bk, 0)) a b)) ∧ Below (V.alloc (.cells #[.slice (some ⟨rb, ro, none⟩) a b, .slice q n vc, .slice (some ⟨rb, ro, none⟩) 0 0] 22)).heap.size (V.alloc (.cells #[.slice (some ⟨rb, ro, none⟩) a b, .slice q n vc, .slice (some ⟨rb, ro, none⟩) 0 0] 22)) w') := fun V q vc g hV hB => by
    have hM := hB.cells
    obtain ⟨bc, brest, hbv, -⟩ := hB
    injection hbv with ha _ _
    subst ha
    have key := over3 V rb ro g 0 b a b n vc b row (List.replicate n (32, 0, bk, 0)) (HCC.out.below hV) hM List.length_replicate hab hL.symm (by omega) (by omega) ro 0 (.inr rfl)
    rw [Nat.sub_self] at key
    exact key
  have b0 : Below W.heap.size W W.drew := (Below.refl _ _).drew
  have hx1 : (a : Int) ≤ (b : Int) := by omega
  have hx2 : (a : Int) ≤ (b : Int) := by omega
  have hx3 : (b : Int) ≤ (b : Int) := by omega
  have hx4 : (0 : Int) ≤ (b : Int) := by omega
  have hcI : ¬ (b : Int) < (b : Int) := by omega
  have hcN : b = b := rfl
  have hkk : b - b = 0 := Nat.sub_self _
  rw [← hL]
  clear hp hf he h7 hC hc hab hbl hl hcc hL HCC
  generalize ovR row (List.replicate n (32, 0, bk, 0)) a b = res at *
  go_enter Tryd.func147, Tryd.ntmps147
  go_upto_region 1 with fail
  go_region_held3 (fun w' => w'.cell? ⟨Bp, 0, none⟩ = some (.pointer (some ⟨p, 0, none⟩)) ∧ w'.cell? ⟨Bf, 0, none⟩ = some (.int .i64 (a : Int)) ∧ w'.cell? ⟨Be, 0, none⟩ = some (.int .i64 (b : Int)))
    (first | exact SK.out _ q3 | exact SK.out _ q2 | exact SK.out _ q1 | exact SK.out _ b0)
    (first
      | (go_at_call 137; refine (HBL.out _ b0).mono ?_; rintro e V1 ⟨q, vc, g, rfl, hg, hB, b1⟩; have q1 : Below W.heap.size W V1 := b0.trans (b1.mono b0.size); have q2 := q1.alloc q1.size (.cells #[.slice (some ⟨rb, ro, none⟩) a b, .slice q n vc, .slice (some ⟨rb, ro, none⟩) 0 0] 22); have HC1 := HCN.out V1 q vc g q1 hB)
      | (go_at_call 64; (try rw [hkk]); refine HC1.mono ?_; rintro e V2 ⟨v', rfl, hO, b2⟩; have q3 : Below W.heap.size W V2 := q2.trans (b2.mono q2.size); have HFI : Hid _ := And.intro (Grd.ownsRow_mono hO q2.size) q3; obtain ⟨za, zc, hzv⟩ := own_slice hO; subst hzv))
  all_goals go_wp2_with fail
  all_goals go_ret
  all_goals exact ⟨_, rfl, HFI.out.1, HFI.out.2⟩
theorem clear1_any (W : World) (p Bp Bf Be rb ro c a b n : Nat) (bk : Int) (row : List C) (hp : W.cell? ⟨Bp, 0, none⟩ = some (.pointer (some ⟨p, 0, none⟩))) (hf : W.cell? ⟨Bf, 0, none⟩ = some (.int .i64 (a : Int))) (he : W.cell? ⟨Be, 0, none⟩ = some (.int .i64 (b : Int))) (h7 : W.cell? ⟨p, 7, none⟩ = some (.int .i64 bk)) (hC : CellsAt W rb ro row) (hc : row.length ≤ c) (hab : a + n = b) (hbl : b ≤ row.length) (hl : row.length ≤ 120) :
    Calls Tryd.prog 147 #[.slice (some ⟨rb, ro, none⟩) row.length c, .pointer (some ⟨Bf, 0, none⟩), .pointer (some ⟨Bp, 0, none⟩), .pointer (some ⟨Be, 0, none⟩)] W fun e W' => ∃ v', e = .returned v' ∧ W'.ownsRow W.heap.size 63 4 v' row.length (flat (ovR row (List.replicate n (32, 0, bk, 0)) a b)) ∧ Below W.heap.size W W' := by
  by_cases hcc : b < c
  · exact clear1_in W p Bp Bf Be rb ro c a b n bk row hp hf he h7 hC hc hab hbl hl hcc
  · exact clear1_end W p Bp Bf Be rb ro c a b n bk row hp hf he h7 hC hc hab hbl hl hcc
end Put
end Go.Proofs.YtnkeahfcpbepjaaDoor

/- (*sheet.Sheet).Clear. -/
namespace Go.Proofs.YtnkeahfcpbepjaaDoor
open Go.ChangeShapes Go.WideShapes Go.ChangeAt Go.RowKit
namespace Put
open Grd (C SliceAt CellsAt gridErr z0 nilV flat rowsL OwnG RowB)
open Sty (isSt)
theorem alloc3c (w : World) (o0 o1 o2 : Obj) : (((w.alloc o0).alloc o1).alloc o2).heap[w.heap.size]? = some o0 ∧ (((w.alloc o0).alloc o1).alloc o2).heap[w.heap.size + 1]? = some o1 ∧
    (((w.alloc o0).alloc o1).alloc o2).heap[w.heap.size + 2]? = some o2 ∧
    Below w.heap.size w (((w.alloc o0).alloc o1).alloc o2) ∧ (((w.alloc o0).alloc o1).alloc o2).heap.size = w.heap.size + 3 := by
  have s1 : (w.alloc o0).heap.size = w.heap.size + 1 := by simp
  have s2 : ((w.alloc o0).alloc o1).heap.size = w.heap.size + 2 := by simp
  refine ⟨?_, ?_, ?_, (((Below.refl _ _).alloc (Nat.le_refl _) _).alloc (by omega) _).alloc (by omega) _, by simp⟩
  · rw [Below.heap_alloc _ _ _ (by omega), Below.heap_alloc _ _ _ (by omega), heap_alloc_new]
  · rw [Below.heap_alloc _ _ _ (by omega), ← s1, heap_alloc_new]
  · rw [← s2, heap_alloc_new]
theorem cell_one'' {W : World} {R : Nat} {v : Value} {t : TypeId} (h : W.heap[R]? = some (.cells #[v] t (0, 0))) : W.cell? ⟨R, 0, none⟩ = some v := by simp [World.cell?, h]
theorem plain_clear : Plain 147 := by
  intro args W
  kernel_rfl
theorem wipe_ov (bk : Int) (row : List C) (a b : Nat) (h : a ≤ b) (hb : b ≤ row.length) : wipeRow bk row a b = Grd.mendL (ovR row (List.replicate (b - a) (32, 0, bk, 0)) a b) := by
  unfold wipeRow
  have hl : a + (List.replicate (b - a) ((32, 0, bk, 0) : C)).length = b := by rw [List.length_replicate]; omega
  refine congrArg Grd.mendL (Grd.ext_getD _ _ (by rw [Grd.putRow_len, ovR_len _ _ _ _ hl hb]) fun j hj => ?_)
  rw [Grd.putRow_len] at hj
  rw [ovR_at _ _ _ _ hl hb, Grd.putRow_at _ _ _ _ hj]
  by_cases h1 : j < a
  · rw [if_neg (by simp; omega), if_pos h1]
  · rw [if_neg h1]
    by_cases h2 : j < b
    · rw [if_pos (by simp; omega), if_pos h2]
      simp only [List.getD]
      rw [List.getElem?_replicate, if_pos (by omega)]
      rfl
    · rw [if_neg (by simp; omega), if_neg h2]
theorem ov_alike (bk : Int) (row : List C) (a b : Nat) (h : a ≤ b) (hb : b ≤ row.length) (hr : Grd.RightRow row) (hs : isSt (0, bk, 0) = true) : Grd.Alike (ovR row (List.replicate (b - a) (32, 0, bk, 0)) a b) := by
  have hl : a + (List.replicate (b - a) ((32, 0, bk, 0) : C)).length = b := by rw [List.length_replicate]; omega
  have e : ovR row (List.replicate (b - a) (32, 0, bk, 0)) a b = Grd.putRow row (fun x => decide (a ≤ x ∧ x < b)) fun _ => (32, 0, bk, 0) := by
    refine Grd.ext_getD _ _ (by rw [Grd.putRow_len, ovR_len _ _ _ _ hl hb]) fun j hj => ?_
    rw [ovR_len _ _ _ _ hl hb] at hj
    rw [ovR_at _ _ _ _ hl hb, Grd.putRow_at _ _ _ _ hj]
    by_cases h1 : j < a
    · rw [if_neg (show ¬ (decide (a ≤ j ∧ j < b) = true) by simp; omega), if_pos h1]
    · rw [if_neg h1]
      by_cases h2 : j < b
      · rw [if_pos (show decide (a ≤ j ∧ j < b) = true by simp; omega), if_pos h2]
        simp only [List.getD]
        rw [List.getElem?_replicate, if_pos (by omega)]
        rfl
      · rw [if_neg (show ¬ (decide (a ≤ j ∧ j < b) = true) by simp; omega), if_neg h2]
  rw [e]
  exact (Grd.meant_fill row _ _ hr.1 Grd.wd32 hs).alike
set_option maxHeartbeats 4000000 in
set_option maxRecDepth 100000 in
theorem clear_any (W : World) (M N p : Nat) (s : Scr) (rows : List (List C)) (hT : Txt.Tab W) (hSt : ShAt 109 W M N p s rows)
    (n y a b : Nat) (hy : y < rows.length) (row : List C) (hrow : rows.getD y [] = row) (hn1 : 1 ≤ n) (hn2 : n ≤ 120) (hrn : row.length = n) (hz : gridErr n 1 row = 0) (hst : isSt (0, s.sb, 0) = true) (hab : a ≤ b) (hb : b ≤ n) :
    Calls Tryd.prog 126 #[.pointer (some ⟨p, 0, none⟩), .int .i64 (y : Int), .int .i64 (a : Int), .int .i64 (b : Int)] W (Ran W M N p s (rows.set y (wipeRow s.sb row a b))) := by
  obtain ⟨cv, tv, gv, rv, gvs, vs, hS⟩ := hSt
  have kb : Below W.heap.size W (((W.alloc (.cells #[.pointer (some ⟨p, 0, none⟩)] 82)).alloc (.cells #[.int .i64 (a : Int)] 3)).alloc (.cells #[.int .i64 (b : Int)] 3)) := (((Below.refl _ _).alloc (Nat.le_refl _) _).alloc (by simp) _).alloc (by simp; omega) _
  obtain ⟨hx0, hx1, hx2, -⟩ := alloc3c W (.cells #[.pointer (some ⟨p, 0, none⟩)] 82) (.cells #[.int .i64 (a : Int)] 3) (.cells #[.int .i64 (b : Int)] 3)
  have hrr := row_grid n row hrn hz
  have hlen := ovR_len row (List.replicate (b - a) (32, 0, s.sb, 0)) a b (by rw [List.length_replicate]; omega) (by omega)
  have HA : Hid (∀ X, Below W.heap.size W X → X.cell? ⟨W.heap.size, 0, none⟩ = some (.pointer (some ⟨p, 0, none⟩)) → X.cell? ⟨W.heap.size + 1, 0, none⟩ = some (.int .i64 (a : Int)) → X.cell? ⟨W.heap.size + 2, 0, none⟩ = some (.int .i64 (b : Int)) → Calls Tryd.prog 135 #[.pointer (some ⟨p, 0, none⟩), .int .i64 (y : Int), .func (.func 147) #[] #[.pointer (some ⟨W.heap.size + 1, 0, none⟩), .pointer (some ⟨W.heap.size, 0, none⟩), .pointer (some ⟨W.heap.size + 2, 0, none⟩)]] X (Ran X M N p s (rows.set y (wipeRow s.sb row a b)))) := fun X hX q1 q2 q3 => by
    rw [wipe_ov _ _ _ _ (by omega) (by omega)]
    refine relay_any X M N p s rows cv tv gv rv gvs vs (hS.next hX) (Grd.Tab.next hT hX) y hy _ plain_clear _ _ (fun W1 hW1 => ?_) (ov_alike _ _ _ _ (by omega) (by omega) hrr hst) (by rw [hlen]; omega)
    have hS1 := (hS.next hX).next hW1
    have hri := hS1.rin.2 y hy
    rw [hrow] at hri
    obtain ⟨⟨-, -, -, -, -, -, -, c7, -⟩, -, -⟩ := sh_cells hS1.blk
    rcases hri with ⟨he, -⟩ | ⟨hne, bb, o, c, hv, hc1, hc2, hC, -⟩
    · have h5 := congrArg List.length he
      rw [List.length_nil] at h5
      omega
    · rw [hv]
      refine (clear1_any W1 p W.heap.size (W.heap.size + 1) (W.heap.size + 2) bb o c a b (b - a) s.sb row (cell_stay hW1 q1) (cell_stay hW1 q2) (cell_stay hW1 q3) c7 hC hc1 (by omega) (by omega) (by omega)).mono ?_
      rintro e W2 ⟨v', rfl, hO, b2⟩
      have hO2 : W2.ownsRow W1.heap.size 63 4 v' (ovR row (List.replicate (b - a) (32, 0, s.sb, 0)) a b).length (flat (ovR row (List.replicate (b - a) (32, 0, s.sb, 0)) a b)) := by rw [hlen]; exact hO
      rcases OwnC.of hO2 with ⟨he, -⟩ | ⟨g, cap, rest, ⟨t, ht⟩, hv', hg1, hg2, hg3, hg4⟩
      · have h5 := congrArg List.length he
        rw [hlen, List.length_nil] at h5
        omega
      · subst ht
        rw [hv']
        exact ⟨g, cap, rest, rfl, hg1, hg2, hg3, hg4, b2⟩
  have HP0 : Hid _ := hx0
  have q1 := cell_one'' hx0
  have q2 := cell_one'' hx1
  have q3 := cell_one'' hx2
  have HKB : Hid _ := kb
  have hNW : N ≤ W.heap.size := by have := hS.lo; have := heap_lt hS.blk; omega
  clear hS hT hrow hz hst kb hx0 hx1 hx2 hrr hlen
  go_enter Tryd.func126, Tryd.ntmps126
  go_upto_region 1 with fail
  generalize (((W.alloc (.cells #[.pointer (some ⟨p, 0, none⟩)] 82)).alloc (.cells #[.int .i64 (a : Int)] 3)).alloc (.cells #[.int .i64 (b : Int)] 3)) = X at *
  go_wp2_with fail
  refine (HA.out _ HKB.out q1 q2 q3).mono ?_
  rintro e V ⟨rfl, hSV, hBV, hFV⟩
  have HSV : Hid _ := hSV
  have HBV : Hid _ := hBV
  have HFV : Hid _ := hFV
  clear hSV hBV hFV q1 q2 q3
  go_wp2_with fail
  go_end0
  exact ⟨rfl, HSV.out, (HKB.out.mono hNW).trans HBV.out, (Framed.of_below HKB.out).trans HFV.out⟩
end Put
end Go.Proofs.YtnkeahfcpbepjaaDoor

/- Package wipe: span, clearLine, clearRows, and the closures that use them. -/
namespace Go.Proofs.YtnkeahfcpbepjaaDoor
open Go.ChangeShapes Go.WideShapes Go.ChangeAt Go.RowKit
namespace Put
open Grd (C SliceAt CellsAt gridErr z0 nilV flat rowsL RightRow)
open Sty (isSt)
/-- Rows that are right ones, so wide. -/
def RightRows (n : Nat) (rows : List (List C)) : Prop := ∀ i, i < rows.length → (rows.getD i []).length = n ∧ RightRow (rows.getD i [])
theorem rightRows_of {s : Scr} {n hh : Nat} (h : RightS s n hh) : RightRows n (rowsL n s.cs hh) := fun i hi => by
  rw [Grd.rowsL_len] at hi
  have e2 : (rowsL n s.cs hh).getD i [] = Grd.rowAt n s.cs i := by simp [rowsL, List.getD, hi]
  rw [e2]
  exact ⟨Grd.row_len n hh s.cs i h.cl hi, ((Grd.gridErr_zero n hh s.cs).1 h.gz).2.2 i hi⟩
theorem RightRows.set {n : Nat} {rows : List (List C)} (h : RightRows n rows) (k : Nat) (row : List C) (hl : row.length = n) (hr : RightRow row) : RightRows n (rows.set k row) := fun i hi => by
  rw [List.length_set] at hi
  by_cases e : i = k
  · subst e
    rw [getD_set_same _ _ _ _ hi]
    exact ⟨hl, hr⟩
  · rw [getD_set_ne _ _ _ _ _ e]
    exact h i hi
theorem one_row (n : Nat) (row : List C) (hn1 : 1 ≤ n) (hn2 : n ≤ 120) (hl : row.length = n) (hr : RightRow row) : gridErr n 1 row = 0 := by
  refine (Grd.gridErr_zero n 1 row).2 ⟨?_, by omega, fun y hy => ?_⟩
  · simp [Grd.isSize]
    omega
  · have e : y = 0 := by omega
    subst e
    have e2 : Grd.rowAt n row 0 = row := by
      unfold Grd.rowAt
      rw [Nat.zero_mul, List.drop_zero, List.take_of_length_le (by omega)]
    rw [e2]
    exact hr
theorem back_style {s : Scr} {n hh : Nat} (h : RightS s n hh) : isSt (0, s.sb, 0) = true := by
  have h1 := h.looks
  simp only [looksOk, Bool.and_eq_true] at h1
  have h2 := h1.1
  simp only [isSt, decide_eq_true_eq] at h2 ⊢
  omega
/-- From where, and up to where. -/
def spanA (k : Int) (at' size : Nat) : Nat × Nat := if k ≤ 0 then (at', size) else if k = 1 then (0, at' + 1) else if k = 2 then (0, size) else (0, 0)
theorem span_any (k : Int) (x n : Nat) (hx : x ≤ 120) (w : World) : Calls Tryd.prog 125 #[.int .i64 k, .int .i64 (x : Int), .int .i64 (n : Int)] w fun e w' => e = .returned (.tuple #[.int .i64 ((spanA k x n).1 : Nat), .int .i64 ((spanA k x n).2 : Nat)]) ∧ w = w' := by
  by_cases k0 : k ≤ 0
  · have e : spanA k x n = (x, n) := by unfold spanA; rw [if_pos k0]
    rw [e]
    clear e
    go_enter Tryd.func125, Tryd.ntmps125
    go_wp2_with fail
    go_ret2
    exact ⟨rfl, rfl⟩
  · by_cases k1 : k = 1
    · have e : spanA k x n = (0, x + 1) := by unfold spanA; rw [if_neg k0, if_pos k1]
      rw [e]
      clear e k0
      subst k1
      go_enter Tryd.func125, Tryd.ntmps125
      go_wp2_with fail
      go_ret2
      exact ⟨rfl, rfl⟩
    · by_cases k2 : k = 2
      · have e : spanA k x n = (0, n) := by unfold spanA; rw [if_neg k0, if_neg k1, if_pos k2]
        rw [e]
        clear e k0 k1
        subst k2
        go_enter Tryd.func125, Tryd.ntmps125
        go_wp2_with fail
        go_ret2
        exact ⟨rfl, rfl⟩
      · have e : spanA k x n = (0, 0) := by unfold spanA; rw [if_neg k0, if_neg k1, if_neg k2]
        have q1 : (k == 1) = false := by rw [beq_eq_false_iff_ne]; exact k1
        have q2 : (k == 2) = false := by rw [beq_eq_false_iff_ne]; exact k2
        rw [e]
        clear e k1 k2
        go_enter Tryd.func125, Tryd.ntmps125
        go_wp2_with fail
        go_ret2
        exact ⟨rfl, rfl⟩
theorem span_ord (k : Int) (x n : Nat) (hx : x < n) : (spanA k x n).1 ≤ (spanA k x n).2 := by
  unfold spanA
  repeat' split
  all_goals (dsimp only; omega)
theorem span_le (k : Int) (x n : Nat) (hx : x < n) : (spanA k x n).1 ≤ n ∧ (spanA k x n).2 ≤ n := by
  unfold spanA
  split
  · exact ⟨by show x ≤ n; omega, Nat.le_refl _⟩
  · split
    · exact ⟨by show 0 ≤ n; omega, by show x + 1 ≤ n; omega⟩
    · split
      · exact ⟨by show 0 ≤ n; omega, Nat.le_refl _⟩
      · exact ⟨by show 0 ≤ n; omega, by show 0 ≤ n; omega⟩
/-- A row that a kind reaches, wiped. -/
def lineRow (s : Scr) (k : Int) (x n : Nat) (row : List C) : List C := wipeRow s.sb row (spanA k x n).1 (spanA k x n).2
set_option maxHeartbeats 4000000 in
theorem clearLine_any (W : World) (M N p : Nat) (s : Scr) (rows : List (List C)) (hT : Txt.Tab W) (hS : ShAt 109 W M N p s rows) (n y x : Nat) (k : Int) (hw : s.w = n) (hy : s.y = y) (hx : s.x = x) (hyl : y < rows.length) (hxn : x < n) (hn1 : 1 ≤ n) (hn2 : n ≤ 120) (hR : RightRows n rows) (hst : isSt (0, s.sb, 0) = true) :
    Calls Tryd.prog 81 #[.pointer (some ⟨p, 0, none⟩), .int .i64 k] W (Ran W M N p s (rows.set y (lineRow s k x n (rows.getD y [])))) := by
  obtain ⟨c0, c1, c3, c4, c5, c9, c10, c11, c19, f⟩ := hS.words
  have hsp := span_le k x n hxn
  have HSP : Hid (∀ W, Calls Tryd.prog 125 #[.int .i64 k, .int .i64 (x : Int), .int .i64 (n : Int)] W fun e w' => e = .returned (.tuple #[.int .i64 ((spanA k x n).1 : Nat), .int .i64 ((spanA k x n).2 : Nat)]) ∧ W = w') := fun W => span_any k x n (by omega) W
  have HCL : Hid (∀ V, Below W.heap.size W V → Calls Tryd.prog 126 #[.pointer (some ⟨p, 0, none⟩), .int .i64 (y : Int), .int .i64 ((spanA k x n).1 : Nat), .int .i64 ((spanA k x n).2 : Nat)] V (Ran V M N p s (rows.set y (lineRow s k x n (rows.getD y []))))) := fun V hV => clear_any V M N p s rows (Grd.Tab.next hT hV) (hS.next hV) n y _ _ hyl _ rfl hn1 hn2 (hR y hyl).1 (one_row n _ hn1 hn2 (hR y hyl).1 (hR y hyl).2) hst (span_ord k x n hxn) hsp.2
  have hNW : N ≤ W.heap.size := by
    obtain ⟨_, _, _, _, _, _, hA⟩ := hS
    have := hA.lo
    have := heap_lt hA.blk
    omega
  rw [hw] at c0
  rw [hx] at c3
  rw [hy] at c4
  clear c1 c5 c9 c10 c11 c19 f hT hS hR hsp hw hx hy
  generalize (spanA k x n).1 = a at *
  generalize (spanA k x n).2 = b at *
  generalize rows.set y (lineRow s k x n (rows.getD y [])) = rows' at *
  go_enter Tryd.func81, Tryd.ntmps81
  go_upto_region 0 with fail
  go_region_held3 (fun w' => w'.cell? ⟨p, 3, none⟩ = some (.int .i64 (x : Int)) ∧ w'.cell? ⟨p, 0, none⟩ = some (.int .i64 (n : Int))) (go_keep) (first | (go_at_call 125; refine (HSP.out _).mono ?_; rintro e V ⟨rfl, hv⟩; subst hv))
  go_wp2_with fail
  refine (HCL.out _ ((Below.refl _ _).drew)).mono ?_
  rintro e V ⟨rfl, hSV, hBV, hFV⟩
  have HSV : Hid _ := hSV
  have HBV : Hid (Below N W V) := ((Below.refl _ _).drew).trans hBV
  have HFV : Hid (Framed W V) := (Framed.of_below ((Below.refl _ _).drew)).trans hFV
  clear hSV hBV hFV
  go_wp2_with fail
  go_end0
  exact ⟨rfl, HSV.out, HBV.out, HFV.out⟩
/-- Rows from one up to another, but not that of the cursor, blank. -/
def wipeTo (rows : List (List C)) (n : Nat) (bk : Int) (a k y : Nat) : List (List C) := (List.range rows.length).map fun i => if a ≤ i ∧ i < k ∧ i ≠ y then List.replicate n (32, 0, bk, 0) else rows.getD i []
theorem wipeTo_len (rows : List (List C)) (n : Nat) (bk : Int) (a k y : Nat) : (wipeTo rows n bk a k y).length = rows.length := by simp [wipeTo]
theorem wipeTo_get (rows : List (List C)) (n : Nat) (bk : Int) (a k y i : Nat) (hi : i < rows.length) : (wipeTo rows n bk a k y).getD i [] = if a ≤ i ∧ i < k ∧ i ≠ y then List.replicate n (32, 0, bk, 0) else rows.getD i [] := by
  simp [wipeTo, List.getD, hi]
theorem rows_ext {a b : List (List C)} (hl : a.length = b.length) (h : ∀ i, i < a.length → a.getD i [] = b.getD i []) : a = b := by
  apply List.ext_getElem hl
  intro i h1 h2
  have := h i h1
  simpa [List.getD, h1, h2] using this
theorem wipeTo_start (rows : List (List C)) (n : Nat) (bk : Int) (a y : Nat) : wipeTo rows n bk a a y = rows := by
  refine rows_ext (wipeTo_len _ _ _ _ _ _) fun i hi => ?_
  rw [wipeTo_len] at hi
  rw [wipeTo_get _ _ _ _ _ _ _ hi, if_neg (by omega)]
theorem wipeTo_same (rows : List (List C)) (n : Nat) (bk : Int) (a k : Nat) : wipeTo rows n bk a (k + 1) k = wipeTo rows n bk a k k := by
  refine rows_ext (by rw [wipeTo_len, wipeTo_len]) fun i hi => ?_
  rw [wipeTo_len] at hi
  rw [wipeTo_get _ _ _ _ _ _ _ hi, wipeTo_get _ _ _ _ _ _ _ hi]
  by_cases h : a ≤ i ∧ i < k ∧ i ≠ k
  · rw [if_pos h, if_pos (by omega)]
  · rw [if_neg h, if_neg (by omega)]
theorem wipeTo_next (rows : List (List C)) (n : Nat) (bk : Int) (a k y : Nat) (hk : k < rows.length) (ha : a ≤ k) (hy : k ≠ y) : (wipeTo rows n bk a k y).set k (List.replicate n (32, 0, bk, 0)) = wipeTo rows n bk a (k + 1) y := by
  refine rows_ext (by rw [List.length_set, wipeTo_len, wipeTo_len]) fun i hi => ?_
  rw [List.length_set, wipeTo_len] at hi
  by_cases e : i = k
  · subst e
    rw [getD_set_same _ _ _ _ (by rw [wipeTo_len]; exact hi), wipeTo_get _ _ _ _ _ _ _ hi, if_pos (by omega)]
  · rw [getD_set_ne _ _ _ _ _ e, wipeTo_get _ _ _ _ _ _ _ hi, wipeTo_get _ _ _ _ _ _ _ hi]
    by_cases h : a ≤ i ∧ i < k ∧ i ≠ y
    · rw [if_pos h, if_pos (by omega)]
    · rw [if_neg h, if_neg (by omega)]
theorem blank_right (n : Nat) (bk : Int) (hs : isSt (0, bk, 0) = true) : RightRow (List.replicate n ((32, 0, bk, 0) : C)) := by
  have h := wipe_right bk (List.replicate n ((32, 0, 0, 0) : C)) 0 n (Grd.replicate_right n) hs
  rw [wipe_whole bk _ n (by rw [List.length_replicate]; exact Nat.le_refl _), List.length_replicate] at h
  exact h
theorem wipeTo_right (rows : List (List C)) (n : Nat) (bk : Int) (a k y : Nat) (h : RightRows n rows) (hs : isSt (0, bk, 0) = true) : RightRows n (wipeTo rows n bk a k y) := fun i hi => by
  rw [wipeTo_len] at hi
  rw [wipeTo_get _ _ _ _ _ _ _ hi]
  split
  · exact ⟨List.length_replicate, blank_right n bk hs⟩
  · exact h i hi
set_option maxHeartbeats 4000000 in
theorem clearRows_any (W : World) (M N p : Nat) (s : Scr) (rows : List (List C)) (hT : Txt.Tab W) (hTN : 2 < N) (hS : ShAt 109 W M N p s rows) (n hh y : Nat) (k : Int) (hw : s.w = n) (hh' : s.h = hh) (hy : s.y = y) (hrl : rows.length = hh) (hyl : y < hh) (hhl : hh ≤ 60) (hn1 : 1 ≤ n) (hn2 : n ≤ 120) (hR : RightRows n rows) (hst : isSt (0, s.sb, 0) = true) :
    Calls Tryd.prog 82 #[.pointer (some ⟨p, 0, none⟩), .int .i64 k] W (Ran W M N p s (wipeTo rows n s.sb (spanA k y hh).1 (spanA k y hh).2 y)) := by
  obtain ⟨c0, c1, c3, c4, c5, c9, c10, c11, c19, f⟩ := hS.words
  have hsp := span_le k y hh hyl
  have HSP : Hid (∀ W, Calls Tryd.prog 125 #[.int .i64 k, .int .i64 (y : Int), .int .i64 (hh : Int)] W fun e w' => e = .returned (.tuple #[.int .i64 ((spanA k y hh).1 : Nat), .int .i64 ((spanA k y hh).2 : Nat)]) ∧ W = w') := fun W => span_any k y hh (by omega) W
  have hmono : (spanA k y hh).1 ≤ (spanA k y hh).2 := by
    unfold spanA
    split
    · show y ≤ hh
      omega
    · split
      · show 0 ≤ y + 1
        omega
      · split
        · show 0 ≤ hh
          omega
        · exact Nat.le_refl _
  rw [hh'] at c1
  rw [hy] at c4
  have HSW : Hid (s.w = n ∧ s.y = y) := ⟨hw, hy⟩
  have HRR : Hid (RightRows n rows) := hR
  have HT : Hid (Txt.Tab W) := hT
  have HS : Hid (ShAt 109 W M N p s rows) := hS
  clear c0 c3 c5 c9 c10 c11 c19 f hT hS hR hw hh' hy
  generalize (spanA k y hh).1 = a at *
  generalize (spanA k y hh).2 = b at *
  go_enter Tryd.func82, Tryd.ntmps82
  go_upto_region 0 with fail
  go_region_held3 (fun w' => w'.cell? ⟨p, 4, none⟩ = some (.int .i64 (y : Int)) ∧ w'.cell? ⟨p, 1, none⟩ = some (.int .i64 (hh : Int))) (go_keep) (first | (go_at_call 125; refine (HSP.out _).mono ?_; rintro e V ⟨rfl, hv⟩; subst hv))
  go_wp2_with fail
  clear c1 c4
  go_loopg [6] hh (fun q i wr => ∃ j : Nat, i = .int .i64 (j : Int) ∧ a ≤ j ∧ j ≤ b ∧ b - j ≤ q ∧ ShAt 109 wr M N p s (wipeTo rows n s.sb a j y) ∧ Below N W wr ∧ Framed W wr ∧ Txt.Tab wr)
  case atStart => exact ⟨a, rfl, Nat.le_refl _, hmono, by omega, by rw [wipeTo_start]; exact HS.out.drew, (Below.refl _ _).drew, Framed.of_below ((Below.refl _ _).drew), Grd.Tab.next HT.out ((Below.refl _ _).drew)⟩
  case round =>
    obtain ⟨j, rfl, hj1, hj2, hq, hSj, hBj, hFj, hTj⟩ := hrel
    by_cases hlt : j < b
    · have lt1 : (j : Int) < (b : Int) := by omega
      obtain ⟨c0, c1, c3, c4, c5, c9, c10, c11, c19, f⟩ := hSj.words
      rw [HSW.out.1] at c0
      rw [HSW.out.2] at c4
      have HBJ : Hid (Below N W wr) := hBj
      have HFJ : Hid (Framed W wr) := hFj
      have HTJ : Hid (Txt.Tab wr) := hTj
      have HSJ : Hid (ShAt 109 wr M N p s (wipeTo rows n s.sb a j y)) := hSj
      clear c1 c3 c5 c9 c10 c11 c19 f hSj hBj hFj hTj
      by_cases hjy : j = y
      · have hb : ((j : Int) != (y : Int)) = false := by rw [bne_eq_false_iff_eq]; omega
        have HJY : Hid (j = y) := hjy
        clear hjy
        go_wp2_with fail
        go_roundg (b - (j + 1))
        case measure => omega
        case rel =>
          refine ⟨j + 1, by go_num, by omega, by omega, by omega, ?_, HBJ.out, HFJ.out, HTJ.out⟩
          have h := HSJ.out
          rw [← HJY.out] at h ⊢
          rw [wipeTo_same]
          exact h
      · have hb : ((j : Int) != (y : Int)) = true := by rw [bne_iff_ne]; omega
        have HCL := clear_any wr M N p s _ HTJ.out HSJ.out n j 0 n (by rw [wipeTo_len]; omega) _ rfl hn1 hn2 (wipeTo_right rows n s.sb a j y HRR.out hst j (by rw [wipeTo_len]; omega)).1 (one_row n _ hn1 hn2 (wipeTo_right rows n s.sb a j y HRR.out hst j (by rw [wipeTo_len]; omega)).1 (wipeTo_right rows n s.sb a j y HRR.out hst j (by rw [wipeTo_len]; omega)).2) hst (by omega) (Nat.le_refl _)
        have hlen := (wipeTo_right rows n s.sb a j y HRR.out hst j (by rw [wipeTo_len]; omega)).1
        rw [wipe_whole s.sb _ n (by omega), hlen, wipeTo_next rows n s.sb a j y (by omega) hj1 hjy] at HCL
        clear hjy hlen
        go_wp2_with fail
        refine HCL.mono ?_
        rintro e V ⟨rfl, hSV, hBV, hFV⟩
        have HSV : Hid _ := hSV
        have HBV : Hid (Below N W V) := HBJ.out.trans hBV
        have HFV : Hid (Framed W V) := HFJ.out.trans hFV
        have HTV : Hid (Txt.Tab V) := HTJ.out.below hBV hTN
        clear hSV hBV hFV HCL
        go_wp2_with fail
        go_roundg (b - (j + 1))
        case measure => omega
        case rel => exact ⟨j + 1, by go_num, by omega, by omega, by omega, HSV.out, HBV.out, HFV.out, HTV.out⟩
    · have lt1 : ¬ (j : Int) < (b : Int) := by omega
      have hjb : j = b := by omega
      subst hjb
      clear hTj
      go_wp2_with fail
      go_end0
      exact ⟨rfl, hSj, hBj, hFj⟩
end Put
end Go.Proofs.YtnkeahfcpbepjaaDoor

/- wipe.change: a screen is checked, and changed. -/
namespace Go.Proofs.YtnkeahfcpbepjaaDoor
set_option linter.unusedVariables false
open Go.ChangeShapes Go.WideShapes Go.ChangeAt Go.RowKit
namespace Put
open Grd (C SliceAt CellsAt gridErr z0 nilV flat rowsL)
theorem kf_ofw {w V : World} {s : Scr} {cv tv gv : Value} {A : Array Value} {t t' : TypeId} (hb : Below w.heap.size w V) (h0 : V.heap[w.heap.size]? = some (.cells (scrA s cv tv gv) t (0, 0))) (h1 : V.heap[w.heap.size + 1]? = some (.cells A t' (0, 0))) {s' : Scr} {cv' tv' gv' : Value} :
    Below w.heap.size w (V.setRow (w.heap.size + 1) (scrA s' cv' tv' gv')) ∧ ScrPtr (V.setRow (w.heap.size + 1) (scrA s' cv' tv' gv')) (.pointer (some ⟨w.heap.size, 0, none⟩)) ∧ blkAt (V.setRow (w.heap.size + 1) (scrA s' cv' tv' gv')) (.pointer (some ⟨w.heap.size, 0, none⟩)) = scrA s cv tv gv ∧ ScrPtr0 (V.setRow (w.heap.size + 1) (scrA s' cv' tv' gv')) (.pointer (some ⟨w.heap.size + 1, 0, none⟩)) := by
  have h2 : (V.setRow (w.heap.size + 1) (scrA s' cv' tv' gv')).heap[w.heap.size]? = _ := (setRow_other _ _ _ _ (by omega)).trans h0
  have h3 := setRow_heap V (w.heap.size + 1) A (scrA s' cv' tv' gv') t' _ h1
  exact ⟨below_setRow hb (by omega) _, (scrPtr_of h2).1, (scrPtr_of h2).2, scrPtr0_of h3 rfl⟩
section
attribute [local go_sem ↓] load_scr store_scr
attribute [local go_sem] isScrS ptrBlk_at aggOf_agg
set_option maxHeartbeats 4000000 in
set_option maxRecDepth 100000 in
theorem wchange_any (s s' : Scr) (cv tv gv : Value) (df : FuncId) (caps : Array Value) (w0 w : World) (hT : Txt.Tab w) (hV : ScrV w0 s cv tv gv) (hb0 : Below w0.heap.size w0 w) (hF : Fits s)
    (hCH : ∀ W, Below w.heap.size w W → Calls Tryd.prog 57 #[.agg (scrA s cv tv gv), .int .i64 (scrErr s), .func (.func df) #[] caps] W (Made w0 W s' (scrErr s))) :
    Calls Tryd.prog 83 #[.agg (scrA s cv tv gv), .func (.func df) #[] caps] w (Made w0 w s' (scrErr s)) := by
  obtain ⟨ca, cc, rfl⟩ := hV.c.shape
  obtain ⟨ta, tc, rfl⟩ := hV.t.slice
  obtain ⟨ga, gc, rfl⟩ := hV.g.slice
  have hx0 : ((w.alloc (.cells (scrA s (.slice ca s.cs.length cc) (.slice ta s.tabs.length tc) (.slice ga s.gone.length gc)) 32)).alloc (.cells #[.int .i64 0, .int .i64 0, .slice none 0 0, .int .i64 0, .int .i64 0, .bool false, .int .i64 0, .int .i64 0, .int .i64 0, .int .i64 0, .int .i64 0, .int .i64 0, .slice none 0 0, .int .i64 0, .int .i64 0, .int .i64 0, .int .i64 0, .int .i64 0, .int .i64 0, .int .i32 0, .string ⟨#[]⟩, .slice none 0 0] 32)).heap[w.heap.size]? = some (.cells (scrA s (.slice ca s.cs.length cc) (.slice ta s.tabs.length tc) (.slice ga s.gone.length gc)) 32 (0, 0)) := (Below.heap_alloc _ _ _ (by simp)).trans (heap_alloc_new _ _)
  have hx1 : ((w.alloc (.cells (scrA s (.slice ca s.cs.length cc) (.slice ta s.tabs.length tc) (.slice ga s.gone.length gc)) 32)).alloc (.cells #[.int .i64 0, .int .i64 0, .slice none 0 0, .int .i64 0, .int .i64 0, .bool false, .int .i64 0, .int .i64 0, .int .i64 0, .int .i64 0, .int .i64 0, .int .i64 0, .slice none 0 0, .int .i64 0, .int .i64 0, .int .i64 0, .int .i64 0, .int .i64 0, .int .i64 0, .int .i32 0, .string ⟨#[]⟩, .slice none 0 0] 32)).heap[w.heap.size + 1]? = some (.cells #[.int .i64 0, .int .i64 0, .slice none 0 0, .int .i64 0, .int .i64 0, .bool false, .int .i64 0, .int .i64 0, .int .i64 0, .int .i64 0, .int .i64 0, .int .i64 0, .slice none 0 0, .int .i64 0, .int .i64 0, .int .i64 0, .int .i64 0, .int .i64 0, .int .i64 0, .int .i32 0, .string ⟨#[]⟩, .slice none 0 0] 32 (0, 0)) := heap_alloc2_new w _ _
  have hkb : Below w.heap.size w ((w.alloc (.cells (scrA s (.slice ca s.cs.length cc) (.slice ta s.tabs.length tc) (.slice ga s.gone.length gc)) 32)).alloc (.cells #[.int .i64 0, .int .i64 0, .slice none 0 0, .int .i64 0, .int .i64 0, .bool false, .int .i64 0, .int .i64 0, .int .i64 0, .int .i64 0, .int .i64 0, .int .i64 0, .slice none 0 0, .int .i64 0, .int .i64 0, .int .i64 0, .int .i64 0, .int .i64 0, .int .i64 0, .int .i32 0, .string ⟨#[]⟩, .slice none 0 0] 32)) := ((Below.refl _ _).alloc (Nat.le_refl _) _).alloc (by simp) _
  have hsz : ((w.alloc (.cells (scrA s (.slice ca s.cs.length cc) (.slice ta s.tabs.length tc) (.slice ga s.gone.length gc)) 32)).alloc (.cells #[.int .i64 0, .int .i64 0, .slice none 0 0, .int .i64 0, .int .i64 0, .bool false, .int .i64 0, .int .i64 0, .int .i64 0, .int .i64 0, .int .i64 0, .int .i64 0, .slice none 0 0, .int .i64 0, .int .i64 0, .int .i64 0, .int .i64 0, .int .i64 0, .int .i64 0, .int .i32 0, .string ⟨#[]⟩, .slice none 0 0] 32)).heap.size = w.heap.size + 2 := by simp
  have HX0 : Hid _ := hx0
  have HX1 : Hid _ := hx1
  have HKB : Hid _ := hkb
  have HSZ : Hid _ := hsz
  have HCK : Hid (∀ W, Below w.heap.size w W → Calls Tryd.prog 12 #[.agg (scrA s (.slice ca s.cs.length cc) (.slice ta s.tabs.length tc) (.slice ga s.gone.length gc))] W fun e w' => e = .returned (.int .i64 (scrErr s)) ∧ Below W.heap.size W w') := fun W hW => putCheck_any s _ _ _ W (Grd.Tab.next hT hW) (hV.next (hb0.trans (hW.mono hb0.size))) hF
  have HCH : Hid (∀ W, Below w.heap.size w W → Calls Tryd.prog 57 #[.agg (scrA s (.slice ca s.cs.length cc) (.slice ta s.tabs.length tc) (.slice ga s.gone.length gc)), .int .i64 (scrErr s), .func (.func df) #[] caps] W (Made w0 W s' (scrErr s))) := hCH
  have hM := hb0.size
  clear hx0 hx1 hkb hV hF hT hCH hb0 hsz
  generalize scrErr s = er at *
  go_enter Tryd.func83, Tryd.ntmps83
  go_upto_region 1 with fail
  generalize ((w.alloc (.cells (scrA s (.slice ca s.cs.length cc) (.slice ta s.tabs.length tc) (.slice ga s.gone.length gc)) 32)).alloc (.cells #[.int .i64 0, .int .i64 0, .slice none 0 0, .int .i64 0, .int .i64 0, .bool false, .int .i64 0, .int .i64 0, .int .i64 0, .int .i64 0, .int .i64 0, .int .i64 0, .slice none 0 0, .int .i64 0, .int .i64 0, .int .i64 0, .int .i64 0, .int .i64 0, .int .i64 0, .int .i32 0, .string ⟨#[]⟩, .slice none 0 0] 32)) = X at *
  have SK : Hid (∀ w', Below X.heap.size X w' → Below w.heap.size w w' ∧ ScrPtr w' (.pointer (some ⟨w.heap.size, 0, none⟩)) ∧ blkAt w' (.pointer (some ⟨w.heap.size, 0, none⟩)) = (scrA s (.slice ca s.cs.length cc) (.slice ta s.tabs.length tc) (.slice ga s.gone.length gc)) ∧ ScrPtr0 w' (.pointer (some ⟨w.heap.size + 1, 0, none⟩))) := fun w' hb => by
    have h0 := Grd.carry HX0.out hb
    exact ⟨HKB.out.trans (hb.mono HKB.out.size), (scrPtr_of h0).1, (scrPtr_of h0).2, scrPtr0_of (Grd.carry HX1.out hb) rfl⟩
  have b0 : Below X.heap.size X X.drew := (Below.refl _ _).drew
  go_region_held3 (fun w' => Below w.heap.size w w' ∧ ScrPtr w' (.pointer (some ⟨w.heap.size, 0, none⟩)) ∧ blkAt w' (.pointer (some ⟨w.heap.size, 0, none⟩)) = (scrA s (.slice ca s.cs.length cc) (.slice ta s.tabs.length tc) (.slice ga s.gone.length gc)) ∧ ScrPtr0 w' (.pointer (some ⟨w.heap.size + 1, 0, none⟩)))
    (first | exact KF.out | exact SK.out _ b2 | exact SK.out _ b1 | exact SK.out _ b0)
    (first | (go_at_call 12; refine (HCK.out _ (SK.out _ b0).1).mono ?_; rintro e V1 ⟨rfl, c1⟩; have b1 := b0.trans (c1.mono b0.size); clear c1) | (go_at_call 57; refine (HCH.out _ (SK.out _ b1).1).mono ?_; rintro e V2 ⟨cv', tv', gv', rfl, hO, c2⟩; have b2 := b1.trans (c2.mono b1.size); obtain ⟨a1, n1, c1, a2, n2, c2', a3, n3, c3, rfl, rfl, rfl⟩ := hO.shapes; have HO : Hid (ScrO V2 0 _ s' _ _ _) := hO; clear c2 hO; have HR : Hid (V2.heap[w.heap.size + 1]? = _) := Grd.carry HX1.out b2; have KF : Hid (Below w.heap.size w (V2.setRow (w.heap.size + 1) (scrA s' (.slice a1 n1 c1) (.slice a2 n2 c2') (.slice a3 n3 c3))) ∧ ScrPtr (V2.setRow (w.heap.size + 1) (scrA s' (.slice a1 n1 c1) (.slice a2 n2 c2') (.slice a3 n3 c3))) (.pointer (some ⟨w.heap.size, 0, none⟩)) ∧ blkAt (V2.setRow (w.heap.size + 1) (scrA s' (.slice a1 n1 c1) (.slice a2 n2 c2') (.slice a3 n3 c3))) (.pointer (some ⟨w.heap.size, 0, none⟩)) = (scrA s (.slice ca s.cs.length cc) (.slice ta s.tabs.length tc) (.slice ga s.gone.length gc)) ∧ ScrPtr0 (V2.setRow (w.heap.size + 1) (scrA s' (.slice a1 n1 c1) (.slice a2 n2 c2') (.slice a3 n3 c3))) (.pointer (some ⟨w.heap.size + 1, 0, none⟩))) := kf_ofw (SK.out _ b2).1 (Grd.carry HX0.out b2) HR.out))
  go_wp2_with fail
  (try simp only [Exit.inBlock, Exit.then])
  refine bodyPost_ret (v := .tuple #[.agg (scrA s' (.slice a1 n1 c1) (.slice a2 n2 c2') (.slice a3 n3 c3)), .int .i64 er]) ?_ rfl ⟨_, _, _, rfl, ?_, KF.out.1⟩
  · exact Grd.results_row_tmp rfl _ _ (w.heap.size + 1) _ _ _ _ rfl (setRow_heap _ _ _ _ _ _ HR.out) Tryd.underlying32 rfl (by kernel_rfl) _ rfl
  · exact (ScrO.off HO.out HR.out screen_is (by omega) fun k hk => setRow_other _ _ _ _ hk).mono (SK.out _ b1).1.size
end
end Put
end Go.Proofs.YtnkeahfcpbepjaaDoor
