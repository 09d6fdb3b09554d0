/- (*sheet.Sheet).blanks, replace, Drop, Down: a row goes, and a blank one comes. -/
import Derived.Test.YtmhmmpicedlcpaaGreatDoorPartO
import Derived.Test.YtmhmmpicedlcpaaGreatDoorPartL
import Derived.Test.YtmhmmpicedlcpaaGreatDoorPartE
import Derived.Deep.RegionHeld3
import Derived.Maps.AppendAt
import Derived.Test.YtmhmmpicedlcpaaGreatDoorPartI
import Derived.Test.YtmhmmpicedlcpaaGreatDoorPartJ
import Derived.BigRegion
import Derived.Deep.RegionWith
import Derived.Deep.Cut
namespace Go.Proofs.YtmhmmpicedlcpaaGreatDoor
open Go.ChangeShapes Go.WideShapes Go.ChangeAt Go.RowKit
namespace Put
open Grd (C SliceAt CellsAt gridErr z0 nilV flat rowsL OwnG RowB)
theorem getD_erase {α : Type} (l : List α) (i j : Nat) (d : α) : (l.eraseIdx i).getD j d = if j < i then l.getD j d else l.getD (j + 1) d := by
  simp only [List.getD, List.getElem?_eraseIdx]
  split <;> rfl
theorem getD_insert {α : Type} (l : List α) (i j : Nat) (x d : α) (hi : i ≤ l.length) : (l.insertIdx i x).getD j d = if j < i then l.getD j d else if j = i then x else l.getD (j - 1) d := by
  simp only [List.getD, List.getElem?_insertIdx]
  by_cases h1 : j < i
  · rw [if_pos h1, if_pos h1]
  · rw [if_neg h1, if_neg h1]
    by_cases h2 : j = i
    · subst h2
      rw [if_pos rfl, if_pos rfl, if_pos hi]
      rfl
    · rw [if_neg h2, if_neg h2]
theorem RowsIn.erase {W : World} {N : Nat} {vs : List Value} {rows : List (List C)} (h : RowsIn W N vs rows) (i : Nat) (hi : i < rows.length) : RowsIn W N (vs.eraseIdx i) (rows.eraseIdx i) := by
  have hl := h.1
  refine ⟨by rw [List.length_eraseIdx_of_lt (by omega), List.length_eraseIdx_of_lt hi, hl], fun j hj => ?_⟩
  rw [List.length_eraseIdx_of_lt hi] at hj
  rw [getD_erase, getD_erase]
  split
  · exact h.2 j (by omega)
  · exact h.2 (j + 1) (by omega)
theorem RowsIn.insert {W : World} {N : Nat} {vs : List Value} {rows : List (List C)} (h : RowsIn W N vs rows) (i : Nat) (hi : i ≤ rows.length) (v : Value) (row : List C) (hr : RowIn W N v row) : RowsIn W N (vs.insertIdx i v) (rows.insertIdx i row) := by
  have hl := h.1
  refine ⟨by rw [List.length_insertIdx_of_le_length (by omega), List.length_insertIdx_of_le_length hi, hl], fun j hj => ?_⟩
  rw [List.length_insertIdx_of_le_length hi] at hj
  rw [getD_insert _ _ _ _ _ (by omega), getD_insert _ _ _ _ _ hi]
  split
  · exact h.2 j (by omega)
  · split
    · exact hr
    · exact h.2 (j - 1) (by omega)
theorem RowsIn.sls {W : World} {N : Nat} {vs : List Value} {rows : List (List C)} (h : RowsIn W N vs rows) : ∀ v, v ∈ vs → IsSl v := by
  intro v hv
  obtain ⟨i, hi, rfl⟩ := List.mem_iff_getElem.1 hv
  obtain ⟨a, c, e⟩ := (h.2 i (by rw [← h.1]; exact hi)).shape
  have e2 : vs.getD i nilV = vs[i] := by simp [List.getD, hi]
  rw [e2] at e
  exact ⟨(a, _, c), e⟩
theorem sl_in {W : World} {N : Nat} {v : Value} {row : List C} (h : RowIn W N v row) : IsSl v := by
  obtain ⟨a, c, e⟩ := h.shape
  exact ⟨(a, _, c), e⟩
theorem ShA.keptR {W V : World} {M N p : Nat} {s : Scr} {rows : List (List C)} {cv tv gv rv : Value} {gvs vs : List Value} {rb : Nat} (h : ShA 46 W M N p s rows cv tv gv rv gvs vs) (hrb : rv.ownBlock = some rb) (ho : ∀ k, k < W.heap.size → k ≠ rb → V.heap[k]? = W.heap[k]?) : Kept M W V := fun k hk hS => ho k hk fun e => by
  obtain ⟨hlo, A, f, hA⟩ := owns_block h.rws rb hrb
  subst e
  rcases hS with hS | ⟨B, f', hS⟩
  · have := h.ml
    omega
  · rw [hA] at hS
    injection hS with hS
    injection hS with _ hS _
    exact absurd hS (by decide)
/-- Other rows in the same block. -/
theorem ShA.rowsNew {W V : World} {M N p : Nat} {s : Scr} {rows rows' : List (List C)} {cv tv gv rv rv' : Value} {gvs vs vs' : List Value} {rb : Nat} (h : ShA 46 W M N p s rows cv tv gv rv gvs vs) (hrb : rv.ownBlock = some rb) (hrb' : rv'.ownBlock = some rb)
    (ho : ∀ k, k < W.heap.size → k ≠ rb → V.heap[k]? = W.heap[k]?) (hw : V.ownsRow N 22 1 rv' rows'.length vs') (hr : RowsIn V M vs' rows') :
    ShA 46 (V.setCell ⟨p, 22, none⟩ rv') M N p s rows' cv tv gv rv' gvs vs' := by
  obtain ⟨hlo, A, f, hA⟩ := owns_block h.rws rb hrb
  have hpr : p ≠ rb := by
    intro e
    rw [← e, h.blk] at hA
    injection hA with hA
    injection hA with _ hA _
    exact absurd hA (by decide)
  have hp : V.heap[p]? = some (.cells (shA s cv tv gv rv) 46 (0, 0)) := (ho p (heap_lt h.blk) hpr).trans h.blk
  have hk1 : Kept M W V := fun k hk hS => ho k hk fun e => by
    subst e
    rcases hS with hS | ⟨B, f', hS⟩
    · have := h.ml
      omega
    · rw [hA] at hS
      injection hS with hS
      injection hS with _ hS _
      exact absurd hS (by decide)
  have hk2 : Kept M V (V.setCell ⟨p, 22, none⟩ rv') := Kept.store hp (by decide) (Nat.le_trans h.ml h.lo)
  have hof : ∀ {e : TypeId} {v : Value} {n : Nat} {xs : List Value}, e ≠ 46 → (∀ k, v.ownBlock = some k → k ≠ rb) → W.ownsRow N e 1 v n xs → (V.setCell ⟨p, 22, none⟩ rv').ownsRow N e 1 v n xs := fun hte hn hw => by
    refine own_off (owns_kept hw fun g hg => ?_) hp (Ne.symm hte)
    obtain ⟨-, B, f', hB⟩ := owns_block hw g hg
    exact ho g (heap_lt hB) (hn g hg)
  have hnb : ∀ k, tv.ownBlock = some k → k ≠ rb := fun k hk e => by
    subst e
    obtain ⟨-, B, f', hB⟩ := owns_block h.tabs k hk
    rw [hA] at hB
    injection hB with hB
    injection hB with _ hB _
    exact absurd hB (by decide)
  have hng : ∀ k, gv.ownBlock = some k → k ≠ rb := fun k hk e => h.two rb hrb (by rw [hk, e])
  refine ⟨store_at hp rfl, h.lo, h.ml, h.cvs, hof (by decide) hnb h.tabs, hof (by decide) hng h.gone, (h.gin.keep hk1).keep hk2, own_off hw hp (by decide), hr.keep hk2, fun k hk e => ?_⟩
  rw [hrb'] at hk
  exact hng k e (Option.some.inj hk).symm
theorem one4w (a : Int) (b c d : Int) : (#[.int .i32 a, .int .i64 b, .int .i64 c, .int .i64 d] : Array Value).all (·.oneCell') = true := by simp [Value.oneCell']
set_option maxHeartbeats 2000000 in
theorem blankS_any (p : Nat) (bk : Int) (V : World) (h : V.cell? ⟨p, 7, none⟩ = some (.int .i64 bk)) : Calls Tryz.prog 147 #[.pointer (some ⟨p, 0, none⟩)] V fun e V' => e = .returned (.agg #[.int .i32 32, .int .i64 0, .int .i64 bk, .int .i64 0]) ∧ Below V.heap.size V V' := by
  have x0 := heap_alloc_new V (.cells #[.int .i32 0, .int .i64 0, .int .i64 0, .int .i64 0] 73)
  have kb : Below V.heap.size V (V.alloc (.cells #[.int .i32 0, .int .i64 0, .int .i64 0, .int .i64 0] 73)) := (Below.refl _ _).alloc (Nat.le_refl _) _
  have h1 := cell_stay kb h
  have HX0 : Hid _ := x0
  have HKB : Hid _ := kb
  clear x0 kb h
  go_enter Tryz.func147, Tryz.ntmps147
  go_upto_region 1 with fail
  generalize V.alloc (.cells #[.int .i32 0, .int .i64 0, .int .i64 0, .int .i64 0] 73) = Y at *
  go_wp2_with (refine wpList_store_row rfl 73 (.tmp 2) _ rfl V.heap.size #[.int .i32 32, .int .i64 0, .int .i64 bk, .int .i64 0] rfl rfl _ _ HX0.out (by kernel_rfl) rfl (one4w _ _ _ _) ?_)
  (try simp only [Exit.inBlock, Exit.then])
  refine bodyPost_ret (v := .agg #[.int .i32 32, .int .i64 0, .int .i64 bk, .int .i64 0]) ?_ rfl ⟨rfl, below_setRow HKB.out (Nat.le_refl _) _⟩
  exact results_cell_row rfl _ _ V.heap.size _ _ _ _ rfl (setRow_heap _ _ _ _ _ _ HX0.out) Tryz.underlying73 rfl (by kernel_rfl)
theorem cells_one (V : World) (c : C) : CellsAt (V.alloc (.cells #[.int .i32 c.1, .int .i64 c.2.1, .int .i64 c.2.2.1, .int .i64 c.2.2.2] 73)) V.heap.size 0 [c] := fun j hj => by
  have h := heap_alloc_new V (.cells #[.int .i32 c.1, .int .i64 c.2.1, .int .i64 c.2.2.1, .int .i64 c.2.2.2] 73)
  generalize V.alloc (.cells #[.int .i32 c.1, .int .i64 c.2.1, .int .i64 c.2.2.1, .int .i64 c.2.2.2] 73) = X at *
  match j, hj with
  | 0, _ => exact ⟨by simp [World.cell?, h], by simp [World.cell?, h], by simp [World.cell?, h], by simp [World.cell?, h]⟩
set_option maxHeartbeats 2000000 in
theorem blanks_any (p n : Nat) (bk : Int) (W : World) (h7 : W.cell? ⟨p, 7, none⟩ = some (.int .i64 bk)) (hn1 : 1 ≤ n) (hn2 : n ≤ 120) :
    Calls Tryz.prog 128 #[.pointer (some ⟨p, 0, none⟩), .int .i64 (n : Int)] W fun e W' => ∃ a c g, e = .returned (.slice a n c) ∧ W.heap.size ≤ g ∧ RowB W' g (.slice a n c) (List.replicate n (32, 0, bk, 0)) ∧ Below W.heap.size W W' := by
  have HB := blankS_any p bk W h7
  have HRP : Hid (∀ V : World, Calls Tryz.prog 82 #[.slice (some ⟨V.heap.size, 0, none⟩) 1 1, .int .i64 (n : Int)] (V.alloc (.cells #[.int .i32 32, .int .i64 0, .int .i64 bk, .int .i64 0] 73)) fun e w' => ∃ v', e = .returned v' ∧ OwnG w' (V.alloc (.cells #[.int .i32 32, .int .i64 0, .int .i64 bk, .int .i64 0] 73)).heap.size v' (List.replicate n (32, 0, bk, 0)) ∧ Below (V.alloc (.cells #[.int .i32 32, .int .i64 0, .int .i64 bk, .int .i64 0] 73)).heap.size (V.alloc (.cells #[.int .i32 32, .int .i64 0, .int .i64 bk, .int .i64 0] 73)) w') := fun V => Grd.repeat_one V.heap.size 0 1 n (32, 0, bk, 0) _ (cells_one V (32, 0, bk, 0)) hn1 (by omega)
  clear h7
  go_enter Tryz.func128, Tryz.ntmps128
  go_wp2_with fail
  refine HB.mono ?_
  rintro e V1 ⟨rfl, b1⟩
  clear HB
  go_wp2_with fail
  refine (HRP.out V1).mono ?_
  rintro e V2 ⟨v2, rfl, ho, b2⟩
  have q2 := b1.alloc b1.size (.cells #[.int .i32 32, .int .i64 0, .int .i64 bk, .int .i64 0] 73)
  have q3 := q2.trans (b2.mono q2.size)
  obtain ⟨g, hg1, hr⟩ := own_rowB ho
  obtain ⟨cap, rest, hv, hc1, hc2, hh⟩ := hr
  subst hv
  go_wp2_with fail
  go_ret
  refine ⟨_, cap, g, rfl, by have := q2.size; omega, ⟨cap, rest, by rw [List.length_replicate], hc1, hc2, hh⟩, q3⟩
set_option maxHeartbeats 2000000 in
theorem blanks_zero (p : Nat) (bk : Int) (W : World) (h7 : W.cell? ⟨p, 7, none⟩ = some (.int .i64 bk)) :
    Calls Tryz.prog 128 #[.pointer (some ⟨p, 0, none⟩), .int .i64 0] W fun e W' => ∃ a c g, e = .returned (.slice a 0 c) ∧ W.heap.size ≤ g ∧ RowB W' g (.slice a 0 c) [] ∧ Below W.heap.size W W' := by
  have HB := blankS_any p bk W h7
  have HRP : Hid (∀ V : World, Calls Tryz.prog 82 #[.slice (some ⟨V.heap.size, 0, none⟩) 1 1, .int .i64 0] (V.alloc (.cells #[.int .i32 32, .int .i64 0, .int .i64 bk, .int .i64 0] 73)) fun e w' => ∃ v', e = .returned v' ∧ OwnG w' (V.alloc (.cells #[.int .i32 32, .int .i64 0, .int .i64 bk, .int .i64 0] 73)).heap.size v' [] ∧ Below (V.alloc (.cells #[.int .i32 32, .int .i64 0, .int .i64 bk, .int .i64 0] 73)).heap.size (V.alloc (.cells #[.int .i32 32, .int .i64 0, .int .i64 bk, .int .i64 0] 73)) w') := fun V => Grd.repeat_zero _ 0 1 (32, 0, bk, 0) _ (cells_one V (32, 0, bk, 0))
  clear h7
  go_enter Tryz.func128, Tryz.ntmps128
  go_wp2_with fail
  refine HB.mono ?_
  rintro e V1 ⟨rfl, b1⟩
  clear HB
  go_wp2_with fail
  refine (HRP.out V1).mono ?_
  rintro e V2 ⟨v2, rfl, ho, b2⟩
  have q2 := b1.alloc b1.size (.cells #[.int .i32 32, .int .i64 0, .int .i64 bk, .int .i64 0] 73)
  have q3 := q2.trans (b2.mono q2.size)
  obtain ⟨g, hg1, hr⟩ := own_rowB ho
  obtain ⟨cap, rest, hv, hc1, hc2, hh⟩ := hr
  subst hv
  go_wp2_with fail
  go_ret
  exact ⟨_, cap, g, rfl, by have := q2.size; omega, ⟨cap, rest, rfl, hc1, hc2, hh⟩, q3⟩
theorem blanks_all (p n : Nat) (bk : Int) (W : World) (h7 : W.cell? ⟨p, 7, none⟩ = some (.int .i64 bk)) (hn2 : n ≤ 120) :
    Calls Tryz.prog 128 #[.pointer (some ⟨p, 0, none⟩), .int .i64 (n : Int)] W fun e W' => ∃ a c g, e = .returned (.slice a n c) ∧ W.heap.size ≤ g ∧ RowB W' g (.slice a n c) (List.replicate n (32, 0, bk, 0)) ∧ Below W.heap.size W W' := by
  rcases Nat.eq_zero_or_pos n with rfl | h
  · exact blanks_zero p bk W h7
  · exact blanks_any p n bk W h7 h hn2
/-- A row goes, and a blank one comes. -/
def replR (rows : List (List C)) (n : Nat) (bk : Int) (gone fresh : Nat) : List (List C) := (rows.eraseIdx gone).insertIdx fresh (List.replicate n (32, 0, bk, 0))
theorem replR_len (rows : List (List C)) (n : Nat) (bk : Int) (gone fresh : Nat) (hg : gone < rows.length) (hf : fresh < rows.length) : (replR rows n bk gone fresh).length = rows.length := by
  unfold replR
  rw [List.length_insertIdx_of_le_length (by rw [List.length_eraseIdx_of_lt hg]; omega), List.length_eraseIdx_of_lt hg]
  omega
theorem replR_row (rows : List (List C)) (n : Nat) (bk : Int) (gone fresh : Nat) (hg : gone < rows.length) (hf : fresh < rows.length) (hn : ∀ i, i < rows.length → (rows.getD i []).length = n) (i : Nat) (hi : i < rows.length) : ((replR rows n bk gone fresh).getD i []).length = n := by
  have hl : (rows.eraseIdx gone).length = rows.length - 1 := List.length_eraseIdx_of_lt hg
  have he : ∀ j, j < rows.length - 1 → ((rows.eraseIdx gone).getD j []).length = n := fun j hj => by
    rw [getD_erase]
    split
    · exact hn j (by omega)
    · exact hn (j + 1) (by omega)
  unfold replR
  rw [getD_insert _ _ _ _ _ (by omega)]
  split
  · exact he i (by omega)
  · split
    · simp
    · exact he (i - 1) (by omega)
set_option linter.unusedSimpArgs false in
set_option maxHeartbeats 4000000 in
set_option maxRecDepth 100000 in
theorem replace_any (W : World) (M N p n : Nat) (s : Scr) (rows : List (List C)) (hS : ShAt 46 W M N p s rows) (gone fresh : Nat) (hw : s.w = n) (hn1 : 1 ≤ n) (hn2 : n ≤ 120) (hg : gone < rows.length) (hf : fresh < rows.length) (hrl : rows.length ≤ 60) :
    Calls Tryz.prog 94 #[.pointer (some ⟨p, 0, none⟩), .int .i64 (gone : Int), .int .i64 (fresh : Int)] W (Ran W M N p s (replR rows n s.sb gone fresh)) := by
  obtain ⟨cv, tv, gv, rv, gvs, vs, hS⟩ := hS
  obtain ⟨rb, rc, hrv, hrb, hrc1, hrc2, hvl, hrcell, A, hrA⟩ := own_cells hS.rws (by omega)
  subst hrv
  have HD := delete_own N rb rows.length rc gone vs W hS.rws hS.rin.sls hg
  obtain ⟨⟨c0, -⟩, ⟨-, -, -, -, -, -, -, -, -, -, -, c22⟩, f⟩ := sh_cells hS.blk
  have hpr : p ≠ rb := by
    intro e
    rw [← e, hS.blk] at hrA
    injection hrA with hrA
    injection hrA with _ hrA _
    exact absurd hrA (by decide)
  have hlo := hS.lo
  have hwg : IntKind.i64.wrap ((gone : Int) + 1) = ((gone + 1 : Nat) : Int) := by rw [wrap_id _ (by omega) (by omega)]; omega
  have HS : Hid (ShA 46 W M N p s rows cv tv gv (.slice (some ⟨rb, 0, none⟩) rows.length rc) gvs vs) := hS
  clear hS hrcell hvl f c0
  go_enter Tryz.func94, Tryz.ntmps94
  go_wp2_with fail
  refine HD.mono ?_
  rintro e V1 ⟨rfl, hO1, hk1, hb1⟩
  have hpV := (hk1 p hpr).trans HS.out.blk
  have c22' := (sh_cells hpV).2.1.2.2.2.2.2.2.2.2.2.2.2
  have f22 := (sh_cells hpV).2.2 22
  go_upto_region 1 with fail
  have hS1 : ShA 46 (V1.setCell ⟨p, 22, none⟩ (.slice (some ⟨rb, 0, none⟩) (rows.length - 1) rc)) M N p s (rows.eraseIdx gone) cv tv gv (.slice (some ⟨rb, 0, none⟩) (rows.length - 1) rc) gvs (vs.eraseIdx gone) :=
    HS.out.rowsNew (rb := rb) rfl rfl (fun k _ hk => hk1 k hk) (by rw [List.length_eraseIdx_of_lt hg]; exact hO1) ((HS.out.rin.erase gone hg).keep (HS.out.keptR (rb := rb) rfl fun k _ hk => hk1 k hk))
  have hB1 : Below N W (V1.setCell ⟨p, 22, none⟩ (.slice (some ⟨rb, 0, none⟩) (rows.length - 1) rc)) := (hb1.mono hrb).setCell hlo _
  have hF1 : Framed W (V1.setCell ⟨p, 22, none⟩ (.slice (some ⟨rb, 0, none⟩) (rows.length - 1) rc)) := fun k o hk ho => by
    have e1 : k ≠ rb := by
      intro e
      rw [e, hrA] at hk
      injection hk with hk
      exact not_other_rows (ho A _ _ hk.symm)
    exact Framed.store hpV not_other_sheet k o ((hk1 k e1).trans hk) ho
  have HS1 : Hid _ := hS1
  have HB1 : Hid _ := hB1
  have HF1 : Hid _ := hF1
  clear hS1 hB1 hF1 hO1 hk1 hb1 hpV c22' f22 c22 hrA HS HD
  generalize V1.setCell ⟨p, 22, none⟩ (.slice (some ⟨rb, 0, none⟩) (rows.length - 1) rc) = X at *
  have hX := HS1.out
  obtain ⟨⟨c0, -, -, -, -, -, -, c7, -⟩, ⟨-, -, -, -, -, -, -, -, -, -, -, c22⟩, -⟩ := sh_cells hX.blk
  rw [hw] at c0
  have b0 : Below X.heap.size X X.drew := (Below.refl _ _).drew
  have hNX : N ≤ X.heap.size := Nat.le_trans hlo (Nat.le_of_lt (heap_lt hX.blk))
  have HBL := blanks_any p n s.sb X.drew (cell_stay b0 c7) hn1 hn2
  have HIN : Hid (∀ (V2 : World) (a : Option Addr) (c g : Nat), Below X.heap.size X V2 → RowB V2 g (.slice a n c) (List.replicate n (32, 0, s.sb, 0)) → Calls Tryz.prog 116 #[.slice (some ⟨rb, 0, none⟩) (rows.length - 1) rc, .int .i64 (fresh : Int), .slice (some ⟨V2.heap.size, 0, none⟩) 1 1] (V2.alloc (.cells #[.slice a n c] 22)) fun e V3 => e = .returned (.slice (some ⟨rb, 0, none⟩) (rows.length - 1 + 1) rc) ∧ V3.cell? ⟨p, 22, none⟩ = some (.slice (some ⟨rb, 0, none⟩) (rows.length - 1) rc) ∧ V3.frozen? ⟨p, 22, none⟩ = false ∧ Hid (Ran W M N p s (replR rows n s.sb gone fresh) (.returned (.tuple #[])) (V3.setCell ⟨p, 22, none⟩ (.slice (some ⟨rb, 0, none⟩) (rows.length - 1 + 1) rc)))) := fun V2 a c g q1 hR => by
    have q2 := q1.alloc q1.size (.cells #[.slice a n c] 22)
    have hS2 := hX.next q2
    have hal := heap_alloc_new V2 (.cells #[.slice a n c] 22)
    have hri : RowIn V2 M (.slice a n c) (List.replicate n (32, 0, s.sb, 0)) := rowIn_rowB hR
    have hle : (rows.eraseIdx gone).length = rows.length - 1 := List.length_eraseIdx_of_lt hg
    obtain ⟨-, B, f', hB⟩ := owns_block hX.rws rb rfl
    have hne : V2.heap.size ≠ rb := by have h1 := heap_lt hB; have h2 := q1.size; omega
    have key := insert_own N rb (rows.length - 1) rc fresh V2.heap.size 1 (vs.eraseIdx gone) (.slice a n c) _ (by have := hS2.rws; rwa [hle] at this) hS2.rin.sls (sl_in hri) (by omega) (by omega) hal hne
    refine Calls.mono key ?_
    rintro e V3 ⟨rfl, hO3, hk3, hb3⟩
    have hp3 : V3.heap[p]? = _ := (hk3 p hpr).trans hS2.blk
    have hri3 : RowIn V3 M (.slice a n c) (List.replicate n (32, 0, s.sb, 0)) := (hri.keep (Kept.of_below ((Below.refl _ _).alloc (Nat.le_refl _) _))).keep (hS2.keptR (rb := rb) rfl fun k _ hk => hk3 k hk)
    have hS3 := hS2.rowsNew (rb := rb) (rv' := .slice (some ⟨rb, 0, none⟩) (rows.length - 1 + 1) rc) (rows' := replR rows n s.sb gone fresh) (vs' := (vs.eraseIdx gone).insertIdx fresh (.slice a n c)) rfl rfl (fun k _ hk => hk3 k hk) (by rw [replR_len rows n s.sb gone fresh hg hf, show rows.length = rows.length - 1 + 1 by omega]; exact hO3) ((hS2.rin.keep (hS2.keptR (rb := rb) rfl fun k _ hk => hk3 k hk)).insert fresh (by omega) _ _ hri3)
    refine ⟨rfl, (sh_cells hp3).2.1.2.2.2.2.2.2.2.2.2.2.2, (sh_cells hp3).2.2 22, rfl, ⟨_, _, _, _, _, _, hS3⟩, ((HB1.out.trans (q2.mono hNX)).trans (hb3.mono hrb)).setCell hlo _, ?_⟩
    refine (Framed.trans HF1.out (Framed.of_below q2)).trans ?_
    intro k o hk ho
    have e1 : k ≠ rb := by
      intro e
      have hB2 := Grd.carry hB q2
      rw [e, hB2] at hk
      injection hk with hk
      exact not_other_rows (ho B _ _ hk.symm)
    exact Framed.store hp3 not_other_sheet k o ((hk3 k e1).trans hk) ho
  have HC22 : Hid (∀ V, Below X.heap.size X V → V.cell? ⟨p, 22, none⟩ = some (.slice (some ⟨rb, 0, none⟩) (rows.length - 1) rc)) := fun V h => cell_stay h c22
  clear hX c7 HS1 HB1 HF1 hw
  generalize rows.length - 1 = m at *
  generalize replR rows n s.sb gone fresh = rows' at *
  go_region_with (first
    | (go_at_call 128; refine HBL.mono ?_; rintro e V2 ⟨a, c, g, rfl, hg2, hR, b2⟩; have q1 := b0.trans (b2.mono b0.size); have d22 := HC22.out _ q1; have e22 := HC22.out _ (q1.alloc q1.size (.cells #[.slice a n c] 22)); have hI := HIN.out V2 a c g q1 hR; clear hR b2)
    | (go_at_call 116; refine hI.mono ?_; rintro e V3 ⟨rfl, z22, zf, HE⟩))
  all_goals go_wp2_with fail
  all_goals go_end0
  all_goals exact HE.out
end Put
end Go.Proofs.YtmhmmpicedlcpaaGreatDoor

/- (*sheet.Sheet).keep, Up: a row goes behind all that is gone. -/
namespace Go.Proofs.YtmhmmpicedlcpaaGreatDoor
open Go.ChangeShapes Go.WideShapes Go.ChangeAt Go.RowKit
namespace Put
open Grd (C SliceAt CellsAt gridErr z0 nilV flat rowsL OwnG RowB)
/-- What is gone, and one row more. -/
def keepG (g : List (List C)) (row : List C) : List (List C) := if g.length < 50 then g ++ [row] else (g ++ [row]).eraseIdx 0
theorem keepG_len (g : List (List C)) (row : List C) (h : g.length ≤ 50) : (keepG g row).length ≤ 50 := by
  unfold keepG
  split
  · rw [List.length_append, List.length_singleton]
    omega
  · rw [List.length_eraseIdx_of_lt (by simp), List.length_append, List.length_singleton]
    omega
theorem RowsIn.push {W : World} {N : Nat} {vs : List Value} {rows : List (List C)} (h : RowsIn W N vs rows) (v : Value) (row : List C) (hr : RowIn W N v row) : RowsIn W N (vs ++ [v]) (rows ++ [row]) := by
  have hl := h.1
  refine ⟨by simp [hl], fun i hi => ?_⟩
  rw [List.length_append, List.length_singleton] at hi
  simp only [List.getD]
  by_cases e : i < rows.length
  · rw [List.getElem?_append_left (by omega), List.getElem?_append_left e]
    exact h.2 i e
  · have e2 : i = rows.length := by omega
    subst e2
    rw [List.getElem?_append_right (by omega), List.getElem?_append_right (Nat.le_refl _), hl]
    simpa using hr
theorem cell_news (W : World) (v : Value) (t : TypeId) : ∀ j u, [v][j]? = some u → (W.alloc (.cells #[v] t)).cell? ((⟨W.heap.size, 0, none⟩ : Addr).add j) = some u := fun j u hj => by
  have h := heap_alloc_new W (.cells #[v] t)
  generalize W.alloc (.cells #[v] t) = X at *
  rw [Addr.add_lit]
  match j, hj with
  | 0, hj =>
    rw [← Option.some.inj hj]
    simp [World.cell?, h]
/-- Another list of what is gone. -/
theorem ShA.goneNew {W V : World} {M N p : Nat} {s s' : Scr} {rows : List (List C)} {cv tv gv gv' rv : Value} {gvs vs gvs' : List Value} (h : ShA 46 W M N p s rows cv tv gv rv gvs vs) (hs' : { s with gone := s'.gone } = s')
    (ho : ∀ k, k < W.heap.size → some k ≠ gv.ownBlock → V.heap[k]? = W.heap[k]?) (hw : V.ownsRow N 22 1 gv' s'.gone.length gvs') (hr : RowsIn V M gvs' s'.gone) (hat : gv'.ownBlock = gv.ownBlock ∨ ∃ k, gv'.ownBlock = some k ∧ W.heap.size ≤ k) :
    ShA 46 (V.setCell ⟨p, 21, none⟩ gv') M N p s' rows cv tv gv' rv gvs' vs := by
  have hgb : ∀ k A t, W.heap[k]? = some (.cells A t (0, 0)) → t ≠ 22 → some k ≠ gv.ownBlock := fun k A t hk ht e => by
    obtain ⟨-, B, f, hB⟩ := owns_block h.gone k e.symm
    rw [hk] at hB
    injection hB with hB
    injection hB with _ hB _
    exact ht hB
  have hp : V.heap[p]? = some (.cells (shA s cv tv gv rv) 46 (0, 0)) := (ho p (heap_lt h.blk) (hgb p _ _ h.blk (by decide))).trans h.blk
  have hk1 : Kept M W V := fun k hk hS => ho k hk fun e => by
    obtain ⟨hlo, B, f, hB⟩ := owns_block h.gone k e.symm
    rcases hS with hS | ⟨A, f', hS⟩
    · have := h.ml
      omega
    · rw [hB] at hS
      injection hS with hS
      injection hS with _ hS _
      exact absurd hS (by decide)
  have hk2 : Kept M V (V.setCell ⟨p, 21, none⟩ gv') := Kept.store hp (by decide) (Nat.le_trans h.ml h.lo)
  have hof : ∀ {e : TypeId} {v : Value} {n : Nat} {xs : List Value}, e ≠ 46 → (∀ k, v.ownBlock = some k → some k ≠ gv.ownBlock) → W.ownsRow N e 1 v n xs → (V.setCell ⟨p, 21, none⟩ gv').ownsRow N e 1 v n xs := fun hte hn hw => by
    refine own_off (owns_kept hw fun g hg => ?_) hp (Ne.symm hte)
    obtain ⟨-, B, f', hB⟩ := owns_block hw g hg
    exact ho g (heap_lt hB) (hn g hg)
  have htb : s'.tabs = s.tabs := by rw [← hs']
  refine ⟨store_at hp ?_, h.lo, h.ml, h.cvs, ?_, own_off hw hp (by decide), hr.keep hk2, hof (by decide) (fun k hk e => h.two k hk e.symm) h.rws, (h.rin.keep hk1).keep hk2, fun k hk e => ?_⟩
  · rw [← hs']
    rfl
  · rw [htb]
    refine hof (by decide) (fun k hk e => ?_) h.tabs
    obtain ⟨-, B, f, hB⟩ := owns_block h.tabs k hk
    obtain ⟨-, A, f', hA⟩ := owns_block h.gone k e.symm
    rw [hA] at hB
    injection hB with hB
    injection hB with _ hB _
    exact absurd hB (by decide)
  · rcases hat with hat | ⟨q, hq, hlt⟩
    · rw [hat] at e
      exact h.two k hk e
    · rw [hq] at e
      obtain ⟨-, B, f, hB⟩ := owns_block h.rws k hk
      have := heap_lt hB
      have := Option.some.inj e
      omega
theorem ShA.keptG {W V : World} {M N p : Nat} {s : Scr} {rows : List (List C)} {cv tv gv rv : Value} {gvs vs : List Value} (h : ShA 46 W M N p s rows cv tv gv rv gvs vs) (ho : ∀ k, k < W.heap.size → some k ≠ gv.ownBlock → V.heap[k]? = W.heap[k]?) : Kept M W V := fun k hk hS => ho k hk fun e => by
  obtain ⟨hlo, B, f, hB⟩ := owns_block h.gone k e.symm
  rcases hS with hS | ⟨A, f', hS⟩
  · have := h.ml
    omega
  · rw [hB] at hS
    injection hS with hS
    injection hS with _ hS _
    exact absurd hS (by decide)
theorem ShA.framedG {W V : World} {M N p : Nat} {s : Scr} {rows : List (List C)} {cv tv gv rv gv' : Value} {gvs vs : List Value} (h : ShA 46 W M N p s rows cv tv gv rv gvs vs) (ho : ∀ k, k < W.heap.size → some k ≠ gv.ownBlock → V.heap[k]? = W.heap[k]?) (hp : V.heap[p]? = some (.cells (shA s cv tv gv rv) 46 (0, 0))) : Framed W (V.setCell ⟨p, 21, none⟩ gv') := fun k o hk hO => by
  refine Framed.store hp not_other_sheet k o ((ho k (heap_lt hk) fun e => ?_).trans hk) hO
  obtain ⟨-, B, f, hB⟩ := owns_block h.gone k e.symm
  rw [hk] at hB
  injection hB with hB
  exact not_other_rows (hO B _ _ hB)
theorem grown_below {W V : World} {N : Nat} {row : Option Nat} (h : W.grownBy V row) (hr : ∀ k, row = some k → N ≤ k) (hN : N ≤ W.heap.size) : Below N W V :=
  ⟨h.os, h.tape, h.output, h.size, fun k hk => h.block k (by omega) fun e => by have := hr k e.symm; omega⟩
set_option maxHeartbeats 4000000 in
set_option maxRecDepth 100000 in
theorem keep_any (W : World) (M N p : Nat) (s : Scr) (rows : List (List C)) (hS : ShAt 46 W M N p s rows) (v : Value) (row : List C) (hv : RowIn W M v row) (hgl : s.gone.length ≤ 50) :
    Calls Tryz.prog 97 #[.pointer (some ⟨p, 0, none⟩), v] W (Ran W M N p { s with gone := keepG s.gone row } rows) := by
  obtain ⟨cv, tv, gv, rv, gvs, vs, hS⟩ := hS
  obtain ⟨va, vc, rfl⟩ := hv.shape
  obtain ⟨ga, gc, rfl⟩ := own_slice hS.gone
  obtain ⟨i0, hi, hzz⟩ := Option.map_eq_some_iff.1 info_rows
  simp only [Prod.mk.injEq] at hzz
  obtain ⟨hz0, hz1, hz2⟩ := hzz
  have hlo := hS.lo
  have hNW : N ≤ W.heap.size := Nat.le_trans hlo (Nat.le_of_lt (heap_lt hS.blk))
  have c21 := (sh_cells hS.blk).2.1.2.2.2.2.2.2.2.2.2.2.1
  have k0 : Below W.heap.size W (W.alloc (.cells #[.slice va row.length vc] 22)) := (Below.refl _ _).alloc (Nat.le_refl _) _
  have hown : (W.alloc (.cells #[.slice va row.length vc] 22)).ownsRow N 22 1 (.slice ga s.gone.length gc) s.gone.length gvs := hS.gone.alloc _
  have HNW : Hid (∀ j u, [Value.slice va row.length vc][j]? = some u → (W.alloc (.cells #[.slice va row.length vc] 22)).cell? ((⟨W.heap.size, 0, none⟩ : Addr).add j) = some u) := cell_news W _ _
  have hal := heap_alloc_new W (.cells #[.slice va row.length vc] 22)
  have HS0 : Hid (ShA 46 (W.alloc (.cells #[.slice va row.length vc] 22)) M N p s rows cv tv (.slice ga s.gone.length gc) rv gvs vs) := hS.next k0
  have HRI : Hid (RowIn (W.alloc (.cells #[.slice va row.length vc] 22)) M (.slice va row.length vc) row) := hv.keep (Kept.of_below k0)
  have HK0 : Hid _ := k0
  have c21a := cell_stay k0 c21
  have hszW : (W.alloc (.cells #[.slice va row.length vc] 22)).heap.size = W.heap.size + 1 := by simp
  clear hS hv k0 hal
  go_enter Tryz.func97, Tryz.ntmps97
  go_upto_region 1 with (at_builtin; refine wpList_append_own_at _ rfl _ _ 30 rfl N 22 i0 (.slice none 0 0) 1 24 und_rows hi hz0 hz1 hz2 rfl (by decide) (.slice ga s.gone.length gc) s.gone.length gvs rfl hown ⟨W.heap.size, 0, none⟩ 1 1 [.slice va row.length vc] rfl rfl HNW.out (by intro u hu; simp at hu; rw [hu]; rfl) (by unfold maxLen; omega) (by omega) (by omega) ?_; intro gv' W2 hown' hgr hnil hat; obtain ⟨ga', gc', rfl⟩ := own_slice hown'; have hp2 := (hgr.block p (heap_lt HS0.out.blk) (fun e => (by obtain ⟨-, B, f, hB⟩ := owns_block HS0.out.gone p e.symm; rw [HS0.out.blk] at hB; injection hB with hB; injection hB with _ hB _; exact absurd hB (by decide)))).trans HS0.out.blk; have z21 := (sh_cells hp2).2.1.2.2.2.2.2.2.2.2.2.2.1; have f21 := (sh_cells hp2).2.2 21; clear hnil)
  have hho : ∀ k, k < (W.alloc (.cells #[.slice va row.length vc] 22)).heap.size → some k ≠ (Value.slice ga s.gone.length gc).ownBlock → W2.heap[k]? = (W.alloc (.cells #[.slice va row.length vc] 22)).heap[k]? := fun k hk hne => hgr.block k hk hne
  have hS2 : ShA 46 (W2.setCell ⟨p, 21, none⟩ (.slice ga' (s.gone.length + 1) gc')) M N p { s with gone := s.gone ++ [row] } rows cv tv (.slice ga' (s.gone.length + 1) gc') rv (gvs ++ [.slice va row.length vc]) vs :=
    HS0.out.goneNew (s' := { s with gone := s.gone ++ [row] }) rfl hho (by simpa using hown') ((HS0.out.gin.push _ _ HRI.out).keep (HS0.out.keptG hho)) (hat.imp id fun h => ⟨_, h, Nat.le_refl _⟩)
  have hB2 : Below N W (W2.setCell ⟨p, 21, none⟩ (.slice ga' (s.gone.length + 1) gc')) := ((HK0.out.mono hNW).trans (grown_below hgr (fun k e => (owns_block HS0.out.gone k e).1) (by omega))).setCell hlo _
  have hF2 : Framed W (W2.setCell ⟨p, 21, none⟩ (.slice ga' (s.gone.length + 1) gc')) := (Framed.of_below HK0.out).trans (HS0.out.framedG hho hp2)
  have HS2 : Hid _ := hS2
  have HB2 : Hid _ := hB2
  have HF2 : Hid (Framed W (W2.setCell ⟨p, 21, none⟩ (.slice ga' (s.gone.length + 1) gc'))) := hF2
  have d21 := (sh_cells hS2.blk).2.1.2.2.2.2.2.2.2.2.2.2.1
  clear hS2 hB2 hF2 hho hat hown' hgr hp2 z21 f21 HS0 HK0 HRI HNW hown c21 c21a hszW hi hz0 hz1 hz2
  generalize W2.setCell ⟨p, 21, none⟩ (.slice ga' (s.gone.length + 1) gc') = X at *
  by_cases hlt : s.gone.length < 50
  · have HE : Hid (keepG s.gone row = s.gone ++ [row]) := by unfold Hid keepG; rw [if_pos hlt]
    have hl1 : ¬ ((50 : Int) < (s.gone.length : Int) + 1) := by omega
    go_wp2_with fail
    go_end0
    refine ⟨rfl, ?_, HB2.out, HF2.out⟩
    rw [HE.out]
    exact ⟨_, _, _, _, _, _, HS2.out⟩
  · have HE : Hid (keepG s.gone row = (s.gone ++ [row]).eraseIdx 0) := by unfold Hid keepG; rw [if_neg hlt]
    have hl1 : (50 : Int) < (s.gone.length : Int) + 1 := by omega
    have hX := HS2.out
    have hgo := hX.gone
    have hlen : (s.gone ++ [row]).length = s.gone.length + 1 := by simp
    rw [hlen] at hgo
    obtain ⟨g, cap, hgv, hgN, -, -, -, -, A, hA⟩ := own_cells hgo (by omega)
    injection hgv with e1 _ e3
    subst e1 e3
    have HDel := delete_own N g (s.gone.length + 1) gc' 0 _ X hgo hX.gin.sls (by omega)
    have hpg : p ≠ g := by
      intro e
      rw [← e, hX.blk] at hA
      injection hA with hA
      injection hA with _ hA _
      exact absurd hA (by decide)
    have HEND : Hid (∀ V3 : World, V3.ownsRow N 22 1 (.slice (some ⟨g, 0, none⟩) (s.gone.length + 1 - 1) gc') (s.gone.length + 1 - 1) ((gvs ++ [Value.slice va row.length vc]).eraseIdx 0) → (∀ k, k ≠ g → V3.heap[k]? = X.heap[k]?) → Below g X V3 → V3.cell? ⟨p, 21, none⟩ = some (.slice (some ⟨g, 0, none⟩) (s.gone.length + 1) gc') ∧ V3.frozen? ⟨p, 21, none⟩ = false ∧ Hid (Ran W M N p { s with gone := keepG s.gone row } rows (.returned (.tuple #[])) (V3.setCell ⟨p, 21, none⟩ (.slice (some ⟨g, 0, none⟩) (s.gone.length + 1 - 1) gc')))) := fun V3 hO3 hk3 hb3 => by
      have hho : ∀ k, k < X.heap.size → some k ≠ (Value.slice (some ⟨g, 0, none⟩) (s.gone.length + 1) gc').ownBlock → V3.heap[k]? = X.heap[k]? := fun k _ hne => hk3 k fun e => hne (by rw [e]; rfl)
      have hp3 := (hk3 p hpg).trans hX.blk
      have hl2 : (keepG s.gone row).length = s.gone.length + 1 - 1 := by rw [HE.out, List.length_eraseIdx_of_lt (by omega), hlen]
      have hS3 := hX.goneNew (V := V3) (s' := { s with gone := keepG s.gone row }) (gv' := .slice (some ⟨g, 0, none⟩) (s.gone.length + 1 - 1) gc') (gvs' := (gvs ++ [Value.slice va row.length vc]).eraseIdx 0) rfl hho (by show V3.ownsRow N _ 1 _ (keepG s.gone row).length _; rw [hl2]; exact hO3) (by show RowsIn V3 M _ (keepG s.gone row); rw [HE.out]; exact (hX.gin.keep (hX.keptG hho)).erase 0 (by simp)) (.inl rfl)
      exact ⟨(sh_cells hp3).2.1.2.2.2.2.2.2.2.2.2.2.1, (sh_cells hp3).2.2 21, rfl, ⟨_, _, _, _, _, _, hS3⟩, (HB2.out.trans (hb3.mono hgN)).setCell hlo _, HF2.out.trans (hX.framedG hho hp3)⟩
    clear hX hgo hlen hA HS2 HB2 HF2 HE
    go_wp2_with fail
    refine HDel.mono ?_
    rintro e V3 ⟨rfl, hO3, hk3, hb3⟩
    obtain ⟨z21, f21, HR⟩ := HEND.out V3 hO3 hk3 hb3
    clear HEND HDel hO3 hk3 hb3
    go_wp2_with fail
    go_end0
    exact HR.out
set_option maxHeartbeats 1000000 in
theorem drop_any (W : World) (M N p n : Nat) (s : Scr) (rows : List (List C)) (hS : ShAt 46 W M N p s rows) (top bot : Nat) (hb : s.bot = bot) (hw : s.w = n) (hn1 : 1 ≤ n) (hn2 : n ≤ 120) (hg : top < rows.length) (hf : bot < rows.length) (hrl : rows.length ≤ 60) :
    Calls Tryz.prog 61 #[.pointer (some ⟨p, 0, none⟩), .int .i64 (top : Int)] W (Ran W M N p s (replR rows n s.sb top bot)) := by
  have H := replace_any W M N p n s rows hS top bot hw hn1 hn2 hg hf hrl
  obtain ⟨c0, c1, c3, c4, c5, c9, c10, c11, c19, f⟩ := hS.words
  rw [hb] at c10
  clear hS c0 c1 c3 c4 c5 c9 c11 c19 f
  go_enter Tryz.func61, Tryz.ntmps61
  go_wp2_with fail
  refine H.mono ?_
  rintro e V ⟨rfl, hS1, hB1, hF1⟩
  go_wp2_with fail
  go_end0
  exact ⟨rfl, hS1, hB1, hF1⟩
set_option maxHeartbeats 1000000 in
theorem down_any' (W : World) (M N p n : Nat) (s : Scr) (rows : List (List C)) (hS : ShAt 46 W M N p s rows) (top bot : Nat) (hb : s.bot = bot) (hw : s.w = n) (hn1 : 1 ≤ n) (hn2 : n ≤ 120) (hg : top < rows.length) (hf : bot < rows.length) (hrl : rows.length ≤ 60) :
    Calls Tryz.prog 59 #[.pointer (some ⟨p, 0, none⟩), .int .i64 (top : Int)] W (Ran W M N p s (replR rows n s.sb bot top)) := by
  have H := replace_any W M N p n s rows hS bot top hw hn1 hn2 hf hg hrl
  obtain ⟨c0, c1, c3, c4, c5, c9, c10, c11, c19, f⟩ := hS.words
  rw [hb] at c10
  clear hS c0 c1 c3 c4 c5 c9 c11 c19 f
  go_enter Tryz.func59, Tryz.ntmps59
  go_wp2_with fail
  refine H.mono ?_
  rintro e V ⟨rfl, hS1, hB1, hF1⟩
  go_wp2_with fail
  go_end0
  exact ⟨rfl, hS1, hB1, hF1⟩
/-- Rows move up, once. -/
def upS (s : Scr) (rows : List (List C)) (top : Nat) : Scr := if top = 0 then { s with gone := keepG s.gone (rows.getD 0 []) } else s
set_option maxHeartbeats 2000000 in
theorem up_any' (W : World) (M N p n : Nat) (s : Scr) (rows : List (List C)) (hS : ShAt 46 W M N p s rows) (top bot : Nat) (hb : s.bot = bot) (hw : s.w = n) (hn1 : 1 ≤ n) (hn2 : n ≤ 120) (hg : top < rows.length) (hf : bot < rows.length) (hrl : rows.length ≤ 60) (hgl : s.gone.length ≤ 50) :
    Calls Tryz.prog 64 #[.pointer (some ⟨p, 0, none⟩), .int .i64 (top : Int)] W (Ran W M N p (upS s rows top) (replR rows n s.sb top bot)) := by
  by_cases h0 : top = 0
  · subst h0
    have HU : Hid (upS s rows 0 = { s with gone := keepG s.gone (rows.getD 0 []) }) := rfl
    obtain ⟨cv, tv, gv, rv, gvs, vs, hA⟩ := hS
    obtain ⟨rb, rc, hrv, hrb, hrc1, hrc2, hvl, hrcell, A, hrA⟩ := own_cells hA.rws (by omega)
    subst hrv
    have c22 := (sh_cells hA.blk).2.1.2.2.2.2.2.2.2.2.2.2.2
    have d0 := hrcell 0 (by omega)
    have hri := hA.rin.2 0 (by omega)
    obtain ⟨va, vc, hsh⟩ := hri.shape
    rw [hsh] at d0 hri
    have HK := keep_any W M N p s rows ⟨_, _, _, _, _, _, hA⟩ _ _ hri hgl
    have HDR : Hid (∀ V, ShAt 46 V M N p { s with gone := keepG s.gone (rows.getD 0 []) } rows → Calls Tryz.prog 61 #[.pointer (some ⟨p, 0, none⟩), .int .i64 ((0 : Nat) : Int)] V (Ran V M N p { s with gone := keepG s.gone (rows.getD 0 []) } (replR rows n s.sb 0 bot))) := fun V h => drop_any V M N p n _ rows h 0 bot hb hw hn1 hn2 hg hf hrl
    have hl0 : (0 : Int) < (rows.length : Int) := by omega
    clear hA hrA hrcell hvl hsh hri
    generalize rows.getD 0 [] = row at *
    generalize replR rows n s.sb 0 bot = rows' at *
    go_enter Tryz.func64, Tryz.ntmps64
    go_wp2_with fail
    refine HK.mono ?_
    rintro e V ⟨rfl, hS1, hB1, hF1⟩
    have HD2 := HDR.out V hS1
    clear HK HDR c22 d0
    go_wp2_with fail
    refine HD2.mono ?_
    rintro e V2 ⟨rfl, hS2, hB2, hF2⟩
    go_wp2_with fail
    go_end0
    rw [HU.out]
    exact ⟨rfl, hS2, hB1.trans hB2, hF1.trans hF2⟩
  · have HU : Hid (upS s rows top = s) := by unfold Hid upS; rw [if_neg h0]
    have HD2 := drop_any W M N p n s rows hS top bot hb hw hn1 hn2 hg hf hrl
    have hz : ((top : Int) == 0) = false := by simp only [beq_eq_false_iff_ne, ne_eq]; omega
    clear hS
    go_enter Tryz.func64, Tryz.ntmps64
    go_wp2_with fail
    refine HD2.mono ?_
    rintro e V2 ⟨rfl, hS2, hB2, hF2⟩
    go_wp2_with fail
    go_end0
    rw [HU.out]
    exact ⟨rfl, hS2, hB2, hF2⟩
end Put
end Go.Proofs.YtmhmmpicedlcpaaGreatDoor

/- What is kept of rows that went. -/
namespace Go.Proofs.YtmhmmpicedlcpaaGreatDoor
open Go.ChangeShapes Go.WideShapes Go.ChangeAt Go.RowKit
namespace Put
open Grd (C)
theorem keepG_mem {g : List (List C)} {row r : List C} (h : r ∈ keepG g row) : r ∈ g ∨ r = row := by
  unfold keepG at h
  split at h
  · simpa using h
  · simpa using List.mem_of_mem_eraseIdx h
theorem keepG_rows {s : Scr} {n hh : Nat} (hR : RightS s n hh) (row : List C) (hr : row.length = n) : ∀ r, r ∈ keepG s.gone row → r.length ≤ 120 := by
  intro r hm
  rcases keepG_mem hm with h | h
  · have := (grid_size (hR.gr r h)).2.1
    omega
  · have := hR.n2
    rw [h, hr]
    omega
theorem rows_le {l : List (List C)} (h : ∀ r, r ∈ l → r.length ≤ 120) (i : Nat) (hi : i < l.length) : (l.getD i []).length ≤ 1048576 := by
  have e : l.getD i [] = l[i] := by simp [List.getD, hi]
  rw [e]
  have := h _ (List.getElem_mem hi)
  omega
theorem gone_le120 {s : Scr} {n hh : Nat} (hR : RightS s n hh) : ∀ r, r ∈ s.gone → r.length ≤ 120 := fun r hr => by
  have := (grid_size (hR.gr r hr)).2.1
  omega
end Put
end Go.Proofs.YtmhmmpicedlcpaaGreatDoor

/- Package shift: Feed hands a method on. (Written by gen_call.py.) -/
namespace Go.Proofs.YtmhmmpicedlcpaaGreatDoor
set_option linter.unusedVariables false
open Go.ChangeShapes Go.WideShapes Go.ChangeAt Go.RowKit
namespace Put
open Grd (C)
set_option maxHeartbeats 2000000 in
set_option maxRecDepth 100000 in
theorem feed_calls (s s' : Scr) (cv tv gv : Value) (er : Int) (w0 w : World) (hV : ScrV w0 s cv tv gv) (hM : w0.heap.size ≤ w.heap.size)
    (hC : ∀ (W : World) (_B : Nat), Below w.heap.size w W → Calls Tryz.prog 52 #[.agg (scrA s cv tv gv), .func (.func 57) #[] #[]] W (Made w0 W s' er)) :
    Calls Tryz.prog 26 #[.agg (scrA s cv tv gv)] w (Made w0 w s' er) := by
  obtain ⟨ca, cc, rfl⟩ := hV.c.shape
  obtain ⟨ta, tc, rfl⟩ := hV.t.slice
  obtain ⟨ga, gc, rfl⟩ := hV.g.slice
  have hkb : Below w.heap.size w ((w.alloc (.cells (scrA s (.slice ca s.cs.length cc) (.slice ta s.tabs.length tc) (.slice ga s.gone.length gc)) 32)).alloc (.cells #[.int .i64 0, .int .i64 0, .slice none 0 0, .int .i64 0, .int .i64 0, .bool false, .int .i64 0, .int .i64 0, .int .i64 0, .int .i64 0, .int .i64 0, .int .i64 0, .slice none 0 0, .int .i64 0, .int .i64 0, .int .i64 0, .int .i64 0, .int .i64 0, .int .i64 0, .int .i32 0, .string ⟨#[]⟩, .slice none 0 0] 32)) := (((Below.refl _ _).alloc (by simp) _).alloc (by simp) _)
  have hx0 : (w.alloc (.cells (scrA s (.slice ca s.cs.length cc) (.slice ta s.tabs.length tc) (.slice ga s.gone.length gc)) 32)).heap[w.heap.size]? = some (.cells (scrA s (.slice ca s.cs.length cc) (.slice ta s.tabs.length tc) (.slice ga s.gone.length gc)) 32 (0, 0)) := by
    have h := heap_alloc_new w (.cells (scrA s (.slice ca s.cs.length cc) (.slice ta s.tabs.length tc) (.slice ga s.gone.length gc)) 32)
    have e : w.heap.size = w.heap.size := by simp
    rw [e] at h
    exact h
  have hx0 := (Below.heap_alloc (w.alloc (.cells (scrA s (.slice ca s.cs.length cc) (.slice ta s.tabs.length tc) (.slice ga s.gone.length gc)) 32)) (.cells #[.int .i64 0, .int .i64 0, .slice none 0 0, .int .i64 0, .int .i64 0, .bool false, .int .i64 0, .int .i64 0, .int .i64 0, .int .i64 0, .int .i64 0, .int .i64 0, .slice none 0 0, .int .i64 0, .int .i64 0, .int .i64 0, .int .i64 0, .int .i64 0, .int .i64 0, .int .i32 0, .string ⟨#[]⟩, .slice none 0 0] 32) _ (heap_lt hx0)).trans hx0
  have hx1 : ((w.alloc (.cells (scrA s (.slice ca s.cs.length cc) (.slice ta s.tabs.length tc) (.slice ga s.gone.length gc)) 32)).alloc (.cells #[.int .i64 0, .int .i64 0, .slice none 0 0, .int .i64 0, .int .i64 0, .bool false, .int .i64 0, .int .i64 0, .int .i64 0, .int .i64 0, .int .i64 0, .int .i64 0, .slice none 0 0, .int .i64 0, .int .i64 0, .int .i64 0, .int .i64 0, .int .i64 0, .int .i64 0, .int .i32 0, .string ⟨#[]⟩, .slice none 0 0] 32)).heap[w.heap.size + 1]? = some (.cells #[.int .i64 0, .int .i64 0, .slice none 0 0, .int .i64 0, .int .i64 0, .bool false, .int .i64 0, .int .i64 0, .int .i64 0, .int .i64 0, .int .i64 0, .int .i64 0, .slice none 0 0, .int .i64 0, .int .i64 0, .int .i64 0, .int .i64 0, .int .i64 0, .int .i64 0, .int .i32 0, .string ⟨#[]⟩, .slice none 0 0] 32 (0, 0)) := by
    have h := heap_alloc_new (w.alloc (.cells (scrA s (.slice ca s.cs.length cc) (.slice ta s.tabs.length tc) (.slice ga s.gone.length gc)) 32)) (.cells #[.int .i64 0, .int .i64 0, .slice none 0 0, .int .i64 0, .int .i64 0, .bool false, .int .i64 0, .int .i64 0, .int .i64 0, .int .i64 0, .int .i64 0, .int .i64 0, .slice none 0 0, .int .i64 0, .int .i64 0, .int .i64 0, .int .i64 0, .int .i64 0, .int .i64 0, .int .i32 0, .string ⟨#[]⟩, .slice none 0 0] 32)
    have e : (w.alloc (.cells (scrA s (.slice ca s.cs.length cc) (.slice ta s.tabs.length tc) (.slice ga s.gone.length gc)) 32)).heap.size = w.heap.size + 1 := by simp
    rw [e] at h
    exact h
  have HX0 : Hid _ := hx0
  have HXR : Hid _ := hx1
  have HKB : Hid _ := hkb
  have HC := hC _ 0 hkb
  have hsz : w.heap.size ≤ ((w.alloc (.cells (scrA s (.slice ca s.cs.length cc) (.slice ta s.tabs.length tc) (.slice ga s.gone.length gc)) 32)).alloc (.cells #[.int .i64 0, .int .i64 0, .slice none 0 0, .int .i64 0, .int .i64 0, .bool false, .int .i64 0, .int .i64 0, .int .i64 0, .int .i64 0, .int .i64 0, .int .i64 0, .slice none 0 0, .int .i64 0, .int .i64 0, .int .i64 0, .int .i64 0, .int .i64 0, .int .i64 0, .int .i32 0, .string ⟨#[]⟩, .slice none 0 0] 32)).heap.size := hkb.size
  clear hkb hV hC hx0 hx1
  go_enter Tryz.func26, Tryz.ntmps26
  go_upto_region 1 with fail
  generalize ((w.alloc (.cells (scrA s (.slice ca s.cs.length cc) (.slice ta s.tabs.length tc) (.slice ga s.gone.length gc)) 32)).alloc (.cells #[.int .i64 0, .int .i64 0, .slice none 0 0, .int .i64 0, .int .i64 0, .bool false, .int .i64 0, .int .i64 0, .int .i64 0, .int .i64 0, .int .i64 0, .int .i64 0, .slice none 0 0, .int .i64 0, .int .i64 0, .int .i64 0, .int .i64 0, .int .i64 0, .int .i64 0, .int .i32 0, .string ⟨#[]⟩, .slice none 0 0] 32)) = X at *
  go_wp2_with (refine wpList_load_row rfl 32 (.tmp 1) rfl w.heap.size rfl _ _ _ _ HX0.out Tryz.underlying32 rfl (by kernel_rfl) ?_)
  refine HC.mono ?_
  rintro e V ⟨cv', tv', gv', rfl, hO, c2⟩
  obtain ⟨a1, n1, c1, a2, n2, c2', a3, n3, c3, rfl, rfl, rfl⟩ := hO.shapes
  have HO : Hid (ScrO V 0 _ s' _ _ _) := hO
  have HR : Hid (V.heap[w.heap.size + 1]? = _) := Grd.carry HXR.out c2
  have HB : Hid (Below w.heap.size w V) := HKB.out.trans (c2.mono HKB.out.size)
  clear hO c2 HC
  go_wp2_with (refine wpList_store_row rfl 32 (.tmp 2) (.tmp 6) rfl (w.heap.size + 1) (scrA s' (.slice a1 n1 c1) (.slice a2 n2 c2') (.slice a3 n3 c3)) rfl rfl _ _ HR.out (by kernel_rfl) rfl (scr_one _ _ _ _ _ _ _ _ _ _) ?_)
  (try simp only [Exit.inBlock, Exit.then])
  refine bodyPost_ret (v := .tuple #[.agg (scrA s' (.slice a1 n1 c1) (.slice a2 n2 c2') (.slice a3 n3 c3)), .int .i64 er]) ?_ rfl ⟨_, _, _, rfl, ?_, below_setRow HB.out (by omega) _⟩
  · exact Grd.results_row_tmp rfl _ _ (w.heap.size + 1) _ _ _ _ rfl (setRow_heap _ _ _ _ _ _ HR.out) Tryz.underlying32 rfl (by kernel_rfl) _ rfl
  · exact (ScrO.off HO.out HR.out screen_is (by omega) fun k hk => setRow_other _ _ _ _ hk).mono hsz
end Put
end Go.Proofs.YtmhmmpicedlcpaaGreatDoor

/- Rows that move, as values. -/
namespace Go.Proofs.YtmhmmpicedlcpaaGreatDoor
open Go.ChangeShapes Go.WideShapes Go.ChangeAt Go.RowKit
namespace Put
open Grd (C)
def iterN {α : Type} (f : α → α) : Nat → α → α
  | 0, x => x
  | k + 1, x => f (iterN f k x)
/-- Rows move up, once; what leaves at the top may be kept. -/
def rUp (n top bot : Nat) (keep : Bool) (x : Scr × List (List C)) : Scr × List (List C) := (if top = 0 ∧ keep = true then { x.1 with gone := keepG x.1.gone (x.2.getD 0 []) } else x.1, replR x.2 n x.1.sb top bot)
/-- Rows move down, once. -/
def rDn (n top bot : Nat) (x : Scr × List (List C)) : Scr × List (List C) := (x.1, replR x.2 n x.1.sb bot top)
/-- What stays while rows move. -/
structure Rolls (n bot hh : Nat) (bk : Int) (x : Scr × List (List C)) : Prop where
  w : x.1.w = n
  b : x.1.bot = bot
  k : x.1.sb = bk
  r : x.2.length = hh
  g : x.1.gone.length ≤ 50
theorem Rolls.up {n bot hh : Nat} {bk : Int} {x : Scr × List (List C)} (h : Rolls n bot hh bk x) (top : Nat) (keep : Bool) (ht : top < hh) (hb : bot < hh) : Rolls n bot hh bk (rUp n top bot keep x) := by
  have hr : (replR x.2 n x.1.sb top bot).length = hh := by rw [replR_len _ _ _ _ _ (by rw [h.r]; exact ht) (by rw [h.r]; exact hb), h.r]
  unfold rUp
  split
  · exact ⟨h.w, h.b, h.k, hr, keepG_len _ _ h.g⟩
  · exact ⟨h.w, h.b, h.k, hr, h.g⟩
theorem Rolls.dn {n bot hh : Nat} {bk : Int} {x : Scr × List (List C)} (h : Rolls n bot hh bk x) (top : Nat) (ht : top < hh) (hb : bot < hh) : Rolls n bot hh bk (rDn n top bot x) :=
  ⟨h.w, h.b, h.k, by show (replR x.2 n x.1.sb bot top).length = hh; rw [replR_len _ _ _ _ _ (by rw [h.r]; exact hb) (by rw [h.r]; exact ht), h.r], h.g⟩
end Put
end Go.Proofs.YtmhmmpicedlcpaaGreatDoor

/- (*sheet.Sheet).Feed at Bottom; shift's Back, moveRows. -/
namespace Go.Proofs.YtmhmmpicedlcpaaGreatDoor
open Go.ChangeShapes Go.WideShapes Go.ChangeAt Go.RowKit
namespace Put
open Grd (C SliceAt CellsAt gridErr z0 nilV flat rowsL)
set_option maxHeartbeats 2000000 in
set_option maxRecDepth 100000 in
theorem feed_roll (W : World) (M N p n : Nat) (s : Scr) (rows : List (List C)) (hS : ShAt 46 W M N p s rows) (top bot : Nat) (ht : s.top = top) (hb : s.bot = bot) (hy : s.y = s.bot) (hw : s.w = n) (hn1 : 1 ≤ n) (hn2 : n ≤ 120) (hg : top < rows.length) (hf : bot < rows.length) (hrl : rows.length ≤ 60) (hgl : s.gone.length ≤ 50) :
    Calls Tryz.prog 57 #[.pointer (some ⟨p, 0, none⟩)] W (Ran W M N p (upS { s with late := false } rows top) (replR rows n s.sb top bot)) := by
  obtain ⟨c0, c1, c3, c4, c5, c9, c10, c11, c19, f⟩ := hS.words
  have f5 := f 5
  obtain ⟨hS1, hB1, hF1⟩ := hS.put 5 (.bool false) (s' := { s with late := false }) (fun _ _ _ _ => rfl) rfl rfl
  have HS1 : Hid (ShAt 46 (W.setCell ⟨p, 5, none⟩ (.bool false)) M N p { s with late := false } rows) := hS1
  have HB1 : Hid (Below N W (W.setCell ⟨p, 5, none⟩ (.bool false))) := hB1
  have HF1 : Hid (Framed W (W.setCell ⟨p, 5, none⟩ (.bool false))) := hF1
  have HU : Hid (∀ V, ShAt 46 V M N p { s with late := false } rows → Calls Tryz.prog 64 #[.pointer (some ⟨p, 0, none⟩), .int .i64 (top : Int)] V (Ran V M N p (upS { s with late := false } rows top) (replR rows n s.sb top bot))) := fun V h => up_any' V M N p n _ rows h top bot hb hw hn1 hn2 hg hf hrl hgl
  have HT : Hid (s.top = top) := ht
  have hq : (s.y == s.bot) = true := by rw [beq_iff_eq]; exact hy
  clear hS1 hB1 hF1 hS hy hb ht c0 c1 c3 c4 c9 c10 c11 c19 f
  generalize upS { s with late := false } rows top = s' at *
  generalize replR rows n s.sb top bot = rows' at *
  go_enter Tryz.func57, Tryz.ntmps57
  go_upto_region 1 with fail
  obtain ⟨-, -, -, d4, -, d9, d10, -, -, df⟩ := HS1.out.words
  clear c5 f5 df
  generalize (W.setCell ⟨p, 5, none⟩ (.bool false)) = X at *
  go_region
  have HSd : Hid (ShAt 46 X.drew M N p { s with late := false } rows) := HS1.out.drew
  have HB2 : Hid (Below N W X.drew) := HB1.out.drew
  have HF2 : Hid (Framed W X.drew) := HF1.out.trans (Framed.of_below ((Below.refl _ _).drew))
  clear d4 d9 d10 HS1 HB1 HF1
  generalize X.drew = Y at *
  obtain ⟨-, -, -, -, -, d9, -, -, -, df⟩ := HSd.out.words
  replace d9 : Y.cell? ⟨p, 9, none⟩ = some (.int .i64 s.top) := d9
  rw [HT.out] at d9
  have HU2 := HU.out Y HSd.out
  clear df HU HSd
  go_wp2_with fail
  refine HU2.mono ?_
  rintro e V ⟨rfl, hS2, hB3, hF3⟩
  go_wp2_with fail
  go_end0
  exact ⟨rfl, hS2, HB2.out.trans hB3, HF2.out.trans hF3⟩
def dfeedR (s : Scr) (rows : List (List C)) (n top bot : Nat) : List (List C) := if s.y = s.bot then replR rows n s.sb top bot else rows
/-- To the row above. -/
def backS (s : Scr) : Scr := if s.y = s.top then { s with late := false } else if 0 < s.y then { s with late := false, y := s.y - 1 } else { s with late := false }
set_option maxHeartbeats 4000000 in
set_option maxRecDepth 100000 in
theorem back_does (M n : Nat) (w : World) (s : Scr) (rows : List (List C)) (top bot : Nat) (ht : s.top = top) (hb : s.bot = bot) (hy0 : 0 ≤ s.y) (hy1 : s.y ≤ 60) (hw : s.w = n) (hn1 : 1 ≤ n) (hn2 : n ≤ 120) (hg : top < rows.length) (hf : bot < rows.length) (hrl : rows.length ≤ 60) :
    Does 58 #[] M w s (backS s) rows (if s.y = s.top then replR rows n s.sb bot top else rows) := by
  intro W p hbw hS
  show Calls _ _ #[.pointer (some ⟨p, 0, none⟩)] _ _
  obtain ⟨c0, c1, c3, c4, c5, c9, c10, c11, c19, f⟩ := hS.words
  have f5 := f 5
  obtain ⟨hS1, hB1, hF1⟩ := hS.put 5 (.bool false) (s' := { s with late := false }) (fun _ _ _ _ => rfl) rfl rfl
  have HS1 : Hid (ShAt 46 (W.setCell ⟨p, 5, none⟩ (.bool false)) M w.heap.size p { s with late := false } rows) := hS1
  have HB1 : Hid (Below w.heap.size W (W.setCell ⟨p, 5, none⟩ (.bool false))) := hB1
  have HDN : Hid (∀ V, ShAt 46 V M w.heap.size p { s with late := false } rows → Calls Tryz.prog 59 #[.pointer (some ⟨p, 0, none⟩), .int .i64 (top : Int)] V (Ran V M w.heap.size p { s with late := false } (replR rows n s.sb bot top))) := fun V h => down_any' V M w.heap.size p n _ rows h top bot hb hw hn1 hn2 hg hf hrl
  have HT : Hid (s.top = top) := ht
  have HE : Hid (backS s = if s.y = s.top then { s with late := false } else if 0 < s.y then { s with late := false, y := s.y - 1 } else { s with late := false }) := rfl
  clear hS1 hB1 hF1 hS hb ht c0 c1 c3 c4 c9 c10 c11 c19 f
  generalize backS s = s' at *
  generalize replR rows n s.sb bot top = rows' at *
  by_cases hq0 : s.y = s.top
  · have hq : (s.y == s.top) = true := by rw [beq_iff_eq]; exact hq0
    have HE2 : Hid (s' = { s with late := false } ∧ (if s.y = s.top then rows' else rows) = rows') := ⟨by rw [HE.out, if_pos hq0], by rw [if_pos hq0]⟩
    generalize (if s.y = s.top then rows' else rows) = rr at *
    clear hq0
    go_enter Tryz.func58, Tryz.ntmps58
    go_upto_region 1 with fail
    obtain ⟨-, -, -, d4, -, d9, -, -, -, df⟩ := HS1.out.words
    clear c5 f5 df
    generalize (W.setCell ⟨p, 5, none⟩ (.bool false)) = X at *
    go_region
    have HSd : Hid (ShAt 46 X.drew M w.heap.size p { s with late := false } rows) := HS1.out.drew
    have HB2 : Hid (Below w.heap.size W X.drew) := HB1.out.drew
    clear d4 d9 HS1 HB1
    generalize X.drew = Y at *
    obtain ⟨-, -, -, -, -, d9, -, -, -, df⟩ := HSd.out.words
    replace d9 : Y.cell? ⟨p, 9, none⟩ = some (.int .i64 s.top) := d9
    rw [HT.out] at d9
    have HU2 := HDN.out Y HSd.out
    clear df HDN HSd
    go_wp2_with fail
    refine HU2.mono ?_
    rintro e V ⟨rfl, hS2, hB3, hF3⟩
    go_wp2_with fail
    go_end0
    rw [HE2.out.1, HE2.out.2]
    exact ⟨rfl, hS2, HB2.out.trans hB3⟩
  · have hq : (s.y == s.top) = false := by rw [beq_eq_false_iff_ne]; exact hq0
    have HR : Hid ((if s.y = s.top then rows' else rows) = rows) := by rw [Hid, if_neg hq0]
    generalize (if s.y = s.top then rows' else rows) = rr at *
    have HE1 : Hid (s' = if 0 < s.y then { s with late := false, y := s.y - 1 } else { s with late := false }) := by rw [Hid, HE.out, if_neg hq0]
    clear hq0 HE HDN
    go_enter Tryz.func58, Tryz.ntmps58
    go_upto_region 1 with fail
    obtain ⟨-, -, -, d4, -, d9, -, -, -, df⟩ := HS1.out.words
    clear c5 f5 df
    generalize (W.setCell ⟨p, 5, none⟩ (.bool false)) = X at *
    go_region
    have HSd : Hid (ShAt 46 X.drew M w.heap.size p { s with late := false } rows) := HS1.out.drew
    have HB2 : Hid (Below w.heap.size W X.drew) := HB1.out.drew
    clear d4 d9 HS1 HB1
    generalize X.drew = Y at *
    obtain ⟨-, -, -, d4, -, -, -, -, -, df⟩ := HSd.out.words
    replace d4 : Y.cell? ⟨p, 4, none⟩ = some (.int .i64 s.y) := d4
    have g4 := df 4
    by_cases hlt : 0 < s.y
    · have HE2 : Hid (s' = { s with late := false, y := s.y - 1 }) := by rw [Hid, HE1.out, if_pos hlt]
      have hw2 : IntKind.i64.wrap (s.y - 1) = s.y - 1 := wrap_id _ (by omega) (by omega)
      obtain ⟨hS4, hB4, hF4⟩ := HSd.out.put 4 (.int .i64 (s.y - 1)) (s' := { s with late := false, y := s.y - 1 }) (fun _ _ _ _ => rfl) rfl rfl
      have HR4 : Hid (ShAt 46 (Y.setCell ⟨p, 4, none⟩ (.int .i64 (s.y - 1))) M w.heap.size p { s with late := false, y := s.y - 1 } rows ∧ Below w.heap.size W (Y.setCell ⟨p, 4, none⟩ (.int .i64 (s.y - 1)))) := ⟨hS4, HB2.out.trans hB4⟩
      clear hS4 hB4 hF4 df HSd
      go_wp2_with fail
      go_end0
      rw [HE2.out, HR.out]
      exact ⟨rfl, HR4.out⟩
    · have HE2 : Hid (s' = { s with late := false }) := by rw [Hid, HE1.out, if_neg hlt]
      clear df
      go_wp2_with fail
      go_end0
      rw [HE2.out, HR.out]
      exact ⟨rfl, HSd.out, HB2.out⟩
end Put
end Go.Proofs.YtmhmmpicedlcpaaGreatDoor

/- The reference's desk: other rows, other rows that are gone; empty. -/
namespace Go.Proofs.YtmhmmpicedlcpaaGreatDoor
open Go.ChangeShapes Go.WideShapes Go.ChangeAt Go.RowKit
namespace Put
open Grd (C SliceAt CellsAt gridErr z0 nilV flat rowsL OwnG RowB RowsAt)
theorem RowsAt.erase {W : World} {N : Nat} {vs : List Value} {gs : List Nat} {rows : List (List C)} (h : RowsAt W N vs gs rows) (i : Nat) (hi : i < rows.length) : RowsAt W N (vs.eraseIdx i) (gs.eraseIdx i) (rows.eraseIdx i) := by
  obtain ⟨h1, h2, h3, h4⟩ := h
  refine ⟨by rw [List.length_eraseIdx_of_lt (by omega), List.length_eraseIdx_of_lt hi, h1], by rw [List.length_eraseIdx_of_lt (by omega), List.length_eraseIdx_of_lt hi, h2], h3.sublist (List.eraseIdx_sublist _ _), fun j hj => ?_⟩
  rw [List.length_eraseIdx_of_lt hi] at hj
  rw [getD_erase, getD_erase, getD_erase]
  split
  · exact h4 j (by omega)
  · exact h4 (j + 1) (by omega)
theorem mem_insert {l : List Nat} {i x g : Nat} (hi : i ≤ l.length) (h : g ∈ l.insertIdx i x) : g = x ∨ g ∈ l := by
  rw [List.mem_insertIdx hi] at h
  exact h
theorem nodup_insert {l : List Nat} {i x : Nat} (h : l.Nodup) (hx : x ∉ l) (hi : i ≤ l.length) : (l.insertIdx i x).Nodup := by
  have hp := List.perm_insertIdx x l hi
  rw [hp.nodup_iff, List.nodup_cons]
  exact ⟨hx, h⟩
theorem RowsAt.insert {W : World} {N : Nat} {vs : List Value} {gs : List Nat} {rows : List (List C)} (h : RowsAt W N vs gs rows) (i : Nat) (hi : i ≤ rows.length) (v : Value) (g : Nat) (row : List C) (hg : N ≤ g) (hn : g ∉ gs) (hr : RowB W g v row) : RowsAt W N (vs.insertIdx i v) (gs.insertIdx i g) (rows.insertIdx i row) := by
  obtain ⟨h1, h2, h3, h4⟩ := h
  refine ⟨by rw [List.length_insertIdx_of_le_length (by omega), List.length_insertIdx_of_le_length hi, h1], by rw [List.length_insertIdx_of_le_length (by omega), List.length_insertIdx_of_le_length hi, h2], nodup_insert h3 hn (by omega), fun j hj => ?_⟩
  rw [List.length_insertIdx_of_le_length hi] at hj
  rw [getD_insert _ _ _ _ _ (by omega), getD_insert _ _ _ _ _ (by omega), getD_insert _ _ _ _ _ hi]
  split
  · exact h4 j (by omega)
  · split
    · exact ⟨hg, hr⟩
    · exact h4 (j - 1) (by omega)
theorem RowsAt.sls {W : World} {N : Nat} {vs : List Value} {gs : List Nat} {rows : List (List C)} (h : RowsAt W N vs gs rows) : ∀ v, v ∈ vs → IsSl v := by
  intro v hv
  obtain ⟨i, hi, rfl⟩ := List.mem_iff_getElem.1 hv
  obtain ⟨cap, rest, e, -⟩ := (h.2.2.2 i (by rw [← h.1]; exact hi)).2
  have e2 : vs.getD i nilV = vs[i] := by simp [List.getD, hi]
  rw [e2] at e
  exact ⟨(_, _, cap), e⟩
/-- The blocks of rows are kept where one block of another kind changes. -/
theorem RowsAt.off {W V : World} {N rb : Nat} {vs : List Value} {gs : List Nat} {rows : List (List C)} {A : Array Value} {t : TypeId} {f : Nat × Nat} (h : RowsAt W N vs gs rows) (hA : W.heap[rb]? = some (.cells A t f)) (ht : t ≠ 73) (ho : ∀ k, k < W.heap.size → k ≠ rb → V.heap[k]? = W.heap[k]?) : RowsAt V N vs gs rows :=
  h.kept fun i hi => ho _ (h.lt i hi) fun e => by
    obtain ⟨B, hB⟩ := rowB_type (h.2.2.2 i hi).2
    rw [e, hA] at hB
    injection hB with hB
    injection hB with _ hB _
    exact ht hB
/-- A desk, where a row that is gone may be one of the rows still. -/
structure DkX (W : World) (N p : Nat) (s : Scr) (rows : List (List C)) (cv tv gv rv : Value) (gvs vs : List Value) (gs : List Nat) : Prop where
  blk : W.heap[p]? = some (.cells (shA s cv tv gv rv) 67 (0, 0))
  lo : N ≤ p
  cvs : ∃ a n c, cv = .slice a n c
  tabs : W.ownsRow N 4 1 tv s.tabs.length (s.tabs.map Value.bool)
  gone : GoneV W N gv s.gone.length gvs
  gin : RowsIn W N gvs s.gone
  rws : W.ownsRow N 22 1 rv rows.length vs
  rin : RowsAt W N vs gs rows
  two : ∀ k, rv.ownBlock = some k → gv.ownBlock ≠ some k
theorem DkA.x {W : World} {N p : Nat} {s : Scr} {rows : List (List C)} {cv tv gv rv : Value} {gvs vs : List Value} {gs : List Nat} (h : DkA W N p s rows cv tv gv rv gvs vs gs) : DkX W N p s rows cv tv gv rv gvs vs gs := ⟨h.blk, h.lo, h.cvs, h.tabs, h.gone, h.gin, h.rws, h.rin, h.two⟩
theorem DkX.next {W W' : World} {N p : Nat} {s : Scr} {rows : List (List C)} {cv tv gv rv : Value} {gvs vs : List Value} {gs : List Nat} (h : DkX W N p s rows cv tv gv rv gvs vs gs) (hb : Below W.heap.size W W') : DkX W' N p s rows cv tv gv rv gvs vs gs :=
  ⟨Grd.carry h.blk hb, h.lo, h.cvs, own_next h.tabs hb, h.gone.next hb, h.gin.keep (Kept.of_below hb), own_next h.rws hb, h.rin.below hb, h.two⟩
/-- Other rows in the same block. -/
theorem DkX.rowsNew {W V : World} {N p : Nat} {s : Scr} {rows rows' : List (List C)} {cv tv gv rv rv' : Value} {gvs vs vs' : List Value} {gs gs' : List Nat} {rb : Nat} (h : DkX W N p s rows cv tv gv rv gvs vs gs) (hrb : rv.ownBlock = some rb) (hrb' : rv'.ownBlock = some rb)
    (ho : ∀ k, k < W.heap.size → k ≠ rb → V.heap[k]? = W.heap[k]?) (hw : V.ownsRow N 22 1 rv' rows'.length vs') (hr : RowsAt V N vs' gs' rows') (hgf : ∀ i, i < s.gone.length → s.gone.getD i [] ≠ [] → ∀ g, blkOf (gvs.getD i nilV) = some g → g ∉ gs') :
    DkA (V.setCell ⟨p, 22, none⟩ rv') N p s rows' cv tv gv rv' gvs vs' gs' := by
  obtain ⟨hlo, A, f, hA⟩ := owns_block h.rws rb hrb
  have hpr : p ≠ rb := by
    intro e
    rw [← e, h.blk] at hA
    injection hA with hA
    injection hA with _ hA _
    exact absurd hA (by decide)
  have hp : V.heap[p]? = some (.cells (shA s cv tv gv rv) 67 (0, 0)) := (ho p (heap_lt h.blk) hpr).trans h.blk
  have hk1 : Kept N W V := fun k hk hS => ho k hk fun e => by
    subst e
    rcases hS with hS | ⟨B, f', hS⟩
    · omega
    · rw [hA] at hS
      injection hS with hS
      injection hS with _ hS _
      exact absurd hS (by decide)
  have hoff : ∀ k, k ≠ p → (V.setCell ⟨p, 22, none⟩ rv').heap[k]? = V.heap[k]? := fun k hk => store_off hk
  have hk2 : Kept N V (V.setCell ⟨p, 22, none⟩ rv') := Kept.apart hp (by decide) h.lo hoff
  refine ⟨store_at hp rfl, h.lo, h.cvs, ?_, ?_, (h.gin.keep hk1).keep hk2, hgf, own_apart hw hp (by decide) hoff, RowsAt.apart hr hp (by decide) hoff, fun k hk e => ?_⟩
  · refine own_apart (owns_kept h.tabs fun k hk => ?_) hp (by decide) hoff
    obtain ⟨-, B, f', hB⟩ := owns_block h.tabs k hk
    refine ho k (heap_lt hB) fun e => ?_
    rw [e, hA] at hB
    injection hB with hB
    injection hB with _ hB _
    exact absurd hB (by decide)
  · refine GoneV.apart (W := V) ?_ hp (by decide) hoff
    obtain ⟨q0, q | ⟨g, o, cap, B, hv, q1, q2, q3, q4, q5⟩⟩ := h.gone
    · exact ⟨q0, .inl q⟩
    · refine ⟨q0, .inr ⟨g, o, cap, B, hv, q1, q2, q3, (ho g (heap_lt q4) fun e => ?_).trans q4, q5⟩⟩
      exact h.two rb hrb (by rw [hv, e]; rfl)
  · rw [hrb'] at hk
    exact h.two k (by rw [hrb]; exact hk) e
/-- Another list of what is gone, in a block of its own that is new. -/
theorem DkX.goneNew {W V : World} {N p : Nat} {s s' : Scr} {rows : List (List C)} {cv tv gv gv' rv : Value} {gvs gvs' vs : List Value} {gs : List Nat} (h : DkX W N p s rows cv tv gv rv gvs vs gs) (hs' : { s with gone := s'.gone } = s')
    (hb : Below W.heap.size W V) (hw : GoneV V N gv' s'.gone.length gvs') (hr : RowsIn V N gvs' s'.gone) (hat : ∀ k, gv'.ownBlock = some k → rv.ownBlock ≠ some k) :
    DkX (V.setCell ⟨p, 21, none⟩ gv') N p s' rows cv tv gv' rv gvs' vs gs := by
  have h2 := h.next hb
  have hoff : ∀ k, k ≠ p → (V.setCell ⟨p, 21, none⟩ gv').heap[k]? = V.heap[k]? := fun k hk => store_off hk
  have htb : s'.tabs = s.tabs := by rw [← hs']
  refine ⟨store_at h2.blk ?_, h.lo, h.cvs, ?_, hw.apart h2.blk (by decide) hoff, hr.keep (Kept.apart h2.blk (by decide) h.lo hoff), own_apart h2.rws h2.blk (by decide) hoff, RowsAt.apart h2.rin h2.blk (by decide) hoff, fun k hk e => hat k e hk⟩
  · rw [← hs']
    rfl
  · rw [htb]
    exact own_apart h2.tabs h2.blk (by decide) hoff
end Put
end Go.Proofs.YtmhmmpicedlcpaaGreatDoor

/- Clones of rows of values. (Cut out of RefEmpty.) -/
namespace Go.Proofs.YtmhmmpicedlcpaaGreatDoor
open Go.ChangeShapes Go.WideShapes Go.ChangeAt Go.RowKit
namespace Put
open Grd (C SliceAt CellsAt gridErr z0 nilV flat rowsL OwnG RowB RowsAt)
set_option maxHeartbeats 2000000 in
/-- A list of rows is cloned: the same values in a block of their own. -/
theorem cloneVals {N : Nat} (v : Value) (n : Nat) (vs : List Value) (w : World) (hV : GoneV w N v n vs) (hs : ∀ u, u ∈ vs → IsSl u) (hl : n ≤ 1048576) :
    Calls Tryz.prog 112 #[v] w fun e w' => ∃ a c, e = .returned (.slice a n c) ∧ w'.ownsRow w.heap.size 22 1 (.slice a n c) n vs ∧ Below w.heap.size w w' := by
  obtain ⟨i0, hi, hzz⟩ := Option.map_eq_some_iff.1 info_rows
  simp only [Prod.mk.injEq] at hzz
  obtain ⟨hz0, hz1, hz2⟩ := hzz
  have qn : ∀ (w : World) (a : Option Addr) (n c n' c' : Nat), (binOp .eql 30 (.slice a n c) (.slice none n' c')).run Tryz.prog w = .ok (.bool a.isNone) w := fun w a n c n' c' => Lib.run_eql_slice_nil w _ _ a n c n' c' und_rows
  have kb : Below w.heap.size w (w.alloc (.cells #[] 22)) := (Below.refl _ _).alloc (Nat.le_refl _) _
  obtain ⟨hvl, ⟨rfl, p, c, rfl⟩ | ⟨b, o, c, A, rfl, hN, hc, hm, hA, hC⟩⟩ := hV
  · have hnil : vs = [] := List.eq_nil_of_length_eq_zero hvl
    subst hnil
    cases p with
    | none =>
      go_enter Tryz.func112, Tryz.ntmps112
      go_wp2_with fail
      go_ret
      exact ⟨_, _, rfl, World.ownsRow_nil _ _ _ _, Below.refl _ _⟩
    | some ad =>
      go_enter Tryz.func112, Tryz.ntmps112
      go_wp2_with (at_builtin; refine wpList_append_own _ rfl _ _ 30 rfl w.heap.size 22 i0 (.slice none 0 0) 1 24 und_rows hi hz0 hz1 hz2 rfl (by decide) _ _ _ rfl (World.ownsRow_made w #[] 0 (Nat.le_refl _) (Nat.zero_le _) rfl) ad 0 c [] rfl rfl (by simp) (by simp) (by unfold maxLen; omega) (by omega) (by simp) ?_)
      intro v' w1 hown hgrow hnil
      obtain ⟨va, vc, rfl⟩ := own_slice hown
      go_wp2_with fail
      go_ret
      exact ⟨va, vc, rfl, hown, ((Below.refl _ w).alloc (Nat.le_refl _) _).grown hgrow (by simp) (by intro k hk; simp [Value.ownBlock] at hk; omega)⟩
  · have HF : Hid (vs.length = n * 1) := by rw [Nat.mul_one]; exact hvl
    have HO : Hid (∀ u ∈ vs, u.oneCell' = true) := fun u hu => by obtain ⟨x, rfl⟩ := hs u hu; rfl
    have HS : Hid (∀ j u, vs[j]? = some u → (w.alloc (.cells #[] 22)).cell? ((⟨b, o, none⟩ : Addr).add j) = some u) := fun j u hj => by
      rw [Addr.add_lit]
      refine cell_stay kb ?_
      have hlt := (List.getElem?_eq_some_iff.1 hj).1
      have e := hC j (by omega)
      have e2 : vs.getD j nilV = u := by simp [List.getD, hj]
      simp only [World.cell?, hA]
      rw [e2] at e
      simp only [Option.isSome_none, Bool.false_eq_true, if_false]
      exact e
    clear hC hA hs
    go_enter Tryz.func112, Tryz.ntmps112
    go_wp2_with (at_builtin; refine wpList_append_own _ rfl _ _ 30 rfl w.heap.size 22 i0 (.slice none 0 0) 1 24 und_rows hi hz0 hz1 hz2 rfl (by decide) _ _ _ rfl (World.ownsRow_made w #[] 0 (Nat.le_refl _) (Nat.zero_le _) rfl) ⟨b, o, none⟩ n c vs rfl HF.out HS.out HO.out (by unfold maxLen; omega) (by omega) (by simp) ?_)
    intro v' w1 hown hgrow hnil
    obtain ⟨va, vc, rfl⟩ := own_slice hown
    go_wp2_with fail
    go_ret
    exact ⟨va, vc, rfl, hown, ((Below.refl _ w).alloc (Nat.le_refl _) _).grown hgrow (by simp) (by intro k hk; simp [Value.ownBlock] at hk; omega)⟩
end Put
end Go.Proofs.YtmhmmpicedlcpaaGreatDoor

/- The reference's desk: blank, empty; rows that are cloned, value by value. -/
namespace Go.Proofs.YtmhmmpicedlcpaaGreatDoor
open Go.ChangeShapes Go.WideShapes Go.ChangeAt Go.RowKit
namespace Put
open Grd (C SliceAt CellsAt gridErr z0 nilV flat rowsL OwnG RowB RowsAt)
theorem rowB_shapeS {W : World} {g : Nat} {v : Value} {row : List C} (h : RowB W g v row) : ∃ a c, v = .slice a row.length c := by
  obtain ⟨cap, rest, hv, -⟩ := h
  exact ⟨_, cap, hv⟩
set_option maxHeartbeats 2000000 in
theorem dblankS_any (p : Nat) (bk : Int) (V : World) (h : V.cell? ⟨p, 7, none⟩ = some (.int .i64 bk)) : Calls Tryz.prog 83 #[.pointer (some ⟨p, 0, none⟩)] V fun e V' => e = .returned (.agg #[.int .i32 32, .int .i64 0, .int .i64 bk, .int .i64 0]) ∧ Below V.heap.size V V' := by
  have x0 := heap_alloc_new V (.cells #[.int .i32 0, .int .i64 0, .int .i64 0, .int .i64 0] 73)
  have kb : Below V.heap.size V (V.alloc (.cells #[.int .i32 0, .int .i64 0, .int .i64 0, .int .i64 0] 73)) := (Below.refl _ _).alloc (Nat.le_refl _) _
  have h1 := cell_stay kb h
  have HX0 : Hid _ := x0
  have HKB : Hid _ := kb
  clear x0 kb h
  go_enter Tryz.func83, Tryz.ntmps83
  go_upto_region 1 with fail
  generalize V.alloc (.cells #[.int .i32 0, .int .i64 0, .int .i64 0, .int .i64 0] 73) = Y at *
  go_wp2_with (refine wpList_store_row rfl 73 (.tmp 2) _ rfl V.heap.size #[.int .i32 32, .int .i64 0, .int .i64 bk, .int .i64 0] rfl rfl _ _ HX0.out (by kernel_rfl) rfl (one4w _ _ _ _) ?_)
  (try simp only [Exit.inBlock, Exit.then])
  refine bodyPost_ret (v := .agg #[.int .i32 32, .int .i64 0, .int .i64 bk, .int .i64 0]) ?_ rfl ⟨rfl, below_setRow HKB.out (Nat.le_refl _) _⟩
  exact results_cell_row rfl _ _ V.heap.size _ _ _ _ rfl (setRow_heap _ _ _ _ _ _ HX0.out) Tryz.underlying73 rfl (by kernel_rfl)
set_option maxHeartbeats 4000000 in
theorem emptyS_any (p n : Nat) (bk : Int) (W : World) (h0 : W.cell? ⟨p, 0, none⟩ = some (.int .i64 (n : Int))) (h7 : W.cell? ⟨p, 7, none⟩ = some (.int .i64 bk)) (hn1 : 1 ≤ n) (hn2 : n ≤ 120) :
    Calls Tryz.prog 79 #[.pointer (some ⟨p, 0, none⟩)] W fun e W' => ∃ v g, e = .returned v ∧ W.heap.size ≤ g ∧ RowB W' g v (List.replicate n (32, 0, bk, 0)) ∧ Below W.heap.size W W' := by
  have b0 : Below W.heap.size W W.drew := (Below.refl _ _).drew
  have s0 := cell_stay b0 h0
  have HB : Hid (∀ V, Below W.heap.size W V → Calls Tryz.prog 83 #[.pointer (some ⟨p, 0, none⟩)] V fun e V' => e = .returned (.agg #[.int .i32 32, .int .i64 0, .int .i64 bk, .int .i64 0]) ∧ Below V.heap.size V V') := fun V hV => dblankS_any p bk V (cell_stay hV h7)
  have H0 : Hid (W.cell? ⟨p, 0, none⟩ = some (.int .i64 (n : Int))) := h0
  have HRP : Hid (∀ V : World, Calls Tryz.prog 82 #[.slice (some ⟨V.heap.size, 0, none⟩) 1 1, .int .i64 (n : Int)] (V.alloc (.cells #[.int .i32 32, .int .i64 0, .int .i64 bk, .int .i64 0] 73)) fun e w' => ∃ v', e = .returned v' ∧ OwnG w' (V.alloc (.cells #[.int .i32 32, .int .i64 0, .int .i64 bk, .int .i64 0] 73)).heap.size v' (List.replicate n (32, 0, bk, 0)) ∧ Below (V.alloc (.cells #[.int .i32 32, .int .i64 0, .int .i64 bk, .int .i64 0] 73)).heap.size (V.alloc (.cells #[.int .i32 32, .int .i64 0, .int .i64 bk, .int .i64 0] 73)) w') := fun V => Grd.repeat_one V.heap.size 0 1 n (32, 0, bk, 0) _ (Grd.cellsAt_flat (rest := []) (t := 73) (heap_alloc_new V _)) hn1 (by omega)
  clear h0 h7
  go_enter Tryz.func79, Tryz.ntmps79
  go_upto_region 1 with fail
  go_region_held3 (fun w' => w'.cell? ⟨p, 0, none⟩ = some (.int .i64 (n : Int)))
    (first | exact s3 | exact s2 | exact s1 | exact s0)
    (first
      | (go_at_call 82; refine (HRP.out V1).mono ?_; rintro e V2 ⟨v2, rfl, ho, b2⟩; have q3 := q2.trans (b2.mono q2.size); have s3 := cell_stay q3 H0.out; obtain ⟨g, hg1, hr⟩ := own_rowB ho; obtain ⟨na, nc, rfl⟩ := rowB_shapeS hr; have HR : Hid _ := hr; have hg2 : W.heap.size ≤ g := (by have := q2.size; omega); clear b2 ho hr hg1)
      | (go_at_call 83; refine (HB.out _ b0).mono ?_; rintro e V1 ⟨rfl, b1⟩; have q1 := b0.trans (b1.mono b0.size); have s1 := cell_stay q1 H0.out; have q2 := q1.alloc q1.size (.cells #[.int .i32 32, .int .i64 0, .int .i64 bk, .int .i64 0] 73); have s2 := cell_stay q2 H0.out; clear b1))
  go_wp2_with fail
  go_ret
  have h : RowB V2 g (.slice na (List.replicate n ((32, 0, bk, 0) : C)).length nc) (List.replicate n (32, 0, bk, 0)) := HR.out
  rw [List.length_replicate] at h
  exact ⟨.slice na n nc, g, rfl, hg2, h, q3⟩
end Put
end Go.Proofs.YtmhmmpicedlcpaaGreatDoor

/- What a call on a desk leaves as it was: all below it, and where iterators stand. -/
namespace Go.Proofs.YtmhmmpicedlcpaaGreatDoor
open Go.ChangeShapes Go.WideShapes Go.ChangeAt Go.RowKit
namespace Put
/-- Iterators stand where they stood. -/
def ItK (W W' : World) : Prop := ∀ (k : Nat) (t : ByteArray) (pos : Nat), W.heap[k]? = some (Obj.stringIter t pos) → W'.heap[k]? = some (Obj.stringIter t pos)
theorem ItK.refl (W : World) : ItK W W := fun _ _ _ h => h
theorem ItK.trans {W X Y : World} (h : ItK W X) (k : ItK X Y) : ItK W Y := fun a t pos e => k a t pos (h a t pos e)
theorem ItK.below {W W' : World} (h : Below W.heap.size W W') : ItK W W' := fun a t pos e => (h.block a (by
  by_cases hq : a < W.heap.size
  · exact hq
  · rw [Array.getElem?_eq_none (by omega)] at e
    cases e)).trans e
theorem ItK.one {W W' : World} {rb : Nat} {A : Array Value} {t : TypeId} {f : Nat × Nat} (hA : W.heap[rb]? = some (.cells A t f)) (ho : ∀ k, k < W.heap.size → k ≠ rb → W'.heap[k]? = W.heap[k]?) : ItK W W' := fun a u pos e => by
  have hlt : a < W.heap.size := by
    by_cases hq : a < W.heap.size
    · exact hq
    · rw [Array.getElem?_eq_none (by omega)] at e
      cases e
  have hne : a ≠ rb := fun eq => by
    rw [eq, hA] at e
    cases e
  exact (ho a hlt hne).trans e
theorem ItK.set (W : World) (a : Addr) (v : Value) : ItK W (W.setCell a v) := fun k t pos e => by
  unfold World.setCell
  dsimp only
  rw [Array.getElem?_modify]
  split
  · rw [e]
    rfl
  · exact e
/-- All below N as it was, and iterators. -/
structure Bel (N : Nat) (W W' : World) : Prop where
  b : Below N W W'
  i : ItK W W'
theorem Bel.refl (N : Nat) (W : World) : Bel N W W := ⟨Below.refl _ _, ItK.refl _⟩
theorem Bel.trans {N : Nat} {W X Y : World} (h : Bel N W X) (k : Bel N X Y) : Bel N W Y := ⟨h.b.trans k.b, h.i.trans k.i⟩
theorem Bel.next {N : Nat} {W X Y : World} (h : Bel N W X) (hN : N ≤ X.heap.size) (hb : Below X.heap.size X Y) : Bel N W Y := ⟨h.b.trans (hb.mono hN), h.i.trans (ItK.below hb)⟩
theorem Bel.setCell {N : Nat} {W X : World} (h : Bel N W X) {p i : Nat} (hp : N ≤ p) (v : Value) : Bel N W (X.setCell ⟨p, i, none⟩ v) := ⟨h.b.setCell hp v, h.i.trans (ItK.set _ _ _)⟩
theorem Bel.drew {N : Nat} {W X : World} (h : Bel N W X) : Bel N W X.drew := ⟨h.b.drew, h.i.trans (ItK.below ((Below.refl _ _).drew))⟩
end Put
end Go.Proofs.YtmhmmpicedlcpaaGreatDoor

/- The reference's desk: Roll, up. -/
namespace Go.Proofs.YtmhmmpicedlcpaaGreatDoor
open Go.ChangeShapes Go.WideShapes Go.ChangeAt Go.RowKit
namespace Put
open Grd (C SliceAt CellsAt gridErr z0 nilV flat rowsL OwnG RowB RowsAt)
theorem blk_sl {W : World} {g : Nat} {v : Value} {row : List C} (h : RowB W g v row) : blkOf v = some g := by
  obtain ⟨cap, rest, rfl, -⟩ := h
  rfl
/-- What Insert leaves, of rows of which one went. -/
theorem roll_insI {X : World} {N p n rb rc gone fresh bot : Nat} {s : Scr} {rows : List (List C)} {cv tv gv : Value} {gvs vs : List Value} {gs : List Nat} (hD : DkX X N p s rows cv tv gv (.slice (some ⟨rb, 0, none⟩) rows.length rc) gvs vs gs) (hgof : ∀ i, i < s.gone.length → s.gone.getD i [] ≠ [] → ∀ g, blkOf (gvs.getD i nilV) = some g → g ∉ gs.eraseIdx gone) (hbot : s.bot = bot) (hrc : rows.length ≤ rc) (hg : gone < rows.length) (hf : fresh < rows.length)
    (V1 V2 : World) (a : Option Addr) (c g : Nat) (hO1 : V1.ownsRow N 22 1 (.slice (some ⟨rb, 0, none⟩) (rows.length - 1) rc) (rows.length - 1) (vs.eraseIdx gone)) (hk1 : ∀ k, k ≠ rb → V1.heap[k]? = X.heap[k]?) (hb1 : Below rb X V1) (b2 : Below V1.heap.size V1 V2) (hg1 : V1.heap.size ≤ g) (hR : RowB V2 g (.slice a n c) (List.replicate n (32, 0, s.sb, 0))) :
    Calls Tryz.prog 116 #[.slice (some ⟨rb, 0, none⟩) (rows.length - 1) rc, .int .i64 (fresh : Int), .slice (some ⟨V2.heap.size, 0, none⟩) 1 1] (V2.alloc (.cells #[.slice a n c] 22)) fun e V3 => e = .returned (.slice (some ⟨rb, 0, none⟩) rows.length rc) ∧ V3.cell? ⟨p, 10, none⟩ = some (.int .i64 (bot : Int)) ∧ V3.cell? ⟨p, 22, none⟩ = some (.slice (some ⟨rb, 0, none⟩) rows.length rc) ∧ V3.frozen? ⟨p, 22, none⟩ = false ∧ Hid (((V3.setCell ⟨p, 22, none⟩ (.slice (some ⟨rb, 0, none⟩) rows.length rc)).cell? ⟨p, 10, none⟩ = some (.int .i64 (bot : Int)) ∧ (V3.setCell ⟨p, 22, none⟩ (.slice (some ⟨rb, 0, none⟩) rows.length rc)).cell? ⟨p, 22, none⟩ = some (.slice (some ⟨rb, 0, none⟩) rows.length rc)) ∧ DkAt (V3.setCell ⟨p, 22, none⟩ (.slice (some ⟨rb, 0, none⟩) rows.length rc)) N p s (replR rows n s.sb gone fresh) ∧ Bel N X (V3.setCell ⟨p, 22, none⟩ (.slice (some ⟨rb, 0, none⟩) rows.length rc))) := by
  obtain ⟨hNr, B, f', hB⟩ := owns_block hD.rws rb rfl
  have hs1 : X.heap.size ≤ V1.heap.size := hb1.size
  have q2 : Below V1.heap.size V1 (V2.alloc (.cells #[.slice a n c] 22)) := b2.alloc b2.size _
  have hrb := heap_lt hB
  have hne : V2.heap.size ≠ rb := by have h2 := b2.size; omega
  have hal := heap_alloc_new V2 (.cells #[.slice a n c] 22)
  have hle : (rows.eraseIdx gone).length = rows.length - 1 := List.length_eraseIdx_of_lt hg
  have hsl : IsSl (.slice a n c) := ⟨(a, n, c), rfl⟩
  have hgr : g ≠ rb := by omega
  have hgs : ∀ q, q ∈ gs → q < X.heap.size := fun q hq => (rowsAt_ne hD.rin q hq).2
  have key := insert_own N rb (rows.length - 1) rc fresh V2.heap.size 1 (vs.eraseIdx gone) (.slice a n c) _ (own_next hO1 q2) (fun u hu => RowsAt.sls hD.rin u (List.mem_of_mem_eraseIdx hu)) hsl (by omega) (by omega) hal hne
  rw [show rows.length - 1 + 1 = rows.length by omega] at key
  refine Calls.mono key ?_
  rintro e V3 ⟨rfl, hO3, hk3, hb3⟩
  have hpr : p ≠ rb := by
    intro e
    rw [← e, hD.blk] at hB
    injection hB with hB
    injection hB with _ hB _
    exact absurd hB (by decide)
  have hall : ∀ k, k < X.heap.size → k ≠ rb → V3.heap[k]? = X.heap[k]? := fun k hk hn => (hk3 k hn).trans ((q2.block k (by omega)).trans (hk1 k hn))
  have hp3 : V3.heap[p]? = _ := (hall p (heap_lt hD.blk) hpr).trans hD.blk
  have hR3 : RowB V3 g (.slice a n c) (List.replicate n (32, 0, s.sb, 0)) := by
    obtain ⟨cap, rest, q0, q1, q3, q4⟩ := hR
    exact ⟨cap, rest, q0, q1, q3, (hk3 g hgr).trans ((Below.heap_alloc _ _ _ (heap_lt q4)).trans q4)⟩
  have hrows := RowsAt.insert (RowsAt.erase (RowsAt.off hD.rin hB (by decide) hall) gone hg) fresh (by omega) (.slice a n c) g (List.replicate n (32, 0, s.sb, 0)) (by have := hD.lo; have := heap_lt hD.blk; omega) (fun hm => by have := hgs g (List.mem_of_mem_eraseIdx hm); omega) hR3
  have hgl : gs.length = rows.length := hD.rin.2.1
  have hfin := hD.rowsNew (V := V3) (rb := rb) (rv' := .slice (some ⟨rb, 0, none⟩) rows.length rc) (rows' := replR rows n s.sb gone fresh) (vs' := (vs.eraseIdx gone).insertIdx fresh (.slice a n c)) (gs' := (gs.eraseIdx gone).insertIdx fresh g) rfl rfl hall (by rw [replR_len rows n s.sb gone fresh hg hf]; exact hO3) hrows (fun i hi hn q hq hm => by
    rcases mem_insert (by rw [List.length_eraseIdx_of_lt (by omega)]; omega) hm with e | hm
    · subst e
      rcases hD.gin.2 i hi with ⟨he, -⟩ | ⟨-, b', o', c', hv, -, -, hC', -⟩
      · exact hn he
      · rw [hv] at hq
        have e : b' = q := by simpa [blkOf] using hq
        have := lt_of_cells hC' hn
        omega
    · exact hgof i hi hn q hq hm)
  have q10 := (sh_cells hp3).1.2.2.2.2.2.2.2.2.2.2
  have r10 := (sh_cells hfin.blk).1.2.2.2.2.2.2.2.2.2.2
  rw [hbot] at q10 r10
  refine ⟨rfl, q10, (sh_cells hp3).2.1.2.2.2.2.2.2.2.2.2.2.2, (sh_cells hp3).2.2 22, ⟨r10, (sh_cells hfin.blk).2.1.2.2.2.2.2.2.2.2.2.2.2⟩, ⟨_, _, _, _, _, _, _, hfin⟩, ?_⟩
  have hNV : N ≤ V1.heap.size := by omega
  exact ⟨(((hb1.mono hNr).trans (q2.mono hNV)).trans (hb3.mono hNr)).setCell hD.lo _, (ItK.one hB hall).trans (ItK.set _ _ _)⟩
theorem roll_ins {X : World} {N p n rb rc gone fresh bot : Nat} {s : Scr} {rows : List (List C)} {cv tv gv : Value} {gvs vs : List Value} {gs : List Nat} (hD : DkX X N p s rows cv tv gv (.slice (some ⟨rb, 0, none⟩) rows.length rc) gvs vs gs) (hgof : ∀ i, i < s.gone.length → s.gone.getD i [] ≠ [] → ∀ g, blkOf (gvs.getD i nilV) = some g → g ∉ gs.eraseIdx gone) (hbot : s.bot = bot) (hrc : rows.length ≤ rc) (hg : gone < rows.length) (hf : fresh < rows.length)
    (V1 V2 : World) (a : Option Addr) (c g : Nat) (hO1 : V1.ownsRow N 22 1 (.slice (some ⟨rb, 0, none⟩) (rows.length - 1) rc) (rows.length - 1) (vs.eraseIdx gone)) (hk1 : ∀ k, k ≠ rb → V1.heap[k]? = X.heap[k]?) (hb1 : Below rb X V1) (b2 : Below V1.heap.size V1 V2) (hg1 : V1.heap.size ≤ g) (hR : RowB V2 g (.slice a n c) (List.replicate n (32, 0, s.sb, 0))) :
    Calls Tryz.prog 116 #[.slice (some ⟨rb, 0, none⟩) (rows.length - 1) rc, .int .i64 (fresh : Int), .slice (some ⟨V2.heap.size, 0, none⟩) 1 1] (V2.alloc (.cells #[.slice a n c] 22)) fun e V3 => e = .returned (.slice (some ⟨rb, 0, none⟩) rows.length rc) ∧ V3.cell? ⟨p, 10, none⟩ = some (.int .i64 (bot : Int)) ∧ V3.cell? ⟨p, 22, none⟩ = some (.slice (some ⟨rb, 0, none⟩) rows.length rc) ∧ V3.frozen? ⟨p, 22, none⟩ = false ∧ Hid (((V3.setCell ⟨p, 22, none⟩ (.slice (some ⟨rb, 0, none⟩) rows.length rc)).cell? ⟨p, 10, none⟩ = some (.int .i64 (bot : Int)) ∧ (V3.setCell ⟨p, 22, none⟩ (.slice (some ⟨rb, 0, none⟩) rows.length rc)).cell? ⟨p, 22, none⟩ = some (.slice (some ⟨rb, 0, none⟩) rows.length rc)) ∧ DkAt (V3.setCell ⟨p, 22, none⟩ (.slice (some ⟨rb, 0, none⟩) rows.length rc)) N p s (replR rows n s.sb gone fresh) ∧ Below N X (V3.setCell ⟨p, 22, none⟩ (.slice (some ⟨rb, 0, none⟩) rows.length rc))) :=
  (roll_insI hD hgof hbot hrc hg hf V1 V2 a c g hO1 hk1 hb1 b2 hg1 hR).mono fun _ _ h => ⟨h.1, h.2.1, h.2.2.1, h.2.2.2.1, h.2.2.2.2.out.1, h.2.2.2.2.out.2.1, h.2.2.2.2.out.2.2.b⟩
end Put
end Go.Proofs.YtmhmmpicedlcpaaGreatDoor
