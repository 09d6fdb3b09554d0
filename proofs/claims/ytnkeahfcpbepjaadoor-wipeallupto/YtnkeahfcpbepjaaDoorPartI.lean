/- The reference's GridOf. -/
import Derived.Test.YtnkeahfcpbepjaaDoorPartG
import Derived.Test.YtnkeahfcpbepjaaDoorPartH
import Derived.Lib.AppendZeros
import Derived.BigQuiet
namespace Go.Proofs.YtnkeahfcpbepjaaDoor
open Go.ChangeShapes Go.WideShapes Go.ChangeAt Go.RowKit Go.Maps
namespace Grd
theorem flatten_next (rows : List (List C)) (k : Nat) (h : k < rows.length) : (rows.take (k + 1)).flatten = (rows.take k).flatten ++ rows.getD k [] := by
  rw [List.take_add_one, List.flatten_append, List.getElem?_eq_getElem h]
  have : rows.getD k [] = rows[k] := by simp [List.getD, h]
  rw [this]
  simp
theorem flatten_len (n : Nat) (rows : List (List C)) (hr : ∀ i, i < rows.length → (rows.getD i []).length = n) : ∀ k, k ≤ rows.length → ((rows.take k).flatten).length = k * n
  | 0, _ => by simp
  | k + 1, h => by
    rw [flatten_next rows k (by omega), List.length_append, flatten_len n rows hr k (by omega), hr k (by omega), Nat.add_mul, Nat.one_mul]
/-- A slice of slices, as an owned row holds it. -/
def OutV (w : World) (v : Value) (vs : List Value) : Prop := ∃ (G cap : Nat) (rest : List Value), v = .slice (some ⟨G, 0, none⟩) vs.length cap ∧ vs.length ≤ cap ∧ cap ≤ 9223372036854775807 ∧ w.heap[G]? = some (.cells (vs ++ rest).toArray 22 (0, 0))
theorem out_of_own {w : World} {base : Nat} {v : Value} {vs : List Value} (h : w.ownsRow base 22 1 v vs.length vs) (hn : 0 < vs.length) : ∃ (G cap : Nat) (rest : List Value), v = .slice (some ⟨G, 0, none⟩) vs.length cap ∧ base ≤ G ∧ vs.length ≤ cap ∧ cap ≤ 9223372036854775807 ∧ w.heap[G]? = some (.cells (vs ++ rest).toArray 22 (0, 0)) := by
  obtain ⟨_, h | ⟨g, cap, cur, hv, hg, hh, hc, hm, hs, htk⟩⟩ := h
  · omega
  · refine ⟨g, cap, cur.toList.drop vs.length, hv, hg, hc, by unfold maxLen at hm; omega, ?_⟩
    rw [Nat.mul_one] at htk
    have e : vs ++ cur.toList.drop vs.length = cur.toList := (congrArg (· ++ cur.toList.drop vs.length) htk).symm.trans (List.take_append_drop _ _)
    rw [hh, e]
theorem out_cell {w : World} {G : Nat} {vs rest : List Value} {t : TypeId} (h : w.heap[G]? = some (.cells (vs ++ rest).toArray t (0, 0))) (i : Nat) (hi : i < vs.length) : w.cell? ⟨G, i, none⟩ = some (vs.getD i nilV) := by
  unfold World.cell?
  rw [h]
  simp [List.getElem?_append_left hi, List.getElem?_eq_getElem hi, List.getD]
set_option maxHeartbeats 4000000 in
set_option maxRecDepth 100000 in
theorem gridOf_any (n hh G cap base : Nat) (vs rest : List Value) (gs : List Nat) (rows : List (List C)) (w : World) (hn : 1 ≤ n) (hn' : n ≤ 120) (hh1 : 1 ≤ hh) (hh' : hh ≤ 60) (hG : w.heap[G]? = some (.cells (vs ++ rest).toArray 22 (0, 0))) (hR : RowsAt w base vs gs rows) (hrl : rows.length = hh) (hrn : ∀ i, i < rows.length → (rows.getD i []).length = n) :
    Calls Tryd.prog 111 #[.slice (some ⟨G, 0, none⟩) hh cap] w fun e w' => ∃ v, e = .returned (.agg #[.int .i64 (n : Int), .int .i64 (hh : Int), v]) ∧ OwnG w' w.heap.size v rows.flatten ∧ Below w.heap.size w w' := by
  obtain ⟨i0, hi, hzz⟩ := Option.map_eq_some_iff.1 info_cell
  simp only [Prod.mk.injEq] at hzz
  obtain ⟨hz0, hz1, hz2⟩ := hzz
  have hGw : G < w.heap.size := blk_lt hG
  have hvl : vs.length = hh := by rw [hR.1, hrl]
  have HG : Hid (∀ W, Below w.heap.size w W → ∀ i, i < hh → W.cell? ⟨G, i, none⟩ = some (vs.getD i nilV)) := fun W k i hi' => out_cell (carry hG k) i (by omega)
  have HR : Hid (∀ W, Below w.heap.size w W → ∀ i, i < hh → RowB W (gs.getD i 0) (vs.getD i nilV) (rows.getD i [])) := fun W k i hi' => ((hR.below k).2.2.2 i (by omega)).2
  have HRN : Hid (∀ i, i < hh → (rows.getD i []).length = n) := fun i hi' => hrn i (by omega)
  have HNX : Hid (∀ k, k < hh → (rows.take (k + 1)).flatten = (rows.take k).flatten ++ rows.getD k []) := fun k hk => flatten_next rows k (by omega)
  have HTL : Hid (∀ k, k ≤ hh → ((rows.take k).flatten).length = k * n) := fun k hk => flatten_len n rows hrn k (by omega)
  have HALL : Hid ((rows.take hh).flatten = rows.flatten) := by unfold Hid; rw [List.take_of_length_le (by omega)]
  have hprod : hh * n ≤ 7200 := by have := Nat.mul_le_mul hh' hn'; omega
  obtain ⟨c0, r0, hv0, hl0, hm0, _⟩ := HR.out w (Below.refl _ _) 0 (by omega)
  rw [HRN.out 0 (by omega)] at hv0
  have x0 : (w.alloc (.cells #[.int .i64 0, .int .i64 0, .slice none 0 0] 24)).cell? ⟨G, 0, none⟩ = some (.slice (some ⟨gs.getD 0 0, 0, none⟩) n c0) := by
    rw [← hv0]; exact HG.out _ ((Below.refl _ _).alloc (Nat.le_refl _) _) 0 (by omega)
  clear hR hrn hG hv0 hl0 hm0
  generalize gs.getD 0 0 = g00 at x0
  go_enter Tryd.func111, Tryd.ntmps111
  go_wp2_with (first
    | (refine wpList_store_row rfl 24 (.tmp 3) _ rfl (w.heap.size + 1) #[.int .i64 (n : Int), .int .i64 (hh : Int), .slice none 0 0] rfl rfl _ _ (heap_alloc2_new w _ _) (by kernel_rfl) rfl (one3v _ _ _ _ _) ?_))
  have y0 : (((w.alloc (.cells #[.int .i64 0, .int .i64 0, .slice none 0 0] 24)).alloc (.cells #[.int .i64 0, .int .i64 0, .slice none 0 0] 24)).setRow (w.heap.size + 1) #[.int .i64 (n : Int), .int .i64 (hh : Int), .slice none 0 0]).heap[w.heap.size]? = some (.cells #[.int .i64 0, .int .i64 0, .slice none 0 0] 24 (0, 0)) := by
    rw [setRow_other _ _ _ _ (by omega), Below.heap_alloc _ _ _ (by simp), heap_alloc_new]
  have y1 := setRow_heap _ _ _ #[.int .i64 (n : Int), .int .i64 (hh : Int), .slice none 0 0] _ _ (heap_alloc2_new w (.cells #[.int .i64 0, .int .i64 0, .slice none 0 0] 24) (.cells #[.int .i64 0, .int .i64 0, .slice none 0 0] 24))
  have kX : Below w.heap.size w (((w.alloc (.cells #[.int .i64 0, .int .i64 0, .slice none 0 0] 24)).alloc (.cells #[.int .i64 0, .int .i64 0, .slice none 0 0] 24)).setRow (w.heap.size + 1) #[.int .i64 (n : Int), .int .i64 (hh : Int), .slice none 0 0]) := below_setRow (((Below.refl _ _).alloc (Nat.le_refl _) _).alloc (by simp) _) (by omega) _
  generalize (((w.alloc (.cells #[.int .i64 0, .int .i64 0, .slice none 0 0] 24)).alloc (.cells #[.int .i64 0, .int .i64 0, .slice none 0 0] 24)).setRow (w.heap.size + 1) #[.int .i64 (n : Int), .int .i64 (hh : Int), .slice none 0 0]) = X at *
  go_loopg [15] hh (fun q i wr => ∃ (k : Nat) (u : Value), i = .int .i64 (k : Int) ∧ k ≤ hh ∧ hh - k ≤ q ∧ Below w.heap.size w wr ∧ wr.heap[w.heap.size]? = some (.cells #[.int .i64 0, .int .i64 0, .slice none 0 0] 24 (0, 0)) ∧ wr.heap[w.heap.size + 1]? = some (.cells #[.int .i64 (n : Int), .int .i64 (hh : Int), u] 24 (0, 0)) ∧ wr.ownsRow (w.heap.size + 2) 63 4 u (k * n) (flat (rows.take k).flatten))
  case atStart => exact ⟨0, _, rfl, by omega, by omega, kX, y0, y1, by rw [Nat.zero_mul]; exact World.ownsRow_nil _ _ _ _⟩
  case round =>
    clear y0 y1 kX x0
    obtain ⟨k, u, rfl, hk, hq, hb, v0, v1, hown⟩ := hrel
    have ⟨d0, d1, d2, df⟩ := cells3 v1
    have HO : Hid (wr.ownsRow (w.heap.size + 2) 63 4 u (k * n) (flat (rows.take k).flatten)) := hown
    have hsz := blk_lt v1
    clear hown
    by_cases hlt : k < hh
    · have lt1 : ((k : Int) < (hh : Int)) := by omega
      have hrow := HR.out wr hb k hlt
      have hsrc := cellsAt_src hrow.cells
      have hcell := HG.out wr hb k hlt
      obtain ⟨cp, rs, hvk, hl1, hm1, _⟩ := hrow
      rw [hvk, HRN.out k hlt] at hcell
      have HS : Hid (∀ j u, (flat (rows.getD k []))[j]? = some u → wr.cell? ((⟨gs.getD k 0, 0, none⟩ : Addr).add j) = some u) := hsrc
      have HF : Hid ((flat (rows.getD k [])).length = n * 4) := by unfold Hid; rw [flat_len, HRN.out k hlt]
      have HON : Hid (∀ u ∈ flat (rows.getD k []), u.oneCell' = true) := flat_one _
      have HN2 : Hid (flat (rows.take (k + 1)).flatten = flat (rows.take k).flatten ++ flat (rows.getD k [])) := by unfold Hid; rw [HNX.out k hlt, flat_append]
      have hkn : (k + 1) * n ≤ hh * n := Nat.mul_le_mul_right _ hlt
      have hkn2 : (k + 1) * n = k * n + n := by rw [Nat.add_mul, Nat.one_mul]
      have hfrom := own_from HO.out
      have hfz := df 2
      clear hsrc hvk df hl1 hm1
      generalize gs.getD k 0 = gk0 at *
      generalize flat (rows.getD k []) = fr at *
      generalize hK : k * n = kn at *
      go_wp2_with (first
        | (at_builtin; refine wpList_append_own _ rfl _ _ 22 rfl (w.heap.size + 2) 63 i0 (.agg #[.int .i32 0, .int .i64 0, .int .i64 0, .int .i64 0]) 4 32 und_cells hi hz0 hz1 hz2 rfl (by decide) _ _ _ rfl HO.out ⟨gk0, 0, none⟩ n cp fr rfl HF.out HS.out HON.out (by unfold maxLen; omega) (by omega) (by omega) ?_
           intro v3 W3 hown3 hgrow hnil
           have w0 := (hgrow.block _ (by omega) (fun e => by have := hfrom _ e.symm; omega)).trans v0
           have w1 := (hgrow.block (w.heap.size + 1) (by omega) (fun e => by have := hfrom _ e.symm; omega)).trans v1
           have k3 := hb.grown hgrow (by omega) (fun q hq => by have := hfrom q hq; omega)
           have ⟨g0, g1, g2, gf⟩ := cells3 w1
           have hfz2 := gf 2
           obtain ⟨q3, c3, hv3⟩ : ∃ q c, v3 = .slice q (kn + n) c := by
             rcases hown3.2 with h | ⟨g, c, _, h, _⟩
             · have := h.2; omega
             · exact ⟨_, _, h⟩
           have HO3 : Hid (W3.ownsRow (w.heap.size + 2) 63 4 v3 (kn + n) (flat (rows.take k).flatten ++ fr)) := hown3
           clear hown3 hnil
           subst hv3))
      go_roundg (hh - (k + 1))
      case measure => omega
      case rel =>
        refine ⟨k + 1, .slice q3 (kn + n) c3, rfl, by omega, by omega, k3.setCell (by dsimp only; omega) _, ?_, ?_, ?_⟩
        · rw [heap_setCell_other _ _ _ _ (by dsimp only; omega)]; exact w0
        · have := heap_setCell_same W3 (w.heap.size + 1) 2 _ _ (.slice q3 (kn + n) c3) w1
          exact this
        · rw [hkn2, HN2.out]
          exact ownsRow_setCell_below HO3.out (by dsimp only; omega) _
    · have lt1 : ¬ ((k : Int) < (hh : Int)) := by omega
      have hkh : k = hh := by omega
      have HAL : Hid ((rows.take k).flatten = rows.flatten) := by unfold Hid; rw [hkh]; exact HALL.out
      have HLL : Hid (rows.flatten.length = k * n) := by have := HTL.out k (by omega); rw [HAL.out] at this; exact this
      have hpos : 0 < k * n := Nat.mul_pos (by omega) (by omega)
      have HO' := HO.out
      rw [HAL.out, ← HLL.out] at HO'
      have hnn : u ≠ .slice none 0 0 := by
        intro e
        rcases HO'.2 with h | ⟨g, c, _, h, _⟩
        · have := h.2; rw [HLL.out] at this; omega
        · rw [e] at h; simp at h
      obtain ⟨g, cp, rs, t, rfl, hgb, hlc, hcm2, hgh⟩ := own_of_row HO' hnn
      clear HO HO' hnn
      obtain ⟨Lf, hLf⟩ : ∃ q, q = rows.flatten.length := ⟨_, rfl⟩
      have HLF : Hid (Lf = rows.flatten.length) := hLf
      rw [← hLf] at v1 d2 hlc
      clear hLf
      go_wp2_with (first
        | (refine wpList_load_row rfl 24 _ rfl (w.heap.size + 1) rfl _ _ _ _ v1 Tryd.underlying24 rfl (by kernel_rfl) ?_)
        | (refine wpList_store_row rfl 24 (.tmp 2) _ rfl w.heap.size #[.int .i64 (n : Int), .int .i64 (hh : Int), .slice (some ⟨g, 0, none⟩) Lf cp] rfl rfl _ _ v0 (by kernel_rfl) rfl (one3v _ _ _ _ _) ?_))
      (try simp only [Exit.inBlock, Exit.then])
      refine bodyPost_ret (v := .agg #[.int .i64 (n : Int), .int .i64 (hh : Int), .slice (some ⟨g, 0, none⟩) Lf cp]) ?_ rfl ⟨_, rfl, ⟨g, cp, rs, t, by rw [HLF.out], by omega, by rw [← HLF.out]; exact hlc, hcm2, ?_⟩, below_setRow hb (Nat.le_refl _) _⟩
      · exact results_cell_row rfl _ _ w.heap.size _ _ _ _ rfl (setRow_heap _ _ _ _ _ _ v0) Tryd.underlying24 rfl (by kernel_rfl)
      · rw [setRow_other _ _ _ _ (by omega)]
        exact hgh
end Grd
end Go.Proofs.YtnkeahfcpbepjaaDoor

/- slices.Grow of nothing, slices.Concat of rows. -/
namespace Go.Proofs.YtnkeahfcpbepjaaDoor
open Go.ChangeShapes Go.WideShapes Go.ChangeAt Go.RowKit
namespace Put
open Grd (C SliceAt CellsAt gridErr z0 nilV flat)
set_option maxHeartbeats 1000000 in
set_option maxRecDepth 100000 in
theorem grow_any (n : Nat) (hn : n ≤ 16777216) (w : World) :
    Calls Tryd.prog 113 #[.slice none 0 0, .int .i64 (n : Int)] w fun e w' => ∃ v', e = .returned v' ∧ w'.ownsRow w.heap.size 63 4 v' 0 [] ∧ Below w.heap.size w w' := by
  obtain ⟨i0, hi, hzz⟩ := Option.map_eq_some_iff.1 Grd.info_cell
  simp only [Prod.mk.injEq] at hzz
  obtain ⟨hz0, hz1, hz2⟩ := hzz
  by_cases h0 : n = 0
  · subst h0
    go_enter Tryd.func113, Tryd.ntmps113
    go_wp2_with fail
    go_ret
    exact ⟨_, rfl, World.ownsRow_nil _ _ _ _, Below.refl _ _⟩
  · have h1 : ¬ (n : Int) < 0 := by omega
    have h2 : (0 : Int) < (n : Int) := by omega
    have hr := Lib.run_append_nil_zeros (P := Tryd.prog) w 22 3 22 63 i0 _ .i64 .i64 Grd.und_cells (by kernel_rfl) hi hz0 n (by omega) (by rw [hz1]; omega) (by omega) (by rw [hz2]; omega)
    have HM : Hid ((w.drew.alloc (.cells (Builtin.zeroCells (Value.agg #[.int .i32 0, .int .i64 0, .int .i64 0, .int .i64 0]).cells n ++ Builtin.zeroCells (Value.agg #[.int .i32 0, .int .i64 0, .int .i64 0, .int .i64 0]).cells (grownCap w n 0 63 - n)) 63)).ownsRow w.heap.size 63 4 (.slice (some ⟨w.heap.size, 0, none⟩) 0 (grownCap w n 0 63)) 0 []) := by
      refine World.ownsRow_made w.drew _ _ (Nat.le_refl _) (grownCap_le_maxLen w n 0 _ (by unfold maxLen; omega)) ?_
      rw [Array.size_append, size_zeroCells, size_zeroCells]
      have := grownCap_ge w n 0 63
      have e : (Value.agg #[.int .i32 0, .int .i64 0, .int .i64 0, .int .i64 0]).cells.size = 4 := rfl
      rw [e]
      omega
    have HB : Hid (Below w.heap.size w (w.drew.alloc (.cells (Builtin.zeroCells (Value.agg #[.int .i32 0, .int .i64 0, .int .i64 0, .int .i64 0]).cells n ++ Builtin.zeroCells (Value.agg #[.int .i32 0, .int .i64 0, .int .i64 0, .int .i64 0]).cells (grownCap w n 0 63 - n)) 63))) := ((Below.refl _ w).drew).alloc (Nat.le_refl _) _
    have HR : Hid _ := hr
    clear hr
    generalize w.drew.alloc (.cells (Builtin.zeroCells (Value.agg #[.int .i32 0, .int .i64 0, .int .i64 0, .int .i64 0]).cells n ++ Builtin.zeroCells (Value.agg #[.int .i32 0, .int .i64 0, .int .i64 0, .int .i64 0]).cells (grownCap w n 0 63 - n)) 63) = W1 at *
    have hg1 := grownCap_ge w n 0 63
    have hg2 : grownCap w n 0 63 ≤ 9223372036854775807 := by have := grownCap_le_maxLen w n 0 63 (by unfold maxLen; omega); unfold maxLen at this; omega
    generalize grownCap w n 0 63 = gc at *
    go_enter Tryd.func113, Tryd.ntmps113
    go_wp2_with (at_builtin; refine Lib.wpList_append_run _ rfl _ _ _ _ rfl _ _ rfl rfl _ _ HR.out ?_)
    go_ret
    exact ⟨_, rfl, HM.out, HB.out⟩
theorem own_slice' {w : World} {base : Nat} {e : TypeId} {size : Nat} {v : Value} {n : Nat} {xs : List Value} (h : w.ownsRow base e size v n xs) : ∃ a c, v = .slice a n c := by
  obtain ⟨h0, ⟨rfl, rfl⟩ | ⟨g', cap, cur, hv, -⟩⟩ := h
  · exact ⟨_, _, rfl⟩
  · exact ⟨_, cap, hv⟩
theorem own_from' {w : World} {base : Nat} {e : TypeId} {size : Nat} {v : Value} {n : Nat} {xs : List Value} (h : w.ownsRow base e size v n xs) : ∀ k, v.ownBlock = some k → base ≤ k := fun k hk => (owns_block h k hk).1
theorem flat_nil : flat [] = [] := rfl
/-- How many cells the first k rows have. -/
def lenTo (rows : List (List C)) (k : Nat) : Nat := (rows.take k).flatten.length
theorem lenTo_succ (rows : List (List C)) (k : Nat) (h : k < rows.length) : lenTo rows (k + 1) = lenTo rows k + (rows.getD k []).length := by
  unfold lenTo
  rw [Grd.flatten_next rows k h, List.length_append]
theorem lenTo_le (rows : List (List C)) (k m : Nat) (h : k ≤ m) : lenTo rows k ≤ lenTo rows m := by
  have e : rows.take m = rows.take k ++ (rows.take m).drop k := by
    have h1 := List.take_append_drop k (rows.take m)
    rw [List.take_take, Nat.min_eq_left h] at h1
    exact h1.symm
  unfold lenTo
  rw [e, List.flatten_append, List.length_append]
  omega
theorem lenTo_all (rows : List (List C)) : lenTo rows rows.length = rows.flatten.length := by
  unfold lenTo
  rw [List.take_of_length_le (Nat.le_refl _)]
set_option maxHeartbeats 400000 in
set_option maxRecDepth 100000 in
theorem concat_any (b o pc : Nat) (rows : List (List C)) (w : World) (hV : ∀ j, j < rows.length → ∃ b' o' c', w.cell? ⟨b, o + j, none⟩ = some (.slice (some ⟨b', o', none⟩) (rows.getD j []).length c') ∧ CellsAt w b' o' (rows.getD j [])) (cs : List C) (hcs : rows.flatten = cs) (hl : cs.length ≤ 1048576) (hrl : rows.length ≤ 1048576) :
    Calls Tryd.prog 64 #[.slice (some ⟨b, o, none⟩) rows.length pc] w fun e w' => ∃ v', e = .returned v' ∧ w'.ownsRow w.heap.size 63 4 v' cs.length (flat cs) ∧ Below w.heap.size w w' := by
  obtain ⟨i0, hi, hzz⟩ := Option.map_eq_some_iff.1 Grd.info_cell
  simp only [Prod.mk.injEq] at hzz
  obtain ⟨hz0, hz1, hz2⟩ := hzz
  have hlt := lenTo_all rows
  rw [hcs] at hlt
  have HLA : Hid (∀ k, k ≤ rows.length → lenTo rows k ≤ 1048576) := fun k hk => by have := lenTo_le rows k rows.length hk; omega
  have HLS : Hid (∀ k, k < rows.length → lenTo rows (k + 1) = lenTo rows k + (rows.getD k []).length) := fun k hk => lenTo_succ rows k hk
  have HLL : Hid (lenTo rows rows.length = cs.length) := hlt
  have HNX : Hid (∀ k, k < rows.length → flat (rows.take (k + 1)).flatten = flat (rows.take k).flatten ++ flat (rows.getD k [])) := fun k hk => by rw [Grd.flatten_next rows k hk, Grd.flat_append]
  have HALL : Hid ((rows.take rows.length).flatten = cs) := by unfold Hid; rw [List.take_of_length_le (Nat.le_refl _), hcs]
  have HROW : Hid (∀ j, j < rows.length → ∃ b' o' c', w.cell? ⟨b, o + j, none⟩ = some (.slice (some ⟨b', o', none⟩) (rows.getD j []).length c') ∧ CellsAt w b' o' (rows.getD j [])) := hV
  have HLX : Hid (∀ k, k = rows.length → lenTo rows k = cs.length) := fun k e => by rw [e]; exact hlt
  clear hV hlt hcs
  go_enter Tryd.func64, Tryd.ntmps64
  go_wp2_with fail
  go_loopg [3, 11] rows.length (fun q z i wr => ∃ k : Nat, k ≤ rows.length ∧ rows.length - k ≤ q ∧ i = .int .i64 (k : Int) ∧ z = .int .i64 ((lenTo rows k : Nat) : Int) ∧ w = wr)
  case atStart => exact ⟨0, by omega, by omega, rfl, rfl, rfl⟩
  case round =>
    obtain ⟨k, hk, hq, rfl, rfl, hwr⟩ := hrel
    subst hwr
    by_cases hlt : k < rows.length
    · have lt1 : ((k : Int) < (rows.length : Int)) := by omega
      obtain ⟨b', o', c', hrv, hS⟩ := HROW.out k hlt
      have l1 := HLA.out (k + 1) (by omega)
      have l2 := HLS.out k hlt
      have HS2 : Hid (lenTo rows k + (rows.getD k []).length = lenTo rows (k + 1)) := l2.symm
      rw [l2] at l1
      clear hS l2
      generalize (rows.getD k []).length = rl at *
      have l3 : ¬ ((lenTo rows k : Nat) : Int) + (rl : Int) < 0 := by omega
      go_wp2_with fail
      go_roundg (rows.length - (k + 1))
      case measure => omega
      case rel => exact ⟨k + 1, by omega, by omega, by go_num, by rw [← HS2.out]; go_num, rfl⟩
    · obtain rfl : k = rows.length := by omega
      have lt1 : ¬ ((rows.length : Int) < (rows.length : Int)) := by omega
      have l9 := HLA.out rows.length (Nat.le_refl _)
      generalize lenTo rows rows.length = ll at *
      go_wp2_with fail
      refine (grow_any ll (by omega) _).mono ?_
      rintro e W1 ⟨v1, rfl, ho1, b1⟩
      obtain ⟨va, vc, rfl⟩ := own_slice' ho1
      have HO1 : Hid (W1.ownsRow w.heap.size 63 4 (.slice va 0 vc) 0 []) := ho1
      have HB1 : Hid (Below w.heap.size w W1) := b1
      clear ho1 b1
      go_wp2_with fail
      go_loopg [6, 27] rows.length (fun q v i wr => ∃ k : Nat, k ≤ rows.length ∧ rows.length - k ≤ q ∧ i = .int .i64 (k : Int) ∧ wr.ownsRow w.heap.size 63 4 v (lenTo rows k) (flat (rows.take k).flatten) ∧ Below w.heap.size w wr)
      case atStart => exact ⟨0, by omega, by omega, rfl, HO1.out, HB1.out⟩
      case round =>
        obtain ⟨k, hk, hq, rfl, hown, hb⟩ := hrel
        have HO : Hid (wr.ownsRow w.heap.size 63 4 _ (lenTo rows k) (flat (rows.take k).flatten)) := hown
        have HB : Hid (Below w.heap.size w wr) := hb
        obtain ⟨va2, vc2, rfl⟩ := own_slice' hown
        clear hown hb
        by_cases hlt : k < rows.length
        · have lt2 : ((k : Int) < (rows.length : Int)) := by omega
          obtain ⟨b', o', c', hrv, hS⟩ := HROW.out k hlt
          have hrv2 := cell_stay HB.out hrv
          have HSR : Hid _ := Grd.cellsAt_src (hS.below HB.out)
          have HS2 : Hid (lenTo rows (k + 1) = lenTo rows k + (rows.getD k []).length) := HLS.out k hlt
          have l1 := HLA.out (k + 1) (by omega)
          rw [HS2.out] at l1
          have HN : Hid _ := HNX.out k hlt
          have HF : Hid ((flat (rows.getD k [])).length = (rows.getD k []).length * 4) := Grd.flat_len _
          have HON : Hid (∀ u ∈ flat (rows.getD k []), u.oneCell' = true) := Grd.flat_one _
          have hbs := HB.out.size
          clear hrv hS
          generalize (rows.getD k []).length = rl at *
          generalize flat (rows.getD k []) = fr at *
          go_wp2_with (first
            | (at_builtin; refine wpList_append_own _ rfl _ _ 22 rfl w.heap.size 63 i0 (.agg #[.int .i32 0, .int .i64 0, .int .i64 0, .int .i64 0]) 4 32 Grd.und_cells hi hz0 hz1 hz2 rfl (by decide) _ _ _ rfl HO.out ⟨b', o', none⟩ rl c' fr rfl HF.out HSR.out HON.out (by unfold maxLen; omega) (by omega) (by omega) ?_
               intro v3 W3 hown3 hgrow hnil))
          have HO3 : Hid (W3.ownsRow w.heap.size 63 4 v3 (lenTo rows k + rl) (flat (rows.take k).flatten ++ fr)) := hown3
          have HB3 : Hid (Below w.heap.size w W3) := HB.out.grown hgrow hbs (fun g hg => (own_from' HO.out g hg))
          clear hown3 hgrow
          go_wp2_with fail
          go_roundg (rows.length - (k + 1))
          case measure => omega
          case rel => exact ⟨k + 1, by omega, by omega, by go_num, by rw [HS2.out, HN.out]; exact HO3.out, HB3.out⟩
        · obtain rfl : k = rows.length := by omega
          have lt2 : ¬ ((rows.length : Int) < (rows.length : Int)) := by omega
          go_wp2_with fail
          go_ret
          refine ⟨_, rfl, ?_, HB.out⟩
          have h := HO.out
          rw [HALL.out] at h
          rw [← HLX.out _ rfl]
          exact h
end Put
end Go.Proofs.YtnkeahfcpbepjaaDoor

/- slices.Equal and SameGrid of cells of any number; slices.Clone of any cells; own. -/
namespace Go.Proofs.YtnkeahfcpbepjaaDoor
open Go.ChangeShapes Go.WideShapes Go.ChangeAt Go.RowKit
namespace Grd
set_option maxHeartbeats 1000000 in
theorem equal_cells_big (b1 o1 c1 b2 o2 c2 : Nat) (cs : List C) (w : World) (h1 : CellsAt w b1 o1 cs) (h2 : CellsAt w b2 o2 cs) (hn : cs.length ≤ 4398046511104) :
    Calls Tryd.prog 78 #[.slice (some ⟨b1, o1, none⟩) cs.length c1, .slice (some ⟨b2, o2, none⟩) cs.length c2] w fun e w' => e = .returned (.bool true) ∧ Below w.heap.size w w' := by
  have H1 : Hid (CellsAt w b1 o1 cs) := h1
  have H2 : Hid (CellsAt w b2 o2 cs) := h2
  clear h1 h2
  generalize hl : cs.length = L at *
  have HL : Hid (cs.length = L) := hl
  clear hl
  have ne : ((L : Int) != (L : Int)) = false := by simp
  go_enter Tryd.func78, Tryd.ntmps78
  go_wp2_with fail
  go_loopg [13] L (fun g i wr => ∃ k : Nat, i = .int .i64 (k : Int) ∧ k ≤ L ∧ L - k ≤ g ∧ Below w.heap.size w wr)
  case atStart => exact ⟨0, rfl, by omega, by omega, Below.refl _ _⟩
  case round =>
    obtain ⟨k, rfl, hk, hg, hb⟩ := hrel
    by_cases hlt : k < L
    · have lt1 : ((k : Int) < (L : Int)) := by omega
      obtain ⟨p0, p1, p2, p3⟩ := H1.out.below hb k (by rw [HL.out]; exact hlt)
      obtain ⟨q0, q1, q2, q3⟩ := H2.out.below hb k (by rw [HL.out]; exact hlt)
      rcases hc : cs.getD k z0 with ⟨r, f, bk, x⟩
      rw [hc] at p0 p1 p2 p3 q0 q1 q2 q3
      dsimp only at p0 p1 p2 p3 q0 q1 q2 q3
      clear hc
      have nq := neq_cell r f bk x
      go_wp2_with fail
      go_region
      go_wp2_with fail
      go_roundg (L - (k + 1))
      case measure => omega
      case rel => exact ⟨k + 1, rfl, by omega, by omega, hb.drew⟩
    · have lt1 : ¬ ((k : Int) < (L : Int)) := by omega
      go_wp2_with fail
      go_ret
      exact ⟨rfl, hb⟩
theorem equal_slices_big (v1 v2 : Value) (cs : List C) (w : World) (h1 : SliceAt w v1 cs) (h2 : SliceAt w v2 cs) (hn : cs.length ≤ 4398046511104) :
    Calls Tryd.prog 78 #[v1, v2] w fun e w' => e = .returned (.bool true) ∧ Below w.heap.size w w' := by
  rcases h1 with ⟨rfl, a1, c1, rfl⟩ | ⟨h0, b1, o1, c1, rfl, _, _, hC1⟩
  · rcases h2 with ⟨_, a2, c2, rfl⟩ | ⟨h0, _⟩
    · exact equal_empty a1 a2 c1 c2 w
    · exact absurd rfl h0
  · rcases h2 with ⟨rfl, _⟩ | ⟨_, b2, o2, c2, rfl, _, _, hC2⟩
    · exact absurd rfl h0
    · exact equal_cells_big b1 o1 c1 b2 o2 c2 cs w hC1 hC2 hn
set_option maxHeartbeats 1000000 in
/-- SameGrid of two grids that read alike. -/
theorem same_any_big (a h : Int) (v1 v2 : Value) (cs : List C) (w : World) (h1 : SliceAt w v1 cs) (h2 : SliceAt w v2 cs) (hn : cs.length ≤ 4398046511104) :
    Calls Tryd.prog 32 #[.agg #[.int .i64 a, .int .i64 h, v1], .agg #[.int .i64 a, .int .i64 h, v2]] w fun e w' => e = .returned (.bool true) ∧ Below w.heap.size w w' := by
  have H1 : Hid (SliceAt w v1 cs) := h1
  have H2 : Hid (SliceAt w v2 cs) := h2
  clear h1 h2
  have kk : Below w.heap.size w ((w.alloc (.cells #[.int .i64 a, .int .i64 h, v1] 24)).alloc (.cells #[.int .i64 a, .int .i64 h, v2] 24)) := ((Below.refl _ _).alloc (Nat.le_refl _) _).alloc (by simp) _
  have aa : (a == a) = true := by simp
  have ee : (h == h) = true := by simp
  go_enter Tryd.func32, Tryd.ntmps32
  go_wp2_with (first | (go_at_call 78; refine (equal_slices_big v1 v2 cs _ (H1.out.below kk) (H2.out.below kk) hn).mono ?_; rintro e W1 ⟨rfl, b1⟩))
  go_ret
  exact ⟨rfl, kk.trans (b1.mono kk.size)⟩
set_option maxHeartbeats 1000000 in
theorem clone_empty (a : Option Addr) (c : Nat) (w : World) :
    Calls Tryd.prog 107 #[.slice a 0 c] w fun e w' => ∃ a' c', e = .returned (.slice a' 0 c') ∧ Below w.heap.size w w' := by
  obtain ⟨i0, hi, hzz⟩ := Option.map_eq_some_iff.1 info_cell
  simp only [Prod.mk.injEq] at hzz
  obtain ⟨hz0, hz1, hz2⟩ := hzz
  have qn : ∀ (w : World) (a : Option Addr) (n c n' c' : Nat), (binOp .eql 22 (.slice a n c) (.slice none n' c')).run Tryd.prog w = .ok (.bool a.isNone) w := fun w a n c n' c' => Lib.run_eql_slice_nil w _ _ a n c n' c' und_cells
  cases a with
  | none =>
    go_enter Tryd.func107, Tryd.ntmps107
    go_wp2_with fail
    go_ret
    exact ⟨_, _, rfl, Below.refl _ _⟩
  | some ad =>
    go_enter Tryd.func107, Tryd.ntmps107
    go_wp2_with (at_builtin; refine wpList_append_own _ rfl _ _ 22 rfl w.heap.size 63 i0 (.agg #[.int .i32 0, .int .i64 0, .int .i64 0, .int .i64 0]) 4 32 und_cells hi hz0 hz1 hz2 rfl (by decide) _ _ _ rfl (World.ownsRow_made w #[] 0 (Nat.le_refl _) (Nat.zero_le _) rfl) ad 0 c [] rfl rfl (by simp) (by simp) (by unfold maxLen; omega) (by omega) (by simp) ?_)
    intro v' w1 hown hgrow hnil
    have hsh : ∃ a' c', v' = .slice a' 0 c' := by
      rcases hown.2 with h | ⟨g, cp, _, h, _⟩
      · exact ⟨_, _, h.1⟩
      · exact ⟨_, _, h⟩
    obtain ⟨a', c', rfl⟩ := hsh
    go_wp2_with fail
    go_ret
    exact ⟨a', c', rfl, ((Below.refl _ w).alloc (Nat.le_refl _) _).grown hgrow (by simp) (by intro k hk; simp [Value.ownBlock] at hk; omega)⟩
theorem clone_any (v : Value) (cs : List C) (w : World) (hS : SliceAt w v cs) (hbig : cs.length * 32 ≤ 140737488355328) :
    Calls Tryd.prog 107 #[v] w fun e w' => ∃ a' c', e = .returned (.slice a' cs.length c') ∧ (cs = [] ∨ OwnG w' w.heap.size (.slice a' cs.length c') cs) ∧ Below w.heap.size w w' := by
  rcases hS with ⟨rfl, a, c, rfl⟩ | ⟨hne, b, o, c, rfl, hc, hm, hC⟩
  · exact (clone_empty a c w).mono fun e w' ⟨a', c', he, hb⟩ => ⟨a', c', he, .inl rfl, hb⟩
  · exact (clone_cells b o c cs w hC hbig).mono fun e w' ⟨v', he, ho, hb⟩ => by
      have ho' := ho
      obtain ⟨g, cp, rs, t, rfl, _⟩ := ho
      exact ⟨_, _, he, .inr ho', hb⟩
end Grd
end Go.Proofs.YtnkeahfcpbepjaaDoor

/- What a sheet's rows keep while something is stored; rows that are cloned. -/
namespace Go.Proofs.YtnkeahfcpbepjaaDoor
set_option linter.unusedVariables false
open Go.ChangeShapes Go.WideShapes Go.ChangeAt Go.RowKit
namespace Put
open Grd (C SliceAt CellsAt gridErr z0 nilV flat rowsL RowB)
theorem Kept.store {W : World} {N p i : Nat} {v : Value} {A : Array Value} {t : TypeId} (hp : W.heap[p]? = some (.cells A t (0, 0))) (ht : t ≠ 63) (hN : N ≤ p) : Kept N W (W.setCell ⟨p, i, none⟩ v) := fun k _ hS => store_off fun e => by
  subst e
  rcases hS with hS | ⟨B, f, hS⟩
  · omega
  · rw [hp] at hS
    injection hS with hS
    injection hS with _ hS _
    exact ht hS
theorem own_set {w : World} {base : Nat} {e : TypeId} {g n c k : Nat} {xs : List Value} {v : Value} (h : w.ownsRow base e 1 (.slice (some ⟨g, 0, none⟩) n c) n xs) : (w.setCell ⟨g, k, none⟩ v).ownsRow base e 1 (.slice (some ⟨g, 0, none⟩) n c) n (xs.set k v) := by
  obtain ⟨h0, ⟨h, -⟩ | ⟨g', cap, cur, hv, hg, hh, hc, hm, hs, htk⟩⟩ := h
  · injection h with h
    cases h
  · injection hv with hv1 _ hv3
    injection hv1 with hv1
    injection hv1 with hv1
    subst hv1 hv3
    refine ⟨by rw [List.length_set]; exact h0, .inr ⟨g, c, cur.setIfInBounds k v, rfl, hg, heap_setCell_same w g k cur e v hh, hc, hm, by simpa using hs, ?_⟩⟩
    rw [Array.toList_setIfInBounds, List.take_set, htk]
theorem rowIn_rowB {W : World} {N g : Nat} {v : Value} {row : List C} (h : RowB W g v row) : RowIn W N v row := by
  by_cases hr : row = []
  · obtain ⟨cap, rest, hv, -⟩ := h
    subst hr
    exact .inl ⟨rfl, _, _, hv⟩
  · have hC := h.cells
    obtain ⟨cap, rest, hv, h1, h2, h3⟩ := h
    exact .inr ⟨hr, g, 0, cap, hv, h1, h2, hC, .inr ⟨_, _, h3⟩⟩
theorem cloneRow_all (v : Value) (N : Nat) (row : List C) (w : World) (h : RowIn w N v row) (hbig : row.length ≤ 1048576) :
    Calls Tryd.prog 107 #[v] w fun e w' => ∃ a c, e = .returned (.slice a row.length c) ∧ (∀ N', RowIn w' N' (.slice a row.length c) row) ∧ Below w.heap.size w w' := by
  rcases h with ⟨rfl, a, c, rfl⟩ | ⟨hr, b, o, c, rfl, h1, h2, h3, h4⟩
  · refine (Grd.clone_empty a c w).mono ?_
    rintro e W ⟨a', c', rfl, hb⟩
    exact ⟨a', c', rfl, fun _ => .inl ⟨rfl, a', c', rfl⟩, hb⟩
  · refine (Grd.clone_row b o c row w h3 (by omega)).mono ?_
    rintro e W ⟨v', g, rfl, hg, hR, hb⟩
    obtain ⟨a', c', hv⟩ := (rowIn_rowB (N := N) hR).shape
    subst hv
    exact ⟨a', c', rfl, fun _ => rowIn_rowB hR, hb⟩
theorem cloneRow_in (v : Value) (N : Nat) (row : List C) (w : World) (h : RowIn w N v row) (hbig : row.length ≤ 1048576) :
    Calls Tryd.prog 107 #[v] w fun e w' => ∃ a c, e = .returned (.slice a row.length c) ∧ RowIn w' N (.slice a row.length c) row ∧ Below w.heap.size w w' := by
  refine (cloneRow_all v N row w h hbig).mono ?_
  rintro e W ⟨a, c, rfl, h1, h2⟩
  exact ⟨a, c, rfl, h1 N, h2⟩
/-- The first k rows lie in blocks of their own. -/
def DoneR (W : World) (k : Nat) (gs : List Value) (rows : List (List C)) : Prop := ∀ i, i < k → i < rows.length → RowIn W 0 (gs.getD i nilV) (rows.getD i [])
theorem getD_set_same {α : Type} (l : List α) (k : Nat) (x d : α) (h : k < l.length) : (l.set k x).getD k d = x := by simp [List.getD, h]
theorem getD_set_ne {α : Type} (l : List α) (k i : Nat) (x d : α) (h : i ≠ k) : (l.set k x).getD i d = l.getD i d := by
  simp [List.getD, Ne.symm h]
theorem RowsIn.set {W : World} {N : Nat} {vs : List Value} {rows : List (List C)} (h : RowsIn W N vs rows) (k : Nat) (v : Value) (row : List C) (hr : RowIn W N v row) : RowsIn W N (vs.set k v) (rows.set k row) := by
  refine ⟨by rw [List.length_set, List.length_set]; exact h.1, fun i hi => ?_⟩
  rw [List.length_set] at hi
  by_cases e : i = k
  · subst e
    rw [getD_set_same _ _ _ _ (by rw [h.1]; exact hi), getD_set_same _ _ _ _ hi]
    exact hr
  · rw [getD_set_ne _ _ _ _ _ e, getD_set_ne _ _ _ _ _ e]
    exact h.2 i hi
theorem set_getD {α : Type} (l : List α) (k : Nat) (d : α) (h : k < l.length) : l.set k (l.getD k d) = l := by
  apply List.ext_getElem (by simp)
  intro i h1 h2
  rw [List.getElem_set]
  split
  · rename_i e
    subst e
    simp [List.getD, h]
  · rfl
theorem own_rowsV {W : World} {N : Nat} {v : Value} {rows : List (List C)} {vs : List Value} (h : W.ownsRow N 22 1 v rows.length vs) (hr : RowsL W vs rows) : RowsV W v rows := by
  obtain ⟨h0, ⟨rfl, hn⟩ | ⟨g, cap, cur, hv, hg, hh, hc, hm, hs, htk⟩⟩ := h
  · exact .inl ⟨List.eq_nil_of_length_eq_zero hn, none, 0, rfl⟩
  · refine .inr ⟨g, 0, cap, hv, hc, by unfold maxLen at hm; omega, fun j hj => ⟨vs.getD j nilV, ?_, hr.2 j hj⟩⟩
    have e : cur[j]? = vs[j]? := by
      rw [← htk, ← Array.getElem?_toList, List.getElem?_take_of_lt (by omega)]
    have hl := hr.1
    have e2 : vs[j]? = some (vs.getD j nilV) := by simp [List.getD, List.getElem?_eq_getElem (show j < vs.length by omega)]
    unfold World.cell?
    rw [Nat.zero_add]
    simp only [hh]
    rw [e, e2]
    rfl
theorem own_boolsV {W : World} {N : Nat} {v : Value} {l : List Bool} (h : W.ownsRow N 4 1 v l.length (l.map Value.bool)) : BoolsV W v l := by
  obtain ⟨h0, ⟨rfl, hn⟩ | ⟨g, cap, cur, hv, hg, hh, hc, hm, hs, htk⟩⟩ := h
  · exact .inl ⟨List.eq_nil_of_length_eq_zero hn, none, 0, rfl⟩
  · refine .inr ⟨g, 0, cap, hv, hc, by unfold maxLen at hm; omega, fun j hj => ?_⟩
    have e : cur[j]? = (l.map Value.bool)[j]? := by
      rw [← htk, ← Array.getElem?_toList, List.getElem?_take_of_lt (by omega)]
    have e2 : (l.map Value.bool)[j]? = some (.bool (l.getD j false)) := by simp [List.getD, List.getElem?_eq_getElem hj]
    unfold World.cell?
    rw [Nat.zero_add]
    simp only [hh]
    rw [e, e2]
    rfl
theorem own_sliceAt {W : World} {N : Nat} {v : Value} {cs : List C} (h : W.ownsRow N 63 4 v cs.length (flat cs)) : SliceAt W v cs := by
  by_cases hc : cs = []
  · subst hc
    obtain ⟨a, c, rfl⟩ := own_slice h
    exact .inl ⟨rfl, a, c, rfl⟩
  · have hn : v ≠ .slice none 0 0 := by
      intro e
      subst e
      obtain ⟨-, ⟨-, h2⟩ | ⟨g, cap, cur, hv, -⟩⟩ := h
      · exact hc (List.eq_nil_of_length_eq_zero h2)
      · injection hv with hv
        cases hv
    obtain ⟨g, cap, rest, t, hv, hg, h1, h2, h3⟩ := Grd.own_of_row h hn
    exact .inr ⟨hc, g, 0, cap, hv, h1, h2, Grd.cellsAt_flat h3⟩
/-- Cells in a block of their own, from N on. -/
def OwnC (W : World) (N : Nat) (v : Value) (cs : List C) : Prop := (cs = [] ∧ ∃ a c, v = .slice a 0 c) ∨ Grd.OwnG W N v cs
theorem OwnC.of {W : World} {N : Nat} {v : Value} {cs : List C} (h : W.ownsRow N 63 4 v cs.length (flat cs)) : OwnC W N v cs := by
  by_cases hc : cs = []
  · subst hc
    obtain ⟨a, c, rfl⟩ := own_slice h
    exact .inl ⟨rfl, a, c, rfl⟩
  · refine .inr (Grd.own_of_row h ?_)
    intro e
    subst e
    obtain ⟨-, ⟨-, h2⟩ | ⟨g, cap, cur, hv, -⟩⟩ := h
    · exact hc (List.eq_nil_of_length_eq_zero h2)
    · injection hv with hv
      cases hv
theorem OwnC.cells {W : World} {N : Nat} {v : Value} {cs : List C} (h : OwnC W N v cs) : SliceAt W v cs := by
  rcases h with h | ⟨g, cap, rest, t, hv, hg, h1, h2, h3⟩
  · exact .inl h
  · by_cases hc : cs = []
    · subst hc
      exact .inl ⟨rfl, _, _, hv⟩
    · exact .inr ⟨hc, g, 0, cap, hv, h1, h2, Grd.cellsAt_flat h3⟩
theorem OwnC.shape {W : World} {N : Nat} {v : Value} {cs : List C} (h : OwnC W N v cs) : ∃ a c, v = .slice a cs.length c := h.cells.shape
theorem OwnC.mono {W : World} {N N' : Nat} {v : Value} {cs : List C} (h : OwnC W N v cs) (hN : N' ≤ N) : OwnC W N' v cs := by
  rcases h with h | ⟨g, cap, rest, t, hv, hg, h1⟩
  · exact .inl h
  · exact .inr ⟨g, cap, rest, t, hv, by omega, h1⟩
theorem OwnC.kept {W W' : World} {N : Nat} {v : Value} {cs : List C} (h : OwnC W N v cs) (hk : ∀ (g : Nat) (A : Array Value) (f : Nat × Nat), W.heap[g]? = some (.cells A 63 f) → W'.heap[g]? = W.heap[g]?) : OwnC W' N v cs := by
  rcases h with h | ⟨g, cap, rest, ⟨t, rfl⟩, hv, hg, h1, h2, h3⟩
  · exact .inl h
  · exact .inr ⟨g, cap, rest, ⟨_, rfl⟩, hv, hg, h1, h2, (hk g _ _ h3).trans h3⟩
/-- A screen in memory of its own: its cells, tabs and list of rows lie from N on; the rows that are gone, below M or in blocks of cells. -/
structure ScrO (W : World) (M N : Nat) (s : Scr) (cv tv gv : Value) : Prop where
  c : OwnC W N cv s.cs
  t : W.ownsRow N 4 1 tv s.tabs.length (s.tabs.map Value.bool)
  g : ∃ gvs, W.ownsRow N 22 1 gv s.gone.length gvs ∧ RowsIn W M gvs s.gone
theorem ScrO.scr {W : World} {M N : Nat} {s : Scr} {cv tv gv : Value} (h : ScrO W M N s cv tv gv) : ScrV W s cv tv gv := by
  obtain ⟨gvs, h1, h2⟩ := h.g
  exact ⟨h.c.cells, own_boolsV h.t, own_rowsV h1 h2.list⟩
/-- A block of another type, from M on, is changed. -/
theorem ScrO.off {W W' : World} {M N R : Nat} {s : Scr} {cv tv gv : Value} {A : Array Value} {t : TypeId} (h : ScrO W M N s cv tv gv) (hR : W.heap[R]? = some (.cells A t (0, 0))) (ht : IsSheet t) (hM : M ≤ R) (hk : ∀ k, k ≠ R → W'.heap[k]? = W.heap[k]?) : ScrO W' M N s cv tv gv := by
  have hoff : ∀ {e : TypeId} {z : Nat} {u : Value} {n : Nat} {xs : List Value}, t ≠ e → W.ownsRow N e z u n xs → W'.ownsRow N e z u n xs := fun hte hw => owns_kept hw fun q hq => hk q fun eq => by
    obtain ⟨-, B, f, hB⟩ := owns_block hw q hq
    rw [eq, hR] at hB
    injection hB with hB
    injection hB with _ hB _
    exact hte hB
  have hK : Kept M W W' := fun k _ hS => hk k fun e => by
    subst e
    rcases hS with hS | ⟨B, f, hS⟩
    · omega
    · rw [hR] at hS
      injection hS with hS
      injection hS with _ hS _
      exact ht.2.2 hS
  obtain ⟨gvs, h1, h2⟩ := h.g
  refine ⟨h.c.kept fun g A' f hg => hk g fun e => ?_, hoff ht.1 h.t, gvs, hoff ht.2.1 h1, h2.keep hK⟩
  rw [e, hR] at hg
  injection hg with hg
  injection hg with _ hg _
  exact ht.2.2 hg
theorem ScrO.mono {W : World} {M N N' : Nat} {s : Scr} {cv tv gv : Value} (h : ScrO W M N s cv tv gv) (hN : N' ≤ N) : ScrO W M N' s cv tv gv := by
  obtain ⟨gvs, h1, h2⟩ := h.g
  exact ⟨h.c.mono hN, Grd.ownsRow_mono h.t hN, gvs, Grd.ownsRow_mono h1 hN, h2⟩
theorem ScrO.next {W W' : World} {M N : Nat} {s : Scr} {cv tv gv : Value} (h : ScrO W M N s cv tv gv) (hb : Below W.heap.size W W') : ScrO W' M N s cv tv gv := by
  have hk : ∀ {e : TypeId} {z : Nat} {v : Value} {n : Nat} {xs : List Value}, W.ownsRow N e z v n xs → W'.ownsRow N e z v n xs := fun hw => owns_kept hw fun g hg => by
    obtain ⟨-, A, f, hA⟩ := owns_block hw g hg
    exact hb.block g (heap_lt hA)
  obtain ⟨gvs, h1, h2⟩ := h.g
  exact ⟨h.c.kept fun g A f hg => hb.block g (heap_lt hg), hk h.t, gvs, hk h1, h2.keep (Kept.of_below hb)⟩
theorem screen_is : IsSheet 32 := by unfold IsSheet; decide
end Put
end Go.Proofs.YtnkeahfcpbepjaaDoor

/- (*sheet.Sheet).whole. -/
namespace Go.Proofs.YtnkeahfcpbepjaaDoor
set_option linter.unusedVariables false
open Go.ChangeShapes Go.WideShapes Go.ChangeAt Go.RowKit
namespace Put
open Grd (C SliceAt CellsAt gridErr z0 nilV flat rowsL)
/-- The screen that nothing is in. -/
def zScr : Scr := ⟨0, 0, [], 0, 0, false, 0, 0, 0, 0, 0, 0, [], 0, 0, 0, 0, 0, 0, 0, ⟨#[]⟩, []⟩
theorem zA_eq : (#[.int .i64 0, .int .i64 0, .slice none 0 0, .int .i64 0, .int .i64 0, .bool false, .int .i64 0, .int .i64 0, .int .i64 0, .int .i64 0, .int .i64 0, .int .i64 0, .slice none 0 0, .int .i64 0, .int .i64 0, .int .i64 0, .int .i64 0, .int .i64 0, .int .i64 0, .int .i32 0, .string ⟨#[]⟩, .slice none 0 0] : Array Value) = scrA zScr (.slice none 0 0) (.slice none 0 0) (.slice none 0 0) := rfl
theorem scr_len (s : Scr) (cv tv gv : Value) : (scrA s cv tv gv).toList.length = 22 := rfl
theorem sh_range {W : World} {p : Nat} {t : TypeId} {s : Scr} {cv tv gv rv : Value} (h : W.heap[p]? = some (.cells (shA s cv tv gv rv) t (0, 0))) : W.rangeAt p 0 (scrA s cv tv gv).toList := fun j v hj => by
  have e : (shA s cv tv gv rv).toList = (scrA s cv tv gv).toList ++ [rv] := rfl
  have hlt := (List.getElem?_eq_some_iff.1 hj).1
  rw [scr_len] at hlt
  have : (shA s cv tv gv rv)[j]? = some v := by
    rw [← Array.getElem?_toList, e, List.getElem?_append_left (by rw [scr_len]; exact hlt)]
    exact hj
  simp [World.cell?, h, this]
theorem scr_one (s : Scr) (a1 a2 a3 : Option Addr) (n1 n2 n3 c1 c2 c3 : Nat) : (scrA s (.slice a1 n1 c1) (.slice a2 n2 c2) (.slice a3 n3 c3)).all (·.oneCell') = true := by
  simp [scrA, Value.oneCell']
theorem frozen_cells {W : World} {R : Nat} {A : Array Value} {t : TypeId} (h : W.heap[R]? = some (.cells A t (0, 0))) (i : Nat) : W.frozen? ⟨R, i, none⟩ = false := by simp [World.frozen?, h]
theorem cell_store_off {W : World} {p i k j : Nat} {v : Value} (h : k ≠ p) : (W.setCell ⟨p, i, none⟩ v).cell? ⟨k, j, none⟩ = W.cell? ⟨k, j, none⟩ := by
  have := store_off (W := W) (i := i) (v := v) h
  simp only [World.cell?, this]
theorem owns_off4 {W : World} {N p i : Nat} {e : TypeId} {v u : Value} {n z : Nat} {xs : List Value} {A : Array Value} {t : TypeId} (h : W.ownsRow N e z u n xs) (hp : W.heap[p]? = some (.cells A t (0, 0))) (ht : t ≠ e) : (W.setCell ⟨p, i, none⟩ v).ownsRow N e z u n xs :=
  owns_kept h fun g hg => store_off fun eq => by
    obtain ⟨-, B, f, hB⟩ := owns_block h g hg
    rw [eq, hp] at hB
    injection hB with hB
    injection hB with _ hB _
    exact ht hB
/-- A list of rows in memory of its own, as its cells tell. -/
theorem own_cells {W : World} {N : Nat} {v : Value} {n : Nat} {vs : List Value} (h : W.ownsRow N 22 1 v n vs) (hn : 0 < n) : ∃ g c, v = .slice (some ⟨g, 0, none⟩) n c ∧ N ≤ g ∧ n ≤ c ∧ c ≤ 9223372036854775807 ∧ vs.length = n ∧ (∀ j, j < n → W.cell? ⟨g, j, none⟩ = some (vs.getD j nilV)) ∧ ∃ A, W.heap[g]? = some (.cells A 22 (0, 0)) := by
  obtain ⟨h0, ⟨rfl, rfl⟩ | ⟨g, cap, cur, hv, hg, hh, hc, hm, hs, htk⟩⟩ := h
  · omega
  · refine ⟨g, cap, hv, hg, hc, by unfold maxLen at hm; omega, by omega, fun j hj => ?_, _, hh⟩
    have e : cur[j]? = vs[j]? := by
      rw [← htk, ← Array.getElem?_toList, List.getElem?_take_of_lt (by omega)]
    have hl : vs.length = n := by omega
    have e2 : vs[j]? = some (vs.getD j nilV) := by simp [List.getD, List.getElem?_eq_getElem (show j < vs.length by omega)]
    unfold World.cell?
    simp only [hh]
    rw [e, e2]
    rfl
set_option maxHeartbeats 4000000 in
set_option maxRecDepth 100000 in
theorem whole_any (W : World) (M N p : Nat) (s : Scr) (rows : List (List C)) (h : ShAt 109 W M N p s rows) (hr1 : 0 < rows.length) (hrl : rows.length ≤ 60) (hne : ∀ i, i < rows.length → rows.getD i [] ≠ []) (cs : List C) (hcs : rows.flatten = cs) (hl : cs.length ≤ 1048576) (hgl : s.gone.length ≤ 1048576) (hg : ∀ i, i < s.gone.length → (s.gone.getD i []).length ≤ 1048576) :
    Calls Tryd.prog 100 #[.pointer (some ⟨p, 0, none⟩)] W fun e W' => ∃ cv' tv' gv', e = .returned (.agg (scrA { s with cs := cs } cv' tv' gv')) ∧ ScrO W' 0 N { s with cs := cs } cv' tv' gv' ∧ Below N W W' := by
  obtain ⟨cv, tv, gv, rv, gvs, vs, hS⟩ := h
  obtain ⟨ca, cn, cc, rfl⟩ := hS.cvs
  obtain ⟨ta, tc, rfl⟩ := own_slice hS.tabs
  obtain ⟨ga, gc, rfl⟩ := own_slice hS.gone
  obtain ⟨g, rc, rfl, hgN, hrc1, hrc2, hvl, hrcell, hrb⟩ := own_cells hS.rws hr1
  have kb : Below W.heap.size W ((W.alloc (.cells #[.int .i64 0, .int .i64 0, .slice none 0 0, .int .i64 0, .int .i64 0, .bool false, .int .i64 0, .int .i64 0, .int .i64 0, .int .i64 0, .int .i64 0, .int .i64 0, .slice none 0 0, .int .i64 0, .int .i64 0, .int .i64 0, .int .i64 0, .int .i64 0, .int .i64 0, .int .i32 0, .string ⟨#[]⟩, .slice none 0 0] 32)).alloc (.cells #[.int .i64 0, .int .i64 0, .slice none 0 0, .int .i64 0, .int .i64 0, .bool false, .int .i64 0, .int .i64 0, .int .i64 0, .int .i64 0, .int .i64 0, .int .i64 0, .slice none 0 0, .int .i64 0, .int .i64 0, .int .i64 0, .int .i64 0, .int .i64 0, .int .i64 0, .int .i32 0, .string ⟨#[]⟩, .slice none 0 0] 32)) := ((Below.refl _ _).alloc (Nat.le_refl _) _).alloc (by simp) _
  have HS : Hid (ShA 109 W M N p s rows _ _ _ _ gvs vs) := hS
  have hrg := sh_range hS.blk
  have x2 := heap_alloc_new W (.cells #[.int .i64 0, .int .i64 0, .slice none 0 0, .int .i64 0, .int .i64 0, .bool false, .int .i64 0, .int .i64 0, .int .i64 0, .int .i64 0, .int .i64 0, .int .i64 0, .slice none 0 0, .int .i64 0, .int .i64 0, .int .i64 0, .int .i64 0, .int .i64 0, .int .i64 0, .int .i32 0, .string ⟨#[]⟩, .slice none 0 0] 32)
  have x3 : ((W.alloc (.cells #[.int .i64 0, .int .i64 0, .slice none 0 0, .int .i64 0, .int .i64 0, .bool false, .int .i64 0, .int .i64 0, .int .i64 0, .int .i64 0, .int .i64 0, .int .i64 0, .slice none 0 0, .int .i64 0, .int .i64 0, .int .i64 0, .int .i64 0, .int .i64 0, .int .i64 0, .int .i32 0, .string ⟨#[]⟩, .slice none 0 0] 32)).alloc (.cells #[.int .i64 0, .int .i64 0, .slice none 0 0, .int .i64 0, .int .i64 0, .bool false, .int .i64 0, .int .i64 0, .int .i64 0, .int .i64 0, .int .i64 0, .int .i64 0, .slice none 0 0, .int .i64 0, .int .i64 0, .int .i64 0, .int .i64 0, .int .i64 0, .int .i64 0, .int .i32 0, .string ⟨#[]⟩, .slice none 0 0] 32)).heap[W.heap.size + 1]? = some (.cells #[.int .i64 0, .int .i64 0, .slice none 0 0, .int .i64 0, .int .i64 0, .bool false, .int .i64 0, .int .i64 0, .int .i64 0, .int .i64 0, .int .i64 0, .int .i64 0, .slice none 0 0, .int .i64 0, .int .i64 0, .int .i64 0, .int .i64 0, .int .i64 0, .int .i64 0, .int .i32 0, .string ⟨#[]⟩, .slice none 0 0] 32 (0, 0)) := heap_alloc2_new W _ _
  have HRG : Hid _ := hrg
  have HX3 : Hid _ := x3
  have HKB : Hid _ := kb
  clear hrg x3 kb hS
  have HX1 : Hid ((((W.alloc (.cells #[.int .i64 0, .int .i64 0, .slice none 0 0, .int .i64 0, .int .i64 0, .bool false, .int .i64 0, .int .i64 0, .int .i64 0, .int .i64 0, .int .i64 0, .int .i64 0, .slice none 0 0, .int .i64 0, .int .i64 0, .int .i64 0, .int .i64 0, .int .i64 0, .int .i64 0, .int .i32 0, .string ⟨#[]⟩, .slice none 0 0] 32)).alloc (.cells #[.int .i64 0, .int .i64 0, .slice none 0 0, .int .i64 0, .int .i64 0, .bool false, .int .i64 0, .int .i64 0, .int .i64 0, .int .i64 0, .int .i64 0, .int .i64 0, .slice none 0 0, .int .i64 0, .int .i64 0, .int .i64 0, .int .i64 0, .int .i64 0, .int .i64 0, .int .i32 0, .string ⟨#[]⟩, .slice none 0 0] 32)).setRow (W.heap.size + 1) (scrA s (.slice ca cn cc) (.slice ta s.tabs.length tc) (.slice ga s.gone.length gc))).heap[W.heap.size + 1]? = some (.cells (scrA s (.slice ca cn cc) (.slice ta s.tabs.length tc) (.slice ga s.gone.length gc)) 32 (0, 0))) := setRow_heap _ _ _ _ _ _ HX3.out
  have HX0 : Hid ((((W.alloc (.cells #[.int .i64 0, .int .i64 0, .slice none 0 0, .int .i64 0, .int .i64 0, .bool false, .int .i64 0, .int .i64 0, .int .i64 0, .int .i64 0, .int .i64 0, .int .i64 0, .slice none 0 0, .int .i64 0, .int .i64 0, .int .i64 0, .int .i64 0, .int .i64 0, .int .i64 0, .int .i32 0, .string ⟨#[]⟩, .slice none 0 0] 32)).alloc (.cells #[.int .i64 0, .int .i64 0, .slice none 0 0, .int .i64 0, .int .i64 0, .bool false, .int .i64 0, .int .i64 0, .int .i64 0, .int .i64 0, .int .i64 0, .int .i64 0, .slice none 0 0, .int .i64 0, .int .i64 0, .int .i64 0, .int .i64 0, .int .i64 0, .int .i64 0, .int .i32 0, .string ⟨#[]⟩, .slice none 0 0] 32)).setRow (W.heap.size + 1) (scrA s (.slice ca cn cc) (.slice ta s.tabs.length tc) (.slice ga s.gone.length gc))).heap[W.heap.size]? = some (.cells (scrA zScr (.slice none 0 0) (.slice none 0 0) (.slice none 0 0)) 32 (0, 0))) := by
    unfold Hid
    rw [setRow_other _ _ _ _ (by omega), Below.heap_alloc _ _ _ (by simp), heap_alloc_new]
    rfl
  have HB0 : Hid (Below W.heap.size W (((W.alloc (.cells #[.int .i64 0, .int .i64 0, .slice none 0 0, .int .i64 0, .int .i64 0, .bool false, .int .i64 0, .int .i64 0, .int .i64 0, .int .i64 0, .int .i64 0, .int .i64 0, .slice none 0 0, .int .i64 0, .int .i64 0, .int .i64 0, .int .i64 0, .int .i64 0, .int .i64 0, .int .i32 0, .string ⟨#[]⟩, .slice none 0 0] 32)).alloc (.cells #[.int .i64 0, .int .i64 0, .slice none 0 0, .int .i64 0, .int .i64 0, .bool false, .int .i64 0, .int .i64 0, .int .i64 0, .int .i64 0, .int .i64 0, .int .i64 0, .slice none 0 0, .int .i64 0, .int .i64 0, .int .i64 0, .int .i64 0, .int .i64 0, .int .i64 0, .int .i32 0, .string ⟨#[]⟩, .slice none 0 0] 32)).setRow (W.heap.size + 1) (scrA s (.slice ca cn cc) (.slice ta s.tabs.length tc) (.slice ga s.gone.length gc)))) := below_setRow HKB.out (by omega) _
  go_enter Tryd.func100, Tryd.ntmps100
  go_upto_region 2 with (first
    | (refine wpList_load_mid rfl 32 (.tmp 8) rfl p 0 rfl (scrA s (.slice ca cn cc) (.slice ta s.tabs.length tc) (.slice ga s.gone.length gc)).toList _ (fun j v hj => cell_stay ((Below.refl _ _).alloc (Nat.le_refl _) _) (HRG.out j v hj)) Tryd.underlying32 rfl (by kernel_rfl) ?_)
    | (refine wpList_store_row rfl 32 (.tmp 3) _ rfl (W.heap.size + 1) (scrA s (.slice ca cn cc) (.slice ta s.tabs.length tc) (.slice ga s.gone.length gc)) rfl rfl _ _ HX3.out (by kernel_rfl) rfl (scr_one _ _ _ _ _ _ _ _ _ _) ?_))
  clear HX3 HKB x2
  generalize (((W.alloc (.cells #[.int .i64 0, .int .i64 0, .slice none 0 0, .int .i64 0, .int .i64 0, .bool false, .int .i64 0, .int .i64 0, .int .i64 0, .int .i64 0, .int .i64 0, .int .i64 0, .slice none 0 0, .int .i64 0, .int .i64 0, .int .i64 0, .int .i64 0, .int .i64 0, .int .i64 0, .int .i32 0, .string ⟨#[]⟩, .slice none 0 0] 32)).alloc (.cells #[.int .i64 0, .int .i64 0, .slice none 0 0, .int .i64 0, .int .i64 0, .bool false, .int .i64 0, .int .i64 0, .int .i64 0, .int .i64 0, .int .i64 0, .int .i64 0, .slice none 0 0, .int .i64 0, .int .i64 0, .int .i64 0, .int .i64 0, .int .i64 0, .int .i64 0, .int .i32 0, .string ⟨#[]⟩, .slice none 0 0] 32)).setRow (W.heap.size + 1) (scrA s (.slice ca cn cc) (.slice ta s.tabs.length tc) (.slice ga s.gone.length gc))) = X at *
  have hgl1 : W.heap.size + 1 < X.heap.size := heap_lt HX1.out
  have hS0 := HS.out
  have hlo := hS0.lo
  have hml := hS0.ml
  have hpl := heap_lt hS0.blk
  have c22 := (sh_cells ((HB0.out.block p hpl).trans hS0.blk)).2.1.2.2.2.2.2.2.2.2.2.2.2
  have hcv : ∀ j, j < rows.length → ∃ b' o' c', X.cell? ⟨g, 0 + j, none⟩ = some (.slice (some ⟨b', o', none⟩) (rows.getD j []).length c') ∧ CellsAt X b' o' (rows.getD j []) := fun j hj => by
    have h1 := cell_stay HB0.out (hrcell j hj)
    rcases hS0.rin.2 j hj with ⟨he, -⟩ | ⟨-, b', o', c', hv, -, -, hC, -⟩
    · exact absurd he (hne j hj)
    · rw [hv] at h1
      rw [Nat.zero_add]
      exact ⟨b', o', c', h1, hC.below HB0.out⟩
  have HCV := concat_any g 0 rc rows X hcv cs hcs hl (by omega)
  clear hcv hcs hrcell
  go_wp2_with fail
  refine HCV.mono ?_
  rintro e X4 ⟨v4, rfl, ho4, b4⟩
  obtain ⟨va, vc, rfl⟩ := own_slice ho4
  have hX1' := Grd.carry HX1.out b4
  have f2 := (scr_cells hX1').2.2 2
  have c2 := (scr_cells hX1').1.2.2.1
  have c21 := (scr_cells hX1').2.1.2.2.2.2.2.2.2.2.2.2
  have HY1 : Hid ((X4.setCell ⟨W.heap.size + 1, 2, none⟩ (.slice va cs.length vc)).heap[W.heap.size + 1]? = some (.cells (scrA { s with cs := cs } (.slice va cs.length vc) (.slice ta s.tabs.length tc) (.slice ga s.gone.length gc)) 32 (0, 0))) := store_at hX1' rfl
  have hNX : N ≤ X.heap.size := by have := HB0.out.size; omega
  have HY0 : Hid ((X4.setCell ⟨W.heap.size + 1, 2, none⟩ (.slice va cs.length vc)).heap[W.heap.size]? = _) := (store_off (by omega)).trans (Grd.carry HX0.out b4)
  have b5 : Below W.heap.size W (X4.setCell ⟨W.heap.size + 1, 2, none⟩ (.slice va cs.length vc)) := (HB0.out.trans (b4.mono HB0.out.size)).setCell (Nat.le_succ _) _
  have HBN : Hid (Below N W (X4.setCell ⟨W.heap.size + 1, 2, none⟩ (.slice va cs.length vc))) := b5.mono (by omega)
  have HSH : Hid (ShA 109 (X4.setCell ⟨W.heap.size + 1, 2, none⟩ (.slice va cs.length vc)) M N p s rows _ _ _ _ gvs vs) := hS0.next b5
  have HC4 : Hid ((X4.setCell ⟨W.heap.size + 1, 2, none⟩ (.slice va cs.length vc)).ownsRow N 63 4 (.slice va cs.length vc) cs.length (flat cs)) := Grd.ownsRow_mono (owns_kept ho4 fun k hk => store_off fun e => by
    obtain ⟨-, A, f, hA⟩ := owns_block ho4 k hk
    rw [e, hX1'] at hA
    injection hA with hA
    injection hA with _ hA _
    exact absurd hA (by decide)) hNX
  clear ho4 b4 hX1' b5 hS0 HCV
  go_wp2_with fail
  go_loopg [20] s.gone.length (fun q i wr => ∃ (k : Nat) (gs : List Value), k ≤ s.gone.length ∧ s.gone.length - k ≤ q ∧ i = .int .i64 (k : Int) ∧ Below N W wr ∧ wr.heap[W.heap.size + 1]? = some (.cells (scrA { s with cs := cs } (.slice va cs.length vc) (.slice ta s.tabs.length tc) (.slice ga s.gone.length gc)) 32 (0, 0)) ∧ wr.heap[W.heap.size]? = some (.cells (scrA zScr (.slice none 0 0) (.slice none 0 0) (.slice none 0 0)) 32 (0, 0)) ∧ wr.ownsRow N 4 1 (.slice ta s.tabs.length tc) s.tabs.length (s.tabs.map Value.bool) ∧ wr.ownsRow N 63 4 (.slice va cs.length vc) cs.length (flat cs) ∧ wr.ownsRow N 22 1 (.slice ga s.gone.length gc) s.gone.length gs ∧ RowsIn wr M gs s.gone ∧ DoneR wr k gs s.gone)
  case atStart => exact ⟨0, gvs, by omega, by omega, rfl, HBN.out, HY1.out, HY0.out, HSH.out.tabs, HC4.out, HSH.out.gone, HSH.out.gin, fun i hi => absurd hi (Nat.not_lt_zero _)⟩
  case round =>
    clear HY0 HY1 HBN HSH HC4 HX0 HX1 HB0 c2 c21 c22 f2
    obtain ⟨k, gs, hk, hq, rfl, hb, hy1, hy0, hot, hoc, hog, hri, hdn⟩ := hrel
    have HDN : Hid (DoneR wr k gs s.gone) := hdn
    clear hdn
    have HB : Hid (Below N W wr) := hb
    have HY1 : Hid _ := hy1
    have HY0 : Hid _ := hy0
    have HT : Hid (wr.ownsRow N 4 1 _ s.tabs.length (s.tabs.map Value.bool)) := hot
    have HC : Hid (wr.ownsRow N 63 4 _ cs.length (flat cs)) := hoc
    have HG : Hid (wr.ownsRow N 22 1 _ s.gone.length gs) := hog
    have HRI : Hid (RowsIn wr M gs s.gone) := hri
    have c21 := (scr_cells hy1).2.1.2.2.2.2.2.2.2.2.2.2
    by_cases hlt : k < s.gone.length
    · have lt1 : ((k : Int) < (s.gone.length : Int)) := by omega
      obtain ⟨gb, gc', hv, hgb, -, hgc, -, hgcell, A, hgA⟩ := own_cells hog (by omega)
      injection hv with hv1 _ hv3
      subst hv1 hv3
      have d1 := hgcell k hlt
      have hrow := hri.2 k hlt
      have hgk := hg k hlt
      obtain ⟨ra, rc2, hsh⟩ := hrow.shape
      rw [hsh] at d1
      have HGB : Hid (wr.heap[gb]? = some (.cells A 22 (0, 0))) := hgA
      have HWR : Hid (RowIn wr.drew M (.slice ra (s.gone.getD k []).length rc2) (s.gone.getD k [])) := by unfold Hid; rw [← hsh]; exact hrow
      obtain ⟨row, hrowk⟩ : ∃ row, row = s.gone.getD k [] := ⟨_, rfl⟩
      have HK : Hid (row = s.gone.getD k []) := hrowk
      rw [← hrowk] at d1 hgk HWR
      have hne3 : gb ≠ W.heap.size + 1 := by
        intro e
        rw [e, hy1] at hgA
        injection hgA with hgA
        injection hgA with _ hgA _
        exact absurd hgA (by decide)
      clear hb hy1 hy0 hot hoc hog hri hrow hgA hgcell hsh hrowk
      go_upto_region 6 with fail
      have e0 : wr.drew.cell? ⟨W.heap.size + 1, 21, none⟩ = some (.slice (some ⟨gb, 0, none⟩) s.gone.length gc) := c21
      go_region_held3 (fun w' => w'.cell? ⟨W.heap.size + 1, 21, none⟩ = some (.slice (some ⟨gb, 0, none⟩) s.gone.length gc))
        (first | exact e2 | exact e1 | exact e0)
        (first | (go_at_call 107; refine (cloneRow_all _ M row wr.drew HWR.out (by omega)).mono ?_; rintro e V1 ⟨na, nc, rfl, hrn, b1⟩; have e1 := cell_stay b1 e0; have g1 := Grd.carry (show wr.drew.heap[gb]? = _ from HGB.out) b1; have d2 := cell_stay b1 (show wr.drew.cell? ⟨gb, k, none⟩ = _ from d1); have f1 : ∀ i, V1.frozen? ⟨gb, i, none⟩ = false := (fun i => frozen_cells g1 i); have e2 : (V1.setCell ⟨gb, k, none⟩ (.slice na row.length nc)).cell? ⟨W.heap.size + 1, 21, none⟩ = some (.slice (some ⟨gb, 0, none⟩) s.gone.length gc) := (cell_store_off (Ne.symm hne3)).trans e1; have HRN : Hid _ := hrn; have HB1 : Hid _ := b1; clear hrn b1))
      have bw : Below wr.heap.size wr V1 := ((Below.refl wr.heap.size wr).drew).trans HB1.out
      have g1 := Grd.carry HGB.out bw
      have HK2 : Hid (Kept M V1 (V1.setCell ⟨gb, k, none⟩ (.slice na row.length nc))) := Kept.store g1 (by decide) (Nat.le_trans hml hgb)
      have HN1 : Hid _ := (store_off (i := k) (v := .slice na row.length nc) (Ne.symm hne3)).trans (Grd.carry HY1.out bw)
      have HN0 : Hid _ := (store_off (p := gb) (k := W.heap.size) (i := k) (v := .slice na row.length nc) (by
        intro e
        have h1 := HGB.out
        have h2 := HY0.out
        rw [← e, h2] at h1
        injection h1 with h1
        injection h1 with _ h1 _
        exact absurd h1 (by decide))).trans (Grd.carry HY0.out bw)
      have HT1 : Hid _ := own_off (i := k) (v := .slice na row.length nc) (own_next HT.out bw) g1 (by decide)
      have HC1 : Hid _ := owns_off4 (i := k) (v := .slice na row.length nc) (owns_kept HC.out fun q hq => by
        obtain ⟨-, B, f, hB⟩ := owns_block HC.out q hq
        exact bw.block q (heap_lt hB)) g1 (by decide)
      have HG1 : Hid _ := own_set (k := k) (v := .slice na row.length nc) (own_next HG.out bw)
      have HR1 : Hid (RowsIn (V1.setCell ⟨gb, k, none⟩ (.slice na row.length nc)) M (gs.set k (.slice na row.length nc)) s.gone) := by
        have h1 := (HRI.out.keep (Kept.of_below bw)).set k (.slice na row.length nc) row (HRN.out M)
        rw [HK.out, set_getD _ _ _ hlt, ← HK.out] at h1
        exact h1.keep HK2.out
      have HK0 : Hid (Kept 0 V1 (V1.setCell ⟨gb, k, none⟩ (.slice na row.length nc))) := Kept.store g1 (by decide) (Nat.zero_le _)
      have HD1 : Hid (DoneR (V1.setCell ⟨gb, k, none⟩ (.slice na row.length nc)) (k + 1) (gs.set k (.slice na row.length nc)) s.gone) := fun i hi hl => by
        by_cases e : i = k
        · subst e
          rw [getD_set_same _ _ _ _ (by rw [HRI.out.1]; exact hl), ← HK.out]
          exact (HRN.out 0).keep HK0.out
        · rw [getD_set_ne _ _ _ _ _ e]
          exact ((HDN.out i (by omega) hl).keep (Kept.of_below bw)).keep HK0.out
      have HBB : Hid (Below N W (V1.setCell ⟨gb, k, none⟩ (.slice na row.length nc))) := (HB.out.trans (bw.mono (by have := HB.out.size; omega))).setCell hgb _
      clear bw g1 e0 e1 e2 d1 d2 f1
      go_wp2_with fail
      go_roundg (s.gone.length - (k + 1))
      case measure => omega
      case rel => exact ⟨k + 1, _, by omega, by omega, by go_num, HBB.out, HN1.out, HN0.out, HT1.out, HC1.out, HG1.out, HR1.out, HD1.out⟩
    · have lt1 : ¬ ((k : Int) < (s.gone.length : Int)) := by omega
      clear hb hy1 hy0 hot hoc hog hri c21
      go_wp2_with (first
        | (refine wpList_load_row rfl 32 (.tmp 3) rfl (W.heap.size + 1) rfl _ _ _ _ HY1.out Tryd.underlying32 rfl (by kernel_rfl) ?_)
        | (refine wpList_store_row rfl 32 (.tmp 2) _ rfl W.heap.size (scrA { s with cs := cs } (.slice va cs.length vc) (.slice ta s.tabs.length tc) (.slice ga s.gone.length gc)) rfl rfl _ _ HY0.out (by kernel_rfl) rfl (scr_one _ _ _ _ _ _ _ _ _ _) ?_))
      (try simp only [Exit.inBlock, Exit.then])
      refine bodyPost_ret (v := .agg (scrA { s with cs := cs } (.slice va cs.length vc) (.slice ta s.tabs.length tc) (.slice ga s.gone.length gc))) ?_ rfl ⟨_, _, _, rfl, ?_, ?_⟩
      · exact results_cell_row rfl _ _ W.heap.size _ _ _ _ rfl (setRow_heap _ _ _ _ _ _ HY0.out) Tryd.underlying32 rfl (by kernel_rfl)
      · exact ScrO.off (s := { s with cs := cs }) ⟨OwnC.of HC.out, HT.out, gs, HG.out, HRI.out.1, fun i (hi : i < s.gone.length) => HDN.out i (by omega) hi⟩ HY0.out screen_is (by omega) fun k hk => setRow_other _ _ _ _ hk
      · exact below_setRow HB.out (by omega) _
end Put
end Go.Proofs.YtnkeahfcpbepjaaDoor

/- sheet.Change: a screen, as a function makes it of its sheet. -/
namespace Go.Proofs.YtnkeahfcpbepjaaDoor
set_option linter.unusedVariables false
open Go.ChangeShapes Go.WideShapes Go.ChangeAt Go.RowKit
namespace Put
open Grd (C SliceAt CellsAt gridErr z0 nilV flat rowsL)
/-- A function that the program has. -/
def Plain (df : FuncId) : Prop := ∀ (args : Array Value) (W : World), (callFunc df args).run Tryd.prog W = .ok (.enter df args) W
/-- What a function does to a sheet. -/
def Does (df : FuncId) (caps : Array Value) (M : Nat) (w : World) (s s' : Scr) (rows rows' : List (List C)) : Prop :=
  ∀ W p, Below w.heap.size w W → ShAt 109 W M w.heap.size p s rows → Calls Tryd.prog df (#[.pointer (some ⟨p, 0, none⟩)] ++ caps) W fun e W' => e = .returned (.tuple #[]) ∧ ShAt 109 W' M w.heap.size p s' rows' ∧ Below w.heap.size W W'
/-- A sheet's rows: at least one, none empty. -/
structure RowsOk (s : Scr) (rows : List (List C)) : Prop where
  r1 : 0 < rows.length
  r2 : rows.length ≤ 60
  ne : ∀ i, i < rows.length → rows.getD i [] ≠ []
  cl : rows.flatten.length ≤ 1048576
  gl : s.gone.length ≤ 1048576
  gr : ∀ i, i < s.gone.length → (s.gone.getD i []).length ≤ 1048576
set_option maxHeartbeats 2000000 in
theorem change_bad (s : Scr) (ca ta ga : Option Addr) (cn cc tn tc gn gc : Nat) (er : Int) (he : er ≠ 0) (fv : Value) (w : World) :
    Calls Tryd.prog 57 #[.agg (scrA s (.slice ca cn cc) (.slice ta tn tc) (.slice ga gn gc)), .int .i64 er, fv] w fun e W' => e = .returned (.tuple #[.agg (scrA zScr (.slice none 0 0) (.slice none 0 0) (.slice none 0 0)), .int .i64 er]) ∧ Below w.heap.size w W' := by
  have he2 : (er != 0) = true := by simp [bne, he]
  have HE : Hid (er ≠ 0) := he
  clear he
  have HX1 : Hid (((w.alloc (.cells (scrA s (.slice ca cn cc) (.slice ta tn tc) (.slice ga gn gc)) 32)).alloc (.cells #[.int .i64 0, .int .i64 0, .slice none 0 0, .int .i64 0, .int .i64 0, .bool false, .int .i64 0, .int .i64 0, .int .i64 0, .int .i64 0, .int .i64 0, .int .i64 0, .slice none 0 0, .int .i64 0, .int .i64 0, .int .i64 0, .int .i64 0, .int .i64 0, .int .i64 0, .int .i32 0, .string ⟨#[]⟩, .slice none 0 0] 32)).heap[w.heap.size + 1]? = some (.cells #[.int .i64 0, .int .i64 0, .slice none 0 0, .int .i64 0, .int .i64 0, .bool false, .int .i64 0, .int .i64 0, .int .i64 0, .int .i64 0, .int .i64 0, .int .i64 0, .slice none 0 0, .int .i64 0, .int .i64 0, .int .i64 0, .int .i64 0, .int .i64 0, .int .i64 0, .int .i32 0, .string ⟨#[]⟩, .slice none 0 0] 32 (0, 0))) := heap_alloc2_new w _ _
  have HKB : Hid (Below w.heap.size w ((w.alloc (.cells (scrA s (.slice ca cn cc) (.slice ta tn tc) (.slice ga gn gc)) 32)).alloc (.cells #[.int .i64 0, .int .i64 0, .slice none 0 0, .int .i64 0, .int .i64 0, .bool false, .int .i64 0, .int .i64 0, .int .i64 0, .int .i64 0, .int .i64 0, .int .i64 0, .slice none 0 0, .int .i64 0, .int .i64 0, .int .i64 0, .int .i64 0, .int .i64 0, .int .i64 0, .int .i32 0, .string ⟨#[]⟩, .slice none 0 0] 32))) := ((Below.refl _ _).alloc (Nat.le_refl _) _).alloc (by simp) _
  go_enter Tryd.func57, Tryd.ntmps57
  go_wp2_with (refine wpList_store_row rfl 32 (.tmp 6) (.tmp 11) rfl (w.heap.size + 1) (scrA zScr (.slice none 0 0) (.slice none 0 0) (.slice none 0 0)) rfl rfl _ _ HX1.out (by kernel_rfl) rfl (scr_one zScr _ _ _ _ _ _ _ _ _) ?_)
  (try simp only [Exit.inBlock, Exit.then])
  refine bodyPost_ret (v := .tuple #[.agg (scrA zScr (.slice none 0 0) (.slice none 0 0) (.slice none 0 0)), .int .i64 er]) ?_ rfl ⟨rfl, below_setRow HKB.out (by omega) _⟩
  exact Grd.results_row_tmp rfl _ _ (w.heap.size + 1) _ _ _ _ rfl (setRow_heap _ _ _ _ _ _ HX1.out) Tryd.underlying32 rfl (by kernel_rfl) _ rfl
set_option maxHeartbeats 4000000 in
set_option maxRecDepth 100000 in
theorem change_good (n hh : Nat) (s s' : Scr) (rows' : List (List C)) (cv tv gv : Value) (df : FuncId) (hdf : Plain df) (caps : Array Value) (w0 w : World) (hV : ScrV w0 s cv tv gv) (hb0 : Below w0.heap.size w0 w) (hF : Fits s) (hw : s.w = n) (hh' : s.h = hh) (hz : gridErr n hh s.cs = 0)
    (hD : ∀ w1, Below w.heap.size w w1 → Does df caps w0.heap.size w1 s s' (rowsL n s.cs hh) rows') (hO : RowsOk s' rows') (cs' : List C) (hcs : rows'.flatten = cs') :
    Calls Tryd.prog 57 #[.agg (scrA s cv tv gv), .int .i64 0, .func (.func df) #[] caps] w fun e W' => ∃ cv' tv' gv', e = .returned (.tuple #[.agg (scrA { s' with cs := cs' } cv' tv' gv'), .int .i64 0]) ∧ ScrO W' 0 w.heap.size { s' with cs := cs' } cv' tv' gv' ∧ Below w.heap.size w W' := by
  obtain ⟨ca, cc, rfl⟩ := hV.c.shape
  obtain ⟨ta, tc, rfl⟩ := hV.t.slice
  obtain ⟨ga, gc, rfl⟩ := hV.g.slice
  have hx0 : ((w.alloc (.cells (scrA s (.slice ca s.cs.length cc) (.slice ta s.tabs.length tc) (.slice ga s.gone.length gc)) 32)).alloc (.cells #[.int .i64 0, .int .i64 0, .slice none 0 0, .int .i64 0, .int .i64 0, .bool false, .int .i64 0, .int .i64 0, .int .i64 0, .int .i64 0, .int .i64 0, .int .i64 0, .slice none 0 0, .int .i64 0, .int .i64 0, .int .i64 0, .int .i64 0, .int .i64 0, .int .i64 0, .int .i32 0, .string ⟨#[]⟩, .slice none 0 0] 32)).heap[w.heap.size]? = some (.cells (scrA s (.slice ca s.cs.length cc) (.slice ta s.tabs.length tc) (.slice ga s.gone.length gc)) 32 (0, 0)) := (Below.heap_alloc _ _ _ (by simp)).trans (heap_alloc_new _ _)
  have hx1 : ((w.alloc (.cells (scrA s (.slice ca s.cs.length cc) (.slice ta s.tabs.length tc) (.slice ga s.gone.length gc)) 32)).alloc (.cells #[.int .i64 0, .int .i64 0, .slice none 0 0, .int .i64 0, .int .i64 0, .bool false, .int .i64 0, .int .i64 0, .int .i64 0, .int .i64 0, .int .i64 0, .int .i64 0, .slice none 0 0, .int .i64 0, .int .i64 0, .int .i64 0, .int .i64 0, .int .i64 0, .int .i64 0, .int .i32 0, .string ⟨#[]⟩, .slice none 0 0] 32)).heap[w.heap.size + 1]? = some (.cells #[.int .i64 0, .int .i64 0, .slice none 0 0, .int .i64 0, .int .i64 0, .bool false, .int .i64 0, .int .i64 0, .int .i64 0, .int .i64 0, .int .i64 0, .int .i64 0, .slice none 0 0, .int .i64 0, .int .i64 0, .int .i64 0, .int .i64 0, .int .i64 0, .int .i64 0, .int .i32 0, .string ⟨#[]⟩, .slice none 0 0] 32 (0, 0)) := heap_alloc2_new w _ _
  have hsz : ((w.alloc (.cells (scrA s (.slice ca s.cs.length cc) (.slice ta s.tabs.length tc) (.slice ga s.gone.length gc)) 32)).alloc (.cells #[.int .i64 0, .int .i64 0, .slice none 0 0, .int .i64 0, .int .i64 0, .bool false, .int .i64 0, .int .i64 0, .int .i64 0, .int .i64 0, .int .i64 0, .int .i64 0, .slice none 0 0, .int .i64 0, .int .i64 0, .int .i64 0, .int .i64 0, .int .i64 0, .int .i64 0, .int .i32 0, .string ⟨#[]⟩, .slice none 0 0] 32)).heap.size = w.heap.size + 2 := by simp
  have hkb : Below w.heap.size w ((w.alloc (.cells (scrA s (.slice ca s.cs.length cc) (.slice ta s.tabs.length tc) (.slice ga s.gone.length gc)) 32)).alloc (.cells #[.int .i64 0, .int .i64 0, .slice none 0 0, .int .i64 0, .int .i64 0, .bool false, .int .i64 0, .int .i64 0, .int .i64 0, .int .i64 0, .int .i64 0, .int .i64 0, .slice none 0 0, .int .i64 0, .int .i64 0, .int .i64 0, .int .i64 0, .int .i64 0, .int .i64 0, .int .i32 0, .string ⟨#[]⟩, .slice none 0 0] 32)) := ((Below.refl _ _).alloc (Nat.le_refl _) _).alloc (by simp) _
  have HX0 : Hid _ := hx0
  have HX1 : Hid _ := hx1
  have HSZ : Hid _ := hsz
  have HKB : Hid _ := hkb
  have HO : Hid (RowsOk s' rows') := hO
  have HD : Hid (∀ w1, Below w.heap.size w w1 → Does df caps w0.heap.size w1 s s' (rowsL n s.cs hh) rows') := hD
  have HOP := open_any n hh s _ _ _ w0 ((w.alloc (.cells (scrA s (.slice ca s.cs.length cc) (.slice ta s.tabs.length tc) (.slice ga s.gone.length gc)) 32)).alloc (.cells #[.int .i64 0, .int .i64 0, .slice none 0 0, .int .i64 0, .int .i64 0, .bool false, .int .i64 0, .int .i64 0, .int .i64 0, .int .i64 0, .int .i64 0, .int .i64 0, .slice none 0 0, .int .i64 0, .int .i64 0, .int .i64 0, .int .i64 0, .int .i64 0, .int .i64 0, .int .i32 0, .string ⟨#[]⟩, .slice none 0 0] 32)) hV (hb0.trans (hkb.mono hb0.size)) hF hw hh' hz
  have hlc : cs'.length ≤ 1048576 := by rw [← hcs]; exact hO.cl
  have HCS : Hid (rows'.flatten = cs') := hcs
  unfold Plain at hdf
  have hM0 := hb0.size
  clear hx0 hx1 hsz hkb hV hF hw hh' hz hO hD hcs hb0
  go_enter Tryd.func57, Tryd.ntmps57
  go_wp2_with (refine wpList_load_row rfl 32 (.tmp 3) rfl w.heap.size rfl _ _ _ _ HX0.out Tryd.underlying32 rfl (by kernel_rfl) ?_)
  refine HOP.mono ?_
  rintro e W1 ⟨p, rfl, hS1, b1⟩
  have HB1 : Hid (Below w.heap.size w W1) := HKB.out.trans (b1.mono HKB.out.size)
  have HDO := HD.out _ HKB.out W1 p b1 hS1
  have HX2 : Hid _ := Grd.carry HX1.out b1
  clear HOP b1 hS1
  go_wp2_with fail
  refine HDO.mono ?_
  rintro e W2 ⟨rfl, hS2, b2⟩
  have hle : w.heap.size ≤ ((w.alloc (.cells (scrA s (.slice ca s.cs.length cc) (.slice ta s.tabs.length tc) (.slice ga s.gone.length gc)) 32)).alloc (.cells #[.int .i64 0, .int .i64 0, .slice none 0 0, .int .i64 0, .int .i64 0, .bool false, .int .i64 0, .int .i64 0, .int .i64 0, .int .i64 0, .int .i64 0, .int .i64 0, .slice none 0 0, .int .i64 0, .int .i64 0, .int .i64 0, .int .i64 0, .int .i64 0, .int .i64 0, .int .i32 0, .string ⟨#[]⟩, .slice none 0 0] 32)).heap.size := by rw [HSZ.out]; omega
  have HB2 : Hid (Below w.heap.size w W2) := HB1.out.trans (b2.mono hle)
  have HX3 : Hid (W2.heap[w.heap.size + 1]? = _) := (b2.block (w.heap.size + 1) (by rw [HSZ.out]; omega)).trans HX2.out
  have HWH := whole_any W2 _ _ p s' rows' hS2 HO.out.r1 HO.out.r2 HO.out.ne cs' HCS.out hlc HO.out.gl HO.out.gr
  have hlt : w.heap.size + 1 < ((w.alloc (.cells (scrA s (.slice ca s.cs.length cc) (.slice ta s.tabs.length tc) (.slice ga s.gone.length gc)) 32)).alloc (.cells #[.int .i64 0, .int .i64 0, .slice none 0 0, .int .i64 0, .int .i64 0, .bool false, .int .i64 0, .int .i64 0, .int .i64 0, .int .i64 0, .int .i64 0, .int .i64 0, .slice none 0 0, .int .i64 0, .int .i64 0, .int .i64 0, .int .i64 0, .int .i64 0, .int .i64 0, .int .i32 0, .string ⟨#[]⟩, .slice none 0 0] 32)).heap.size := by rw [HSZ.out]; omega
  generalize ((w.alloc (.cells (scrA s (.slice ca s.cs.length cc) (.slice ta s.tabs.length tc) (.slice ga s.gone.length gc)) 32)).alloc (.cells #[.int .i64 0, .int .i64 0, .slice none 0 0, .int .i64 0, .int .i64 0, .bool false, .int .i64 0, .int .i64 0, .int .i64 0, .int .i64 0, .int .i64 0, .int .i64 0, .slice none 0 0, .int .i64 0, .int .i64 0, .int .i64 0, .int .i64 0, .int .i64 0, .int .i64 0, .int .i32 0, .string ⟨#[]⟩, .slice none 0 0] 32)) = X at *
  clear HDO b2 hS2
  go_wp2_with fail
  refine HWH.mono ?_
  rintro e W3 ⟨cv', tv', gv', rfl, hV3, b3⟩
  obtain ⟨ca', cc', rfl⟩ := hV3.c.shape
  obtain ⟨ta', tc', rfl⟩ := own_slice hV3.t
  obtain ⟨ga', gc', rfl⟩ := hV3.scr.g.slice
  have HX4 : Hid (W3.heap[w.heap.size + 1]? = _) := (b3.block (w.heap.size + 1) hlt).trans HX3.out
  have HV3 : Hid (ScrO W3 0 _ { s' with cs := cs' } _ _ _) := hV3
  have HB3 : Hid (Below w.heap.size w W3) := HB2.out.trans (b3.mono hle)
  clear HWH hV3 b3
  go_wp2_with (refine wpList_store_row rfl 32 (.tmp 6) (.tmp 19) rfl (w.heap.size + 1) (scrA { s' with cs := cs' } (.slice ca' cs'.length cc') (.slice ta' s'.tabs.length tc') (.slice ga' s'.gone.length gc')) rfl rfl _ _ HX4.out (by kernel_rfl) rfl (scr_one _ _ _ _ _ _ _ _ _ _) ?_)
  (try simp only [Exit.inBlock, Exit.then])
  refine bodyPost_ret (v := .tuple #[.agg (scrA { s' with cs := cs' } (.slice ca' cs'.length cc') (.slice ta' s'.tabs.length tc') (.slice ga' s'.gone.length gc')), .int .i64 0]) ?_ rfl ⟨_, _, _, rfl, ?_, below_setRow HB3.out (by omega) _⟩
  · exact Grd.results_row_tmp rfl _ _ (w.heap.size + 1) _ _ _ _ rfl (setRow_heap _ _ _ _ _ _ HX4.out) Tryd.underlying32 rfl (by kernel_rfl) _ rfl
  · exact (ScrO.off HV3.out HX4.out screen_is (by omega) fun k hk => setRow_other _ _ _ _ hk).mono hle
end Put
end Go.Proofs.YtnkeahfcpbepjaaDoor

/- What the calls that change a screen answer. -/
namespace Go.Proofs.YtnkeahfcpbepjaaDoor
set_option linter.unusedVariables false
open Go.ChangeShapes Go.WideShapes Go.ChangeAt Go.RowKit
namespace Put
open Grd (C SliceAt CellsAt gridErr z0 nilV flat rowsL)
/-- A screen and an error are answered; the screen lies in memory of its own. -/
def Made (_w0 w : World) (s' : Scr) (er : Int) (e : Ending) (W' : World) : Prop := ∃ cv' tv' gv', e = .returned (.tuple #[.agg (scrA s' cv' tv' gv'), .int .i64 er]) ∧ ScrO W' 0 w.heap.size s' cv' tv' gv' ∧ Below w.heap.size w W'
theorem zScr_own (W : World) (M N : Nat) : ScrO W M N zScr (.slice none 0 0) (.slice none 0 0) (.slice none 0 0) :=
  ⟨.inl ⟨rfl, none, 0, rfl⟩, World.ownsRow_nil _ _ _ _, [], World.ownsRow_nil _ _ _ _, rfl, fun i hi => absurd hi (by simp [zScr])⟩
theorem ScrO.shapes {W : World} {M N : Nat} {s : Scr} {cv tv gv : Value} (h : ScrO W M N s cv tv gv) : ∃ a1 n1 c1 a2 n2 c2 a3 n3 c3, cv = .slice a1 n1 c1 ∧ tv = .slice a2 n2 c2 ∧ gv = .slice a3 n3 c3 := by
  obtain ⟨a1, c1, h1⟩ := h.c.shape
  obtain ⟨a2, c2, h2⟩ := own_slice h.t
  obtain ⟨gvs, h3, -⟩ := h.g
  obtain ⟨a3, c3, h3⟩ := own_slice h3
  exact ⟨a1, _, c1, a2, _, c2, a3, _, c3, h1, h2, h3⟩
theorem made_bad (s : Scr) (cv tv gv : Value) (er : Int) (he : er ≠ 0) (fv : Value) (w0 w : World) (hV : ScrV w0 s cv tv gv) : Calls Tryd.prog 57 #[.agg (scrA s cv tv gv), .int .i64 er, fv] w (Made w0 w zScr er) := by
  obtain ⟨ca, cc, rfl⟩ := hV.c.shape
  obtain ⟨ta, tc, rfl⟩ := hV.t.slice
  obtain ⟨ga, gc, rfl⟩ := hV.g.slice
  refine (change_bad s ca ta ga _ cc _ tc _ gc er he fv w).mono ?_
  rintro e W ⟨rfl, hb⟩
  exact ⟨_, _, _, rfl, zScr_own _ _ _, hb⟩
/-- A pointer to the 22 words of a screen that may be stored to. -/
def ScrPtr0 (W : World) (v : Value) : Prop := ∃ R cs t, v = .pointer (some ⟨R, 0, none⟩) ∧ W.heap[R]? = some (.cells cs t (0, 0)) ∧ cs.size = 22
theorem scrPtr0_of {W : World} {R : Nat} {t : TypeId} {A : Array Value} (h : W.heap[R]? = some (.cells A t (0, 0))) (hA : A.size = 22) : ScrPtr0 W (.pointer (some ⟨R, 0, none⟩)) := ⟨_, _, _, rfl, h, hA⟩
def IsScrS (v : Value) : Prop := ∃ s a1 n1 c1 a2 n2 c2 a3 n3 c3, v = .agg (scrA s (.slice a1 n1 c1) (.slice a2 n2 c2) (.slice a3 n3 c3))
theorem isScrS (s : Scr) (a1 a2 a3 : Option Addr) (n1 n2 n3 c1 c2 c3 : Nat) : IsScrS (.agg (scrA s (.slice a1 n1 c1) (.slice a2 n2 c2) (.slice a3 n3 c3))) := ⟨s, a1, n1, c1, a2, n2, c2, a3, n3, c3, rfl⟩
def ptrBlk (v : Value) : Nat := match v with
  | .pointer (some a) => a.block
  | _ => 0
theorem ptrBlk_at (a : Addr) : ptrBlk (.pointer (some a)) = a.block := rfl
def aggOf (v : Value) : Array Value := match v with
  | .agg cs => cs
  | _ => #[]
theorem aggOf_agg (cs : Array Value) : aggOf (.agg cs) = cs := rfl
theorem store_scr (a : Act) (dst : Option Tmp) (x y : Operand) (ty : TypeId) (pos : String) (after : Array Edge) (guard : Option (Nat × Bool)) (W : World) (h : ScrPtr0 W (a.eval x)) (hy : IsScrS (a.eval y)) :
    (execOp a.eval { dst, op := .store 32 x y, type := ty, pos, after, guard }).run Tryd.prog W = .ok .skip (W.setRow (ptrBlk (a.eval x)) (aggOf (a.eval y))) := by
  obtain ⟨R, cs, t, h0, h1, h2⟩ := h
  obtain ⟨s, a1, n1, c1, a2, n2, c2, a3, n3, c3, hy⟩ := hy
  have hi : (Tryd.prog.info? 32).map (·.size) = some 22 := by kernel_rfl
  have hr := run_storeVar_row (P := Tryd.prog) W R t 32 cs (scrA s (.slice a1 n1 c1) (.slice a2 n2 c2) (.slice a3 n3 c3)) h1 hi h2 (scr_one _ _ _ _ _ _ _ _ _ _)
  unfold execOp
  simp only [h0, hy, Instr.storeAt, Instr.sureAddr, Sem.run_bind, Sem.run_pure, Result.andThen_ok, hr, ptrBlk_at, aggOf_agg]
end Put
end Go.Proofs.YtnkeahfcpbepjaaDoor

/- What a right screen is. -/
namespace Go.Proofs.YtnkeahfcpbepjaaDoor
open Go.ChangeShapes Go.WideShapes Go.ChangeAt Go.RowKit
namespace Put
open Grd (C SliceAt CellsAt gridErr z0 nilV flat rowsL)
open Sty (isSt)
open Txt (wd)
structure RightS (s : Scr) (n hh : Nat) : Prop where
  w : s.w = n
  h : s.h = hh
  n1 : 1 ≤ n
  n2 : n ≤ 120
  h1 : 1 ≤ hh
  h2 : hh ≤ 60
  cl : s.cs.length = n * hh
  gz : gridErr n hh s.cs = 0
  x0 : 0 ≤ s.x
  x1 : s.x < n
  y0 : 0 ≤ s.y
  y1 : s.y < hh
  kx0 : 0 ≤ s.kx
  kx1 : s.kx < n
  ky0 : 0 ≤ s.ky
  ky1 : s.ky < hh
  t0 : 0 ≤ s.top
  t1 : s.top ≤ s.bot
  t2 : s.bot < hh
  t3 : s.top < s.bot ∨ hh = 1
  late : lateBad s = false
  looks : looksOk s = true
  tl : s.tabs.length = n
  la : s.last = 0 ∨ wd s.last ≠ 0
  ti : titleOk s.title = true
  gl : s.gone.length ≤ 50
  gr : ∀ row, row ∈ s.gone → gridErr row.length 1 row = 0
theorem right_of (s : Scr) (h : scrErr s = 0) : ∃ n hh : Nat, RightS s n hh := by
  unfold scrErr at h
  split at h
  · omega
  rename_i hz
  have hz : gridErr s.w s.h s.cs = 0 := by simpa using hz
  split at h
  · omega
  rename_i hp
  have hp : placeOk s = true := by simpa using hp
  split at h
  · omega
  rename_i hl
  have hl : lateBad s = false := by simpa using hl
  split at h
  · omega
  rename_i hk
  have hk : looksOk s = true := by simpa using hk
  split at h
  · omega
  rename_i hr
  have hr : restOk s = true := by simpa using hr
  obtain ⟨w1, w2, w3, w4⟩ := grid_size hz
  have ew : s.w = (s.w.toNat : Int) := by omega
  have eh : s.h = (s.h.toNat : Int) := by omega
  rw [ew, eh] at hz
  have hzz := (Grd.gridErr_zero _ _ _).1 hz
  simp only [placeOk, hasC, regionOk, Bool.and_eq_true, Bool.or_eq_true, decide_eq_true_eq] at hp
  simp only [restOk, Bool.and_eq_true, Bool.or_eq_true, Bool.not_eq_true', decide_eq_true_eq, decide_eq_false_iff_not] at hr
  unfold goneErr at h
  split at h
  · omega
  rename_i h50
  cases hg : goneBad s.gone with
  | true => rw [hg] at h; simp at h
  | false =>
    refine ⟨s.w.toNat, s.h.toNat, ew, eh, by omega, by omega, by omega, by omega, hzz.2.1, hz, by omega, by omega, by omega, by omega, by omega, by omega, by omega, by omega, by omega, by omega, by omega, by omega, hl, hk, by omega, hr.2.1, hr.2.2, by omega, ?_⟩
    intro row hrow
    unfold goneBad at hg
    rw [List.any_eq_false] at hg
    have := hg row hrow
    simpa using this
theorem rowsL_flatten (n : Nat) (cs : List C) : ∀ hh, (rowsL n cs hh).flatten = cs.take (hh * n)
  | 0 => by simp [rowsL]
  | hh + 1 => by
    rw [Grd.rowsL_succ, List.flatten_append, rowsL_flatten n cs hh, Grd.take_row]
    simp
theorem RightS.flatten {s : Scr} {n hh : Nat} (h : RightS s n hh) : (rowsL n s.cs hh).flatten = s.cs := by
  rw [rowsL_flatten, Nat.mul_comm, ← h.cl, List.take_length]
theorem RightS.gone_le {s : Scr} {n hh : Nat} (h : RightS s n hh) (i : Nat) (hi : i < s.gone.length) : (s.gone.getD i []).length ≤ 120 := by
  have hm : s.gone.getD i [] ∈ s.gone := by
    have e : s.gone.getD i [] = s.gone[i] := by simp [List.getD, hi]
    rw [e]
    exact List.getElem_mem hi
  have := (grid_size (h.gr _ hm)).2.1
  omega
theorem RightS.rows {s s' : Scr} {n hh : Nat} (h : RightS s n hh) (hg : s'.gone = s.gone) : RowsOk s' (rowsL n s.cs hh) := by
  have h1 := h.h1
  have h2 := h.h2
  have n1 := h.n1
  have n2 := h.n2
  refine ⟨by rw [Grd.rowsL_len]; omega, by rw [Grd.rowsL_len]; omega, fun i hi => ?_, ?_, by rw [hg]; have := h.gl; omega, fun i hi => ?_⟩
  · rw [Grd.rowsL_len] at hi
    have e2 : (rowsL n s.cs hh).getD i [] = Grd.rowAt n s.cs i := by simp [rowsL, List.getD, hi]
    have hle : i * n + n ≤ n * hh := by
      have : (i + 1) * n ≤ hh * n := Nat.mul_le_mul_right n hi
      rw [Nat.mul_comm n hh]
      rw [Nat.add_mul] at this
      omega
    have hlen : (Grd.rowAt n s.cs i).length = n := by
      unfold Grd.rowAt
      rw [List.length_take, List.length_drop, h.cl]
      omega
    rw [e2]
    intro e
    rw [e] at hlen
    simp at hlen
    omega
  · rw [h.flatten, h.cl]
    have := Nat.mul_le_mul n2 h2
    omega
  · rw [hg] at hi ⊢
    have := h.gone_le i hi
    omega
end Put
end Go.Proofs.YtnkeahfcpbepjaaDoor
