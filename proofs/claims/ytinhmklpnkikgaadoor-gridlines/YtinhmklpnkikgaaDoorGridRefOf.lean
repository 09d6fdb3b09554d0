/- The reference's GridOf. -/
import Derived.Test.YtinhmklpnkikgaaDoorGridRefRows
namespace Go.Proofs.YtinhmklpnkikgaaDoor
open Go.ChangeShapes Go.WideShapes Go.ChangeAt Go.RowKit Go.Maps
namespace Grd
theorem flatten_next (rows : List (List C)) (k : Nat) (h : k < rows.length) : (rows.take (k + 1)).flatten = (rows.take k).flatten ++ rows.getD k [] := by
  rw [List.take_add_one, List.flatten_append, List.getElem?_eq_getElem h]
  have : rows.getD k [] = rows[k] := by simp [List.getD, h]
  rw [this]
  simp
theorem flatten_len (n : Nat) (rows : List (List C)) (hr : ∀ i, i < rows.length → (rows.getD i []).length = n) : ∀ k, k ≤ rows.length → ((rows.take k).flatten).length = k * n
  | 0, _ => by simp
  | k + 1, h => by
    rw [flatten_next rows k (by omega), List.length_append, flatten_len n rows hr k (by omega), hr k (by omega), Nat.add_mul, Nat.one_mul]
/-- A slice of slices, as an owned row holds it. -/
def OutV (w : World) (v : Value) (vs : List Value) : Prop := ∃ (G cap : Nat) (rest : List Value), v = .slice (some ⟨G, 0, none⟩) vs.length cap ∧ vs.length ≤ cap ∧ cap ≤ 9223372036854775807 ∧ w.heap[G]? = some (.cells (vs ++ rest).toArray 22 (0, 0))
theorem out_of_own {w : World} {base : Nat} {v : Value} {vs : List Value} (h : w.ownsRow base 22 1 v vs.length vs) (hn : 0 < vs.length) : ∃ (G cap : Nat) (rest : List Value), v = .slice (some ⟨G, 0, none⟩) vs.length cap ∧ base ≤ G ∧ vs.length ≤ cap ∧ cap ≤ 9223372036854775807 ∧ w.heap[G]? = some (.cells (vs ++ rest).toArray 22 (0, 0)) := by
  obtain ⟨_, h | ⟨g, cap, cur, hv, hg, hh, hc, hm, hs, htk⟩⟩ := h
  · omega
  · refine ⟨g, cap, cur.toList.drop vs.length, hv, hg, hc, by unfold maxLen at hm; omega, ?_⟩
    rw [Nat.mul_one] at htk
    have e : vs ++ cur.toList.drop vs.length = cur.toList := (congrArg (· ++ cur.toList.drop vs.length) htk).symm.trans (List.take_append_drop _ _)
    rw [hh, e]
theorem out_cell {w : World} {G : Nat} {vs rest : List Value} {t : TypeId} (h : w.heap[G]? = some (.cells (vs ++ rest).toArray t (0, 0))) (i : Nat) (hi : i < vs.length) : w.cell? ⟨G, i, none⟩ = some (vs.getD i nilV) := by
  unfold World.cell?
  rw [h]
  simp [List.getElem?_append_left hi, List.getElem?_eq_getElem hi, List.getD]
set_option maxHeartbeats 4000000 in
set_option maxRecDepth 100000 in
theorem gridOf_any (n hh G cap base : Nat) (vs rest : List Value) (gs : List Nat) (rows : List (List C)) (w : World) (hn : 1 ≤ n) (hn' : n ≤ 120) (hh1 : 1 ≤ hh) (hh' : hh ≤ 60) (hG : w.heap[G]? = some (.cells (vs ++ rest).toArray 22 (0, 0))) (hR : RowsAt w base vs gs rows) (hrl : rows.length = hh) (hrn : ∀ i, i < rows.length → (rows.getD i []).length = n) :
    Calls Tryd.prog 30 #[.slice (some ⟨G, 0, none⟩) hh cap] w fun e w' => ∃ v, e = .returned (.agg #[.int .i64 (n : Int), .int .i64 (hh : Int), v]) ∧ OwnG w' w.heap.size v rows.flatten ∧ Below w.heap.size w w' := by
  obtain ⟨i0, hi, hzz⟩ := Option.map_eq_some_iff.1 info_cell
  simp only [Prod.mk.injEq] at hzz
  obtain ⟨hz0, hz1, hz2⟩ := hzz
  have hGw : G < w.heap.size := blk_lt hG
  have hvl : vs.length = hh := by rw [hR.1, hrl]
  have HG : Hid (∀ W, Below w.heap.size w W → ∀ i, i < hh → W.cell? ⟨G, i, none⟩ = some (vs.getD i nilV)) := fun W k i hi' => out_cell (carry hG k) i (by omega)
  have HR : Hid (∀ W, Below w.heap.size w W → ∀ i, i < hh → RowB W (gs.getD i 0) (vs.getD i nilV) (rows.getD i [])) := fun W k i hi' => ((hR.below k).2.2.2 i (by omega)).2
  have HRN : Hid (∀ i, i < hh → (rows.getD i []).length = n) := fun i hi' => hrn i (by omega)
  have HNX : Hid (∀ k, k < hh → (rows.take (k + 1)).flatten = (rows.take k).flatten ++ rows.getD k []) := fun k hk => flatten_next rows k (by omega)
  have HTL : Hid (∀ k, k ≤ hh → ((rows.take k).flatten).length = k * n) := fun k hk => flatten_len n rows hrn k (by omega)
  have HALL : Hid ((rows.take hh).flatten = rows.flatten) := by unfold Hid; rw [List.take_of_length_le (by omega)]
  have hprod : hh * n ≤ 7200 := by have := Nat.mul_le_mul hh' hn'; omega
  obtain ⟨c0, r0, hv0, hl0, hm0, _⟩ := HR.out w (Below.refl _ _) 0 (by omega)
  rw [HRN.out 0 (by omega)] at hv0
  have x0 : (w.alloc (.cells #[.int .i64 0, .int .i64 0, .slice none 0 0] 24)).cell? ⟨G, 0, none⟩ = some (.slice (some ⟨gs.getD 0 0, 0, none⟩) n c0) := by
    rw [← hv0]; exact HG.out _ ((Below.refl _ _).alloc (Nat.le_refl _) _) 0 (by omega)
  clear hR hrn hG hv0 hl0 hm0
  generalize gs.getD 0 0 = g00 at x0
  go_enter Tryd.func30, Tryd.ntmps30
  go_wp2_with (first
    | (refine wpList_store_row rfl 24 (.tmp 3) _ rfl (w.heap.size + 1) #[.int .i64 (n : Int), .int .i64 (hh : Int), .slice none 0 0] rfl rfl _ _ (heap_alloc2_new w _ _) (by kernel_rfl) rfl (one3v _ _ _ _ _) ?_))
  have y0 : (((w.alloc (.cells #[.int .i64 0, .int .i64 0, .slice none 0 0] 24)).alloc (.cells #[.int .i64 0, .int .i64 0, .slice none 0 0] 24)).setRow (w.heap.size + 1) #[.int .i64 (n : Int), .int .i64 (hh : Int), .slice none 0 0]).heap[w.heap.size]? = some (.cells #[.int .i64 0, .int .i64 0, .slice none 0 0] 24 (0, 0)) := by
    rw [setRow_other _ _ _ _ (by omega), Below.heap_alloc _ _ _ (by simp), heap_alloc_new]
  have y1 := setRow_heap _ _ _ #[.int .i64 (n : Int), .int .i64 (hh : Int), .slice none 0 0] _ _ (heap_alloc2_new w (.cells #[.int .i64 0, .int .i64 0, .slice none 0 0] 24) (.cells #[.int .i64 0, .int .i64 0, .slice none 0 0] 24))
  have kX : Below w.heap.size w (((w.alloc (.cells #[.int .i64 0, .int .i64 0, .slice none 0 0] 24)).alloc (.cells #[.int .i64 0, .int .i64 0, .slice none 0 0] 24)).setRow (w.heap.size + 1) #[.int .i64 (n : Int), .int .i64 (hh : Int), .slice none 0 0]) := below_setRow (((Below.refl _ _).alloc (Nat.le_refl _) _).alloc (by simp) _) (by omega) _
  generalize (((w.alloc (.cells #[.int .i64 0, .int .i64 0, .slice none 0 0] 24)).alloc (.cells #[.int .i64 0, .int .i64 0, .slice none 0 0] 24)).setRow (w.heap.size + 1) #[.int .i64 (n : Int), .int .i64 (hh : Int), .slice none 0 0]) = X at *
  go_loopg [15] hh (fun q i wr => ∃ (k : Nat) (u : Value), i = .int .i64 (k : Int) ∧ k ≤ hh ∧ hh - k ≤ q ∧ Below w.heap.size w wr ∧ wr.heap[w.heap.size]? = some (.cells #[.int .i64 0, .int .i64 0, .slice none 0 0] 24 (0, 0)) ∧ wr.heap[w.heap.size + 1]? = some (.cells #[.int .i64 (n : Int), .int .i64 (hh : Int), u] 24 (0, 0)) ∧ wr.ownsRow (w.heap.size + 2) 40 4 u (k * n) (flat (rows.take k).flatten))
  case atStart => exact ⟨0, _, rfl, by omega, by omega, kX, y0, y1, by rw [Nat.zero_mul]; exact World.ownsRow_nil _ _ _ _⟩
  case round =>
    clear y0 y1 kX x0
    obtain ⟨k, u, rfl, hk, hq, hb, v0, v1, hown⟩ := hrel
    have ⟨d0, d1, d2, df⟩ := cells3 v1
    have HO : Hid (wr.ownsRow (w.heap.size + 2) 40 4 u (k * n) (flat (rows.take k).flatten)) := hown
    have hsz := blk_lt v1
    clear hown
    by_cases hlt : k < hh
    · have lt1 : ((k : Int) < (hh : Int)) := by omega
      have hrow := HR.out wr hb k hlt
      have hsrc := cellsAt_src hrow.cells
      have hcell := HG.out wr hb k hlt
      obtain ⟨cp, rs, hvk, hl1, hm1, _⟩ := hrow
      rw [hvk, HRN.out k hlt] at hcell
      have HS : Hid (∀ j u, (flat (rows.getD k []))[j]? = some u → wr.cell? ((⟨gs.getD k 0, 0, none⟩ : Addr).add j) = some u) := hsrc
      have HF : Hid ((flat (rows.getD k [])).length = n * 4) := by unfold Hid; rw [flat_len, HRN.out k hlt]
      have HON : Hid (∀ u ∈ flat (rows.getD k []), u.oneCell' = true) := flat_one _
      have HN2 : Hid (flat (rows.take (k + 1)).flatten = flat (rows.take k).flatten ++ flat (rows.getD k [])) := by unfold Hid; rw [HNX.out k hlt, flat_append]
      have hkn : (k + 1) * n ≤ hh * n := Nat.mul_le_mul_right _ hlt
      have hkn2 : (k + 1) * n = k * n + n := by rw [Nat.add_mul, Nat.one_mul]
      have hfrom := own_from HO.out
      have hfz := df 2
      clear hsrc hvk df hl1 hm1
      generalize gs.getD k 0 = gk0 at *
      generalize flat (rows.getD k []) = fr at *
      generalize hK : k * n = kn at *
      go_wp2_with (first
        | (at_builtin; refine wpList_append_own _ rfl _ _ 22 rfl (w.heap.size + 2) 40 i0 (.agg #[.int .i32 0, .int .i64 0, .int .i64 0, .int .i64 0]) 4 32 und_cells hi hz0 hz1 hz2 rfl (by decide) _ _ _ rfl HO.out ⟨gk0, 0, none⟩ n cp fr rfl HF.out HS.out HON.out (by unfold maxLen; omega) (by omega) (by omega) ?_
           intro v3 W3 hown3 hgrow hnil
           have w0 := (hgrow.block _ (by omega) (fun e => by have := hfrom _ e.symm; omega)).trans v0
           have w1 := (hgrow.block (w.heap.size + 1) (by omega) (fun e => by have := hfrom _ e.symm; omega)).trans v1
           have k3 := hb.grown hgrow (by omega) (fun q hq => by have := hfrom q hq; omega)
           have ⟨g0, g1, g2, gf⟩ := cells3 w1
           have hfz2 := gf 2
           obtain ⟨q3, c3, hv3⟩ : ∃ q c, v3 = .slice q (kn + n) c := by
             rcases hown3.2 with h | ⟨g, c, _, h, _⟩
             · have := h.2; omega
             · exact ⟨_, _, h⟩
           have HO3 : Hid (W3.ownsRow (w.heap.size + 2) 40 4 v3 (kn + n) (flat (rows.take k).flatten ++ fr)) := hown3
           clear hown3 hnil
           subst hv3))
      go_roundg (hh - (k + 1))
      case measure => omega
      case rel =>
        refine ⟨k + 1, .slice q3 (kn + n) c3, rfl, by omega, by omega, k3.setCell (by dsimp only; omega) _, ?_, ?_, ?_⟩
        · rw [heap_setCell_other _ _ _ _ (by dsimp only; omega)]; exact w0
        · have := heap_setCell_same W3 (w.heap.size + 1) 2 _ _ (.slice q3 (kn + n) c3) w1
          exact this
        · rw [hkn2, HN2.out]
          exact ownsRow_setCell_below HO3.out (by dsimp only; omega) _
    · have lt1 : ¬ ((k : Int) < (hh : Int)) := by omega
      have hkh : k = hh := by omega
      have HAL : Hid ((rows.take k).flatten = rows.flatten) := by unfold Hid; rw [hkh]; exact HALL.out
      have HLL : Hid (rows.flatten.length = k * n) := by have := HTL.out k (by omega); rw [HAL.out] at this; exact this
      have hpos : 0 < k * n := Nat.mul_pos (by omega) (by omega)
      have HO' := HO.out
      rw [HAL.out, ← HLL.out] at HO'
      have hnn : u ≠ .slice none 0 0 := by
        intro e
        rcases HO'.2 with h | ⟨g, c, _, h, _⟩
        · have := h.2; rw [HLL.out] at this; omega
        · rw [e] at h; simp at h
      obtain ⟨g, cp, rs, t, rfl, hgb, hlc, hcm2, hgh⟩ := own_of_row HO' hnn
      clear HO HO' hnn
      obtain ⟨Lf, hLf⟩ : ∃ q, q = rows.flatten.length := ⟨_, rfl⟩
      have HLF : Hid (Lf = rows.flatten.length) := hLf
      rw [← hLf] at v1 d2 hlc
      clear hLf
      go_wp2_with (first
        | (refine wpList_load_row rfl 24 _ rfl (w.heap.size + 1) rfl _ _ _ _ v1 Tryd.underlying24 rfl (by kernel_rfl) ?_)
        | (refine wpList_store_row rfl 24 (.tmp 2) _ rfl w.heap.size #[.int .i64 (n : Int), .int .i64 (hh : Int), .slice (some ⟨g, 0, none⟩) Lf cp] rfl rfl _ _ v0 (by kernel_rfl) rfl (one3v _ _ _ _ _) ?_))
      (try simp only [Exit.inBlock, Exit.then])
      refine bodyPost_ret (v := .agg #[.int .i64 (n : Int), .int .i64 (hh : Int), .slice (some ⟨g, 0, none⟩) Lf cp]) ?_ rfl ⟨_, rfl, ⟨g, cp, rs, t, by rw [HLF.out], by omega, by rw [← HLF.out]; exact hlc, hcm2, ?_⟩, below_setRow hb (Nat.le_refl _) _⟩
      · exact results_cell_row rfl _ _ w.heap.size _ _ _ _ rfl (setRow_heap _ _ _ _ _ _ v0) Tryd.underlying24 rfl (by kernel_rfl)
      · rw [setRow_other _ _ _ _ (by omega)]
        exact hgh
end Grd
end Go.Proofs.YtinhmklpnkikgaaDoor
