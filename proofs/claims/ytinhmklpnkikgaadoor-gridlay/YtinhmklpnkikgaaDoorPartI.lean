/- The reference's Rows. -/
import Derived.Test.YtinhmklpnkikgaaDoorPartH
import Derived.WalkSmall
import Derived.Maps.AppendAt
import Derived.Test.YtinhmklpnkikgaaDoorPartG
import Derived.BigQuiet
import Derived.Deep.RegionHeld3
namespace Go.Proofs.YtinhmklpnkikgaaDoor
open Go.ChangeShapes Go.WideShapes Go.ChangeAt Go.RowKit Go.Maps
namespace Grd
theorem ownsRow_below {w w' : World} {base : Nat} {e : TypeId} {size : Nat} {v : Value} {n : Nat} {xs : List Value} (h : w.ownsRow base e size v n xs) (hb : Below w.heap.size w w') : w'.ownsRow base e size v n xs := by
  refine ⟨h.1, ?_⟩
  rcases h.2 with h2 | ⟨g, cap, cur, hv, hg, hh, r⟩
  · exact .inl h2
  · exact .inr ⟨g, cap, cur, hv, hg, by rw [hb.block g (Array.getElem?_eq_some_iff.1 hh).1]; exact hh, r⟩
theorem ownsRow_mono {w : World} {base base' : Nat} {e : TypeId} {size : Nat} {v : Value} {n : Nat} {xs : List Value} (h : w.ownsRow base e size v n xs) (hb : base' ≤ base) : w.ownsRow base' e size v n xs := by
  refine ⟨h.1, ?_⟩
  rcases h.2 with h2 | ⟨g, cap, cur, hv, hg, r⟩
  · exact .inl h2
  · exact .inr ⟨g, cap, cur, hv, Nat.le_trans hb hg, r⟩
def nilV : Value := .slice none 0 0
/-- Slices that read as rows, each alone in a block of its own. -/
def RowsAt (w : World) (base : Nat) (vs : List Value) (gs : List Nat) (rows : List (List C)) : Prop :=
  vs.length = rows.length ∧ gs.length = rows.length ∧ gs.Nodup ∧ ∀ i, i < rows.length → base ≤ gs.getD i 0 ∧ RowB w (gs.getD i 0) (vs.getD i nilV) (rows.getD i [])
theorem RowsAt.kept {w w' : World} {base : Nat} {vs : List Value} {gs : List Nat} {rows : List (List C)} (h : RowsAt w base vs gs rows) (hk : ∀ i, i < rows.length → w'.heap[gs.getD i 0]? = w.heap[gs.getD i 0]?) : RowsAt w' base vs gs rows := by
  refine ⟨h.1, h.2.1, h.2.2.1, fun i hi => ?_⟩
  obtain ⟨hb, cap, rest, hv, h1, h2, h3⟩ := h.2.2.2 i hi
  exact ⟨hb, cap, rest, hv, h1, h2, by rw [hk i hi]; exact h3⟩
theorem RowsAt.lt {w : World} {base : Nat} {vs : List Value} {gs : List Nat} {rows : List (List C)} (h : RowsAt w base vs gs rows) (i : Nat) (hi : i < rows.length) : gs.getD i 0 < w.heap.size := by
  obtain ⟨_, cap, rest, hv, h1, h2, h3⟩ := h.2.2.2 i hi
  exact blk_lt h3
theorem RowsAt.below {w w' : World} {base : Nat} {vs : List Value} {gs : List Nat} {rows : List (List C)} (h : RowsAt w base vs gs rows) (hb : Below w.heap.size w w') : RowsAt w' base vs gs rows :=
  h.kept fun i hi => hb.block _ (h.lt i hi)
theorem getD_snoc_lt {α : Type} (l : List α) (x d : α) (i : Nat) (h : i < l.length) : (l ++ [x]).getD i d = l.getD i d := by
  simp [List.getD, List.getElem?_append_left h]
theorem getD_snoc_eq {α : Type} (l : List α) (x d : α) : (l ++ [x]).getD l.length d = x := by simp [List.getD]
theorem RowsAt.snoc {w : World} {base : Nat} {vs : List Value} {gs : List Nat} {rows : List (List C)} (h : RowsAt w base vs gs rows) (g : Nat) (v : Value) (row : List C) (hb : base ≤ g) (hr : RowB w g v row) (hne : ∀ i, i < rows.length → gs.getD i 0 ≠ g) : RowsAt w base (vs ++ [v]) (gs ++ [g]) (rows ++ [row]) := by
  obtain ⟨h1, h2, h3, h4⟩ := h
  refine ⟨by simp [h1], by simp [h2], ?_, fun i hi => ?_⟩
  · rw [List.nodup_append]
    refine ⟨h3, by simp, fun a ha b hb => ?_⟩
    obtain rfl : b = g := by simpa using hb
    obtain ⟨i, hi, rfl⟩ := List.getElem_of_mem ha
    have := hne i (by omega)
    simpa [List.getD, List.getElem?_eq_getElem hi] using this
  · rw [List.length_append, List.length_singleton] at hi
    by_cases hlt : i < rows.length
    · rw [getD_snoc_lt _ _ _ _ (by omega), getD_snoc_lt _ _ _ _ (by omega), getD_snoc_lt _ _ _ _ hlt]
      exact h4 i hlt
    · obtain rfl : i = rows.length := by omega
      have e1 := getD_snoc_eq gs g 0
      have e2 := getD_snoc_eq vs v nilV
      have e3 := getD_snoc_eq rows row []
      rw [h2] at e1
      rw [h1] at e2
      rw [e1, e2, e3]
      exact ⟨hb, hr⟩
/-- An owned row of slices lies in no block of cells. -/
theorem own_ne {w : World} {base : Nat} {v : Value} {n : Nat} {xs : List Value} (h : w.ownsRow base 22 1 v n xs) {g : Nat} {A : Array Value} (hg : w.heap[g]? = some (.cells A 40 (0, 0))) : some g ≠ v.ownBlock := by
  obtain ⟨_, h | ⟨q, cap, cur, rfl, _, hq, _⟩⟩ := h
  · rw [h.1]; simp [Value.ownBlock]
  · intro e
    simp only [Value.ownBlock, Option.some.injEq] at e
    subst e
    rw [hq] at hg
    simp at hg
theorem RowsAt.grown {w w' : World} {base base' : Nat} {vs : List Value} {gs : List Nat} {rows : List (List C)} {v : Value} {n : Nat} {xs : List Value} (h : RowsAt w base vs gs rows) (ho : w.ownsRow base' 22 1 v n xs) (hg : w.grownBy w' v.ownBlock) : RowsAt w' base vs gs rows :=
  h.kept fun i hi => by
    obtain ⟨_, cap, rest, _, _, _, h3⟩ := h.2.2.2 i hi
    exact hg.block _ (blk_lt h3) (own_ne ho h3)
theorem RowB.grown {w w' : World} {base' : Nat} {g : Nat} {u : Value} {row : List C} {v : Value} {n : Nat} {xs : List Value} (h : RowB w g u row) (ho : w.ownsRow base' 22 1 v n xs) (hg : w.grownBy w' v.ownBlock) : RowB w' g u row := by
  obtain ⟨cap, rest, h0, h1, h2, h3⟩ := h
  exact ⟨cap, rest, h0, h1, h2, by rw [hg.block _ (blk_lt h3) (own_ne ho h3)]; exact h3⟩
theorem RowB.one {w : World} {g : Nat} {v : Value} {row : List C} (h : RowB w g v row) : v.oneCell' = true := by
  obtain ⟨cap, rest, rfl, _⟩ := h; rfl
def rowsL (n : Nat) (cs : List C) (k : Nat) : List (List C) := (List.range k).map (rowAt n cs)
theorem rowsL_succ (n : Nat) (cs : List C) (k : Nat) : rowsL n cs (k + 1) = rowsL n cs k ++ [rowAt n cs k] := by simp [rowsL, List.range_succ]
theorem rowsL_len (n : Nat) (cs : List C) (k : Nat) : (rowsL n cs k).length = k := by simp [rowsL]
theorem und_rows : Tryd.prog.underlying 55 = some (.slice 22) := by kernel_rfl
theorem info_cells : (Tryd.prog.info? 22).map (fun i => (i.zero, i.size, i.bytes)) = some (some (.slice none 0 0), 1, 24) := by kernel_rfl
theorem own_from {w : World} {base : Nat} {e : TypeId} {size : Nat} {v : Value} {n : Nat} {xs : List Value} (h : w.ownsRow base e size v n xs) : ∀ k, v.ownBlock = some k → base ≤ k := by
  intro k hk
  obtain ⟨_, h | ⟨q, cap, cur, rfl, hq, _⟩⟩ := h
  · rw [h.1] at hk; simp [Value.ownBlock] at hk
  · simp only [Value.ownBlock, Option.some.injEq] at hk; omega
set_option maxHeartbeats 4000000 in
set_option maxRecDepth 100000 in
theorem rows_any (n hh b o cx : Nat) (cs : List C) (w : World) (hC : CellsAt w b o cs) (hs : isSize n hh = true) (hL : cs.length = n * hh) (hc : cs.length ≤ cx) :
    Calls Tryd.prog 28 #[.agg #[.int .i64 (n : Int), .int .i64 (hh : Int), .slice (some ⟨b, o, none⟩) cs.length cx]] w fun e w' => ∃ v vs gs, e = .returned v ∧ w'.ownsRow w.heap.size 22 1 v hh vs ∧ RowsAt w' w.heap.size vs gs (rowsL n cs hh) ∧ Below w.heap.size w w' := by
  have ⟨p0, p1, p2, p3, p4, p5⟩ := prod_in n hh hs
  have HC : Hid (CellsAt w b o cs) := hC
  have HL : Hid (cs.length = n * hh) := hL
  have hl2 : cs.length ≤ 7200 := by
    have : ((n * hh : Nat) : Int) ≤ 7200 := by rw [Int.natCast_mul]; exact p1
    omega
  obtain ⟨i0, hi, hzz⟩ := Option.map_eq_some_iff.1 info_cells
  simp only [Prod.mk.injEq] at hzz
  obtain ⟨hz0, hz1, hz2⟩ := hzz
  have kk : Below w.heap.size w (w.alloc (.cells #[.int .i64 (n : Int), .int .i64 (hh : Int), .slice (some ⟨b, o, none⟩) cs.length cx] 24)) := (Below.refl _ _).alloc (Nat.le_refl _) _
  have x0 := heap_alloc_new w (.cells #[.int .i64 (n : Int), .int .i64 (hh : Int), .slice (some ⟨b, o, none⟩) cs.length cx] 24)
  clear hC hL p0 p1 hs
  go_enter Tryd.func28, Tryd.ntmps28
  go_wp2_with fail
  go_loopg [3, 4] hh (fun q v y wr => ∃ (k : Nat) (vs : List Value) (gs : List Nat), y = .int .i64 (k : Int) ∧ k ≤ hh ∧ hh - k ≤ q ∧ wr.ownsRow (w.heap.size + 1) 22 1 v k vs ∧ RowsAt wr (w.heap.size + 1) vs gs (rowsL n cs k) ∧ Below w.heap.size w wr ∧ wr.heap[w.heap.size]? = some (.cells #[.int .i64 (n : Int), .int .i64 (hh : Int), .slice (some ⟨b, o, none⟩) cs.length cx] 24 (0, 0)))
  case atStart => exact ⟨0, [], [], rfl, by omega, by omega, World.ownsRow_nil _ _ _ _, ⟨rfl, rfl, List.nodup_nil, fun i hi => absurd hi (by simp [rowsL])⟩, kk, x0⟩
  case round =>
    clear kk x0
    obtain ⟨k, vs, gs, rfl, hk, hq, hown, hrows, hb, hv⟩ := hrel
    have ⟨c0, c1, c2, _⟩ := cells3 hv
    have HO : Hid (wr.ownsRow (w.heap.size + 1) 22 1 _ k vs) := hown
    have HRS : Hid (RowsAt wr (w.heap.size + 1) vs gs (rowsL n cs k)) := hrows
    clear hown hrows
    by_cases hlt : k < hh
    · have lt1 : ((k : Int) < (hh : Int)) := by omega
      have hfit := row_fits n hh _ k HL.out hlt
      have hrl := row_len n hh cs k HL.out hlt
      obtain ⟨p, hp⟩ : ∃ p, p = k * n := ⟨_, rfl⟩
      have hq2 : (k + 1) * n = p + n := by rw [hp, Nat.add_mul, Nat.one_mul]
      rw [hq2] at hfit
      have e1 : (k : Int) * (n : Int) = (p : Int) := by rw [hp]; simp
      have e2 : ((k : Int) + 1) * (n : Int) = ((p + n : Nat) : Int) := by rw [← hq2]; simp
      have e3 : p + n - p = n := by omega
      have HCL : Hid (∀ c, Calls Tryd.prog 39 #[.slice (some ⟨b, o + p * 4, none⟩) n c] wr fun e w' => ∃ v' g, e = .returned v' ∧ wr.heap.size ≤ g ∧ RowB w' g v' (rowAt n cs k) ∧ Below wr.heap.size wr w') := fun c => by
        have hpt := (HC.out.below hb).part (k * n) n (by rw [← hp]; omega)
        have := clone_row b (o + k * n * 4) c (rowAt n cs k) wr hpt (by rw [hrl]; omega)
        rw [hrl] at this
        rw [hp]
        exact this
      clear hrl hq2 hp
      go_wp2_with (first
        | (go_at_call 39; rw [e3]; refine (HCL.out _).mono ?_; rintro e W2 ⟨v2, g2, rfl, hg2, hr2, b2⟩
           have HR2 : Hid (RowB W2 g2 v2 (rowAt n cs k)) := hr2
           obtain ⟨cap2, _, rfl, _⟩ := hr2
           have hown2 : W2.ownsRow (w.heap.size + 1) 22 1 _ k vs := ownsRow_below HO.out b2)
        | (at_builtin; refine wpList_append_own _ rfl _ _ 55 rfl (w.heap.size + 1) 22 i0 (.slice none 0 0) 1 24 und_rows hi hz0 hz1 hz2 rfl (by decide) _ _ _ rfl (hown2.alloc _) ⟨W2.heap.size, 0, none⟩ 1 1 [.slice (some ⟨g2, 0, none⟩) (rowAt n cs k).length cap2] rfl rfl (cell_one_new _ _ _) (by intro u hu; simp at hu; rw [hu]; rfl) (by unfold maxLen; omega) (by omega) (by have := hb.size; have := b2.size; have := blk_lt hv; simp; omega) ?_
           intro v3 W3 hown3 hgrow hnil))
      have kZ : Below W2.heap.size W2 (W2.alloc (.cells #[.slice (some ⟨g2, 0, none⟩) (rowAt n cs k).length cap2] 22)) := (Below.refl _ _).alloc (Nat.le_refl _) _
      have hfrom := own_from HO.out
      have kb2 := hb.trans (b2.mono hb.size)
      have hN := blk_lt hv
      have hN2 := b2.size
      go_roundg (hh - (k + 1))
      case measure => omega
      case rel =>
        refine ⟨k + 1, vs ++ [.slice (some ⟨g2, 0, none⟩) (rowAt n cs k).length cap2], gs ++ [g2], rfl, by omega, by omega, hown3, ?_, ?_, ?_⟩
        · rw [rowsL_succ]
          refine ((((HRS.out.below b2).below kZ).grown (hown2.alloc _) hgrow)).snoc g2 _ _ (by omega) ((HR2.out.below kZ).grown (hown2.alloc _) hgrow) (fun i hi => ?_)
          have := HRS.out.lt i hi
          omega
        · exact (kb2.alloc kb2.size _).grown hgrow (by simp; omega) (fun q hq => by have := hfrom q hq; omega)
        · rw [hgrow.block _ (by simp; omega) (fun e => by have := hfrom _ e.symm; omega)]
          exact carry (carry hv b2) kZ
    · have lt1 : ¬ ((k : Int) < (hh : Int)) := by omega
      have hkh : k = hh := by omega
      subst hkh
      go_wp2_with fail
      go_ret
      exact ⟨_, rfl, vs, ownsRow_mono HO.out (by omega), ⟨gs, ⟨HRS.out.1, HRS.out.2.1, HRS.out.2.2.1, fun i hi => ⟨by have := (HRS.out.2.2.2 i hi).1; omega, (HRS.out.2.2.2 i hi).2⟩⟩⟩, hb⟩
end Grd
end Go.Proofs.YtinhmklpnkikgaaDoor

/- The reference's GridOf. -/
namespace Go.Proofs.YtinhmklpnkikgaaDoor
open Go.ChangeShapes Go.WideShapes Go.ChangeAt Go.RowKit Go.Maps
namespace Grd
theorem flatten_next (rows : List (List C)) (k : Nat) (h : k < rows.length) : (rows.take (k + 1)).flatten = (rows.take k).flatten ++ rows.getD k [] := by
  rw [List.take_add_one, List.flatten_append, List.getElem?_eq_getElem h]
  have : rows.getD k [] = rows[k] := by simp [List.getD, h]
  rw [this]
  simp
theorem flatten_len (n : Nat) (rows : List (List C)) (hr : ∀ i, i < rows.length → (rows.getD i []).length = n) : ∀ k, k ≤ rows.length → ((rows.take k).flatten).length = k * n
  | 0, _ => by simp
  | k + 1, h => by
    rw [flatten_next rows k (by omega), List.length_append, flatten_len n rows hr k (by omega), hr k (by omega), Nat.add_mul, Nat.one_mul]
/-- A slice of slices, as an owned row holds it. -/
def OutV (w : World) (v : Value) (vs : List Value) : Prop := ∃ (G cap : Nat) (rest : List Value), v = .slice (some ⟨G, 0, none⟩) vs.length cap ∧ vs.length ≤ cap ∧ cap ≤ 9223372036854775807 ∧ w.heap[G]? = some (.cells (vs ++ rest).toArray 22 (0, 0))
theorem out_of_own {w : World} {base : Nat} {v : Value} {vs : List Value} (h : w.ownsRow base 22 1 v vs.length vs) (hn : 0 < vs.length) : ∃ (G cap : Nat) (rest : List Value), v = .slice (some ⟨G, 0, none⟩) vs.length cap ∧ base ≤ G ∧ vs.length ≤ cap ∧ cap ≤ 9223372036854775807 ∧ w.heap[G]? = some (.cells (vs ++ rest).toArray 22 (0, 0)) := by
  obtain ⟨_, h | ⟨g, cap, cur, hv, hg, hh, hc, hm, hs, htk⟩⟩ := h
  · omega
  · refine ⟨g, cap, cur.toList.drop vs.length, hv, hg, hc, by unfold maxLen at hm; omega, ?_⟩
    rw [Nat.mul_one] at htk
    have e : vs ++ cur.toList.drop vs.length = cur.toList := (congrArg (· ++ cur.toList.drop vs.length) htk).symm.trans (List.take_append_drop _ _)
    rw [hh, e]
theorem out_cell {w : World} {G : Nat} {vs rest : List Value} {t : TypeId} (h : w.heap[G]? = some (.cells (vs ++ rest).toArray t (0, 0))) (i : Nat) (hi : i < vs.length) : w.cell? ⟨G, i, none⟩ = some (vs.getD i nilV) := by
  unfold World.cell?
  rw [h]
  simp [List.getElem?_append_left hi, List.getElem?_eq_getElem hi, List.getD]
set_option maxHeartbeats 4000000 in
set_option maxRecDepth 100000 in
theorem gridOf_any (n hh G cap base : Nat) (vs rest : List Value) (gs : List Nat) (rows : List (List C)) (w : World) (hn : 1 ≤ n) (hn' : n ≤ 120) (hh1 : 1 ≤ hh) (hh' : hh ≤ 60) (hG : w.heap[G]? = some (.cells (vs ++ rest).toArray 22 (0, 0))) (hR : RowsAt w base vs gs rows) (hrl : rows.length = hh) (hrn : ∀ i, i < rows.length → (rows.getD i []).length = n) :
    Calls Tryd.prog 30 #[.slice (some ⟨G, 0, none⟩) hh cap] w fun e w' => ∃ v, e = .returned (.agg #[.int .i64 (n : Int), .int .i64 (hh : Int), v]) ∧ OwnG w' w.heap.size v rows.flatten ∧ Below w.heap.size w w' := by
  obtain ⟨i0, hi, hzz⟩ := Option.map_eq_some_iff.1 info_cell
  simp only [Prod.mk.injEq] at hzz
  obtain ⟨hz0, hz1, hz2⟩ := hzz
  have hGw : G < w.heap.size := blk_lt hG
  have hvl : vs.length = hh := by rw [hR.1, hrl]
  have HG : Hid (∀ W, Below w.heap.size w W → ∀ i, i < hh → W.cell? ⟨G, i, none⟩ = some (vs.getD i nilV)) := fun W k i hi' => out_cell (carry hG k) i (by omega)
  have HR : Hid (∀ W, Below w.heap.size w W → ∀ i, i < hh → RowB W (gs.getD i 0) (vs.getD i nilV) (rows.getD i [])) := fun W k i hi' => ((hR.below k).2.2.2 i (by omega)).2
  have HRN : Hid (∀ i, i < hh → (rows.getD i []).length = n) := fun i hi' => hrn i (by omega)
  have HNX : Hid (∀ k, k < hh → (rows.take (k + 1)).flatten = (rows.take k).flatten ++ rows.getD k []) := fun k hk => flatten_next rows k (by omega)
  have HTL : Hid (∀ k, k ≤ hh → ((rows.take k).flatten).length = k * n) := fun k hk => flatten_len n rows hrn k (by omega)
  have HALL : Hid ((rows.take hh).flatten = rows.flatten) := by unfold Hid; rw [List.take_of_length_le (by omega)]
  have hprod : hh * n ≤ 7200 := by have := Nat.mul_le_mul hh' hn'; omega
  obtain ⟨c0, r0, hv0, hl0, hm0, _⟩ := HR.out w (Below.refl _ _) 0 (by omega)
  rw [HRN.out 0 (by omega)] at hv0
  have x0 : (w.alloc (.cells #[.int .i64 0, .int .i64 0, .slice none 0 0] 24)).cell? ⟨G, 0, none⟩ = some (.slice (some ⟨gs.getD 0 0, 0, none⟩) n c0) := by
    rw [← hv0]; exact HG.out _ ((Below.refl _ _).alloc (Nat.le_refl _) _) 0 (by omega)
  clear hR hrn hG hv0 hl0 hm0
  generalize gs.getD 0 0 = g00 at x0
  go_enter Tryd.func30, Tryd.ntmps30
  go_wp2_with (first
    | (refine wpList_store_row rfl 24 (.tmp 3) _ rfl (w.heap.size + 1) #[.int .i64 (n : Int), .int .i64 (hh : Int), .slice none 0 0] rfl rfl _ _ (heap_alloc2_new w _ _) (by kernel_rfl) rfl (one3v _ _ _ _ _) ?_))
  have y0 : (((w.alloc (.cells #[.int .i64 0, .int .i64 0, .slice none 0 0] 24)).alloc (.cells #[.int .i64 0, .int .i64 0, .slice none 0 0] 24)).setRow (w.heap.size + 1) #[.int .i64 (n : Int), .int .i64 (hh : Int), .slice none 0 0]).heap[w.heap.size]? = some (.cells #[.int .i64 0, .int .i64 0, .slice none 0 0] 24 (0, 0)) := by
    rw [setRow_other _ _ _ _ (by omega), Below.heap_alloc _ _ _ (by simp), heap_alloc_new]
  have y1 := setRow_heap _ _ _ #[.int .i64 (n : Int), .int .i64 (hh : Int), .slice none 0 0] _ _ (heap_alloc2_new w (.cells #[.int .i64 0, .int .i64 0, .slice none 0 0] 24) (.cells #[.int .i64 0, .int .i64 0, .slice none 0 0] 24))
  have kX : Below w.heap.size w (((w.alloc (.cells #[.int .i64 0, .int .i64 0, .slice none 0 0] 24)).alloc (.cells #[.int .i64 0, .int .i64 0, .slice none 0 0] 24)).setRow (w.heap.size + 1) #[.int .i64 (n : Int), .int .i64 (hh : Int), .slice none 0 0]) := below_setRow (((Below.refl _ _).alloc (Nat.le_refl _) _).alloc (by simp) _) (by omega) _
  generalize (((w.alloc (.cells #[.int .i64 0, .int .i64 0, .slice none 0 0] 24)).alloc (.cells #[.int .i64 0, .int .i64 0, .slice none 0 0] 24)).setRow (w.heap.size + 1) #[.int .i64 (n : Int), .int .i64 (hh : Int), .slice none 0 0]) = X at *
  go_loopg [15] hh (fun q i wr => ∃ (k : Nat) (u : Value), i = .int .i64 (k : Int) ∧ k ≤ hh ∧ hh - k ≤ q ∧ Below w.heap.size w wr ∧ wr.heap[w.heap.size]? = some (.cells #[.int .i64 0, .int .i64 0, .slice none 0 0] 24 (0, 0)) ∧ wr.heap[w.heap.size + 1]? = some (.cells #[.int .i64 (n : Int), .int .i64 (hh : Int), u] 24 (0, 0)) ∧ wr.ownsRow (w.heap.size + 2) 40 4 u (k * n) (flat (rows.take k).flatten))
  case atStart => exact ⟨0, _, rfl, by omega, by omega, kX, y0, y1, by rw [Nat.zero_mul]; exact World.ownsRow_nil _ _ _ _⟩
  case round =>
    clear y0 y1 kX x0
    obtain ⟨k, u, rfl, hk, hq, hb, v0, v1, hown⟩ := hrel
    have ⟨d0, d1, d2, df⟩ := cells3 v1
    have HO : Hid (wr.ownsRow (w.heap.size + 2) 40 4 u (k * n) (flat (rows.take k).flatten)) := hown
    have hsz := blk_lt v1
    clear hown
    by_cases hlt : k < hh
    · have lt1 : ((k : Int) < (hh : Int)) := by omega
      have hrow := HR.out wr hb k hlt
      have hsrc := cellsAt_src hrow.cells
      have hcell := HG.out wr hb k hlt
      obtain ⟨cp, rs, hvk, hl1, hm1, _⟩ := hrow
      rw [hvk, HRN.out k hlt] at hcell
      have HS : Hid (∀ j u, (flat (rows.getD k []))[j]? = some u → wr.cell? ((⟨gs.getD k 0, 0, none⟩ : Addr).add j) = some u) := hsrc
      have HF : Hid ((flat (rows.getD k [])).length = n * 4) := by unfold Hid; rw [flat_len, HRN.out k hlt]
      have HON : Hid (∀ u ∈ flat (rows.getD k []), u.oneCell' = true) := flat_one _
      have HN2 : Hid (flat (rows.take (k + 1)).flatten = flat (rows.take k).flatten ++ flat (rows.getD k [])) := by unfold Hid; rw [HNX.out k hlt, flat_append]
      have hkn : (k + 1) * n ≤ hh * n := Nat.mul_le_mul_right _ hlt
      have hkn2 : (k + 1) * n = k * n + n := by rw [Nat.add_mul, Nat.one_mul]
      have hfrom := own_from HO.out
      have hfz := df 2
      clear hsrc hvk df hl1 hm1
      generalize gs.getD k 0 = gk0 at *
      generalize flat (rows.getD k []) = fr at *
      generalize hK : k * n = kn at *
      go_wp2_with (first
        | (at_builtin; refine wpList_append_own _ rfl _ _ 22 rfl (w.heap.size + 2) 40 i0 (.agg #[.int .i32 0, .int .i64 0, .int .i64 0, .int .i64 0]) 4 32 und_cells hi hz0 hz1 hz2 rfl (by decide) _ _ _ rfl HO.out ⟨gk0, 0, none⟩ n cp fr rfl HF.out HS.out HON.out (by unfold maxLen; omega) (by omega) (by omega) ?_
           intro v3 W3 hown3 hgrow hnil
           have w0 := (hgrow.block _ (by omega) (fun e => by have := hfrom _ e.symm; omega)).trans v0
           have w1 := (hgrow.block (w.heap.size + 1) (by omega) (fun e => by have := hfrom _ e.symm; omega)).trans v1
           have k3 := hb.grown hgrow (by omega) (fun q hq => by have := hfrom q hq; omega)
           have ⟨g0, g1, g2, gf⟩ := cells3 w1
           have hfz2 := gf 2
           obtain ⟨q3, c3, hv3⟩ : ∃ q c, v3 = .slice q (kn + n) c := by
             rcases hown3.2 with h | ⟨g, c, _, h, _⟩
             · have := h.2; omega
             · exact ⟨_, _, h⟩
           have HO3 : Hid (W3.ownsRow (w.heap.size + 2) 40 4 v3 (kn + n) (flat (rows.take k).flatten ++ fr)) := hown3
           clear hown3 hnil
           subst hv3))
      go_roundg (hh - (k + 1))
      case measure => omega
      case rel =>
        refine ⟨k + 1, .slice q3 (kn + n) c3, rfl, by omega, by omega, k3.setCell (by dsimp only; omega) _, ?_, ?_, ?_⟩
        · rw [heap_setCell_other _ _ _ _ (by dsimp only; omega)]; exact w0
        · have := heap_setCell_same W3 (w.heap.size + 1) 2 _ _ (.slice q3 (kn + n) c3) w1
          exact this
        · rw [hkn2, HN2.out]
          exact ownsRow_setCell_below HO3.out (by dsimp only; omega) _
    · have lt1 : ¬ ((k : Int) < (hh : Int)) := by omega
      have hkh : k = hh := by omega
      have HAL : Hid ((rows.take k).flatten = rows.flatten) := by unfold Hid; rw [hkh]; exact HALL.out
      have HLL : Hid (rows.flatten.length = k * n) := by have := HTL.out k (by omega); rw [HAL.out] at this; exact this
      have hpos : 0 < k * n := Nat.mul_pos (by omega) (by omega)
      have HO' := HO.out
      rw [HAL.out, ← HLL.out] at HO'
      have hnn : u ≠ .slice none 0 0 := by
        intro e
        rcases HO'.2 with h | ⟨g, c, _, h, _⟩
        · have := h.2; rw [HLL.out] at this; omega
        · rw [e] at h; simp at h
      obtain ⟨g, cp, rs, t, rfl, hgb, hlc, hcm2, hgh⟩ := own_of_row HO' hnn
      clear HO HO' hnn
      obtain ⟨Lf, hLf⟩ : ∃ q, q = rows.flatten.length := ⟨_, rfl⟩
      have HLF : Hid (Lf = rows.flatten.length) := hLf
      rw [← hLf] at v1 d2 hlc
      clear hLf
      go_wp2_with (first
        | (refine wpList_load_row rfl 24 _ rfl (w.heap.size + 1) rfl _ _ _ _ v1 Tryd.underlying24 rfl (by kernel_rfl) ?_)
        | (refine wpList_store_row rfl 24 (.tmp 2) _ rfl w.heap.size #[.int .i64 (n : Int), .int .i64 (hh : Int), .slice (some ⟨g, 0, none⟩) Lf cp] rfl rfl _ _ v0 (by kernel_rfl) rfl (one3v _ _ _ _ _) ?_))
      (try simp only [Exit.inBlock, Exit.then])
      refine bodyPost_ret (v := .agg #[.int .i64 (n : Int), .int .i64 (hh : Int), .slice (some ⟨g, 0, none⟩) Lf cp]) ?_ rfl ⟨_, rfl, ⟨g, cp, rs, t, by rw [HLF.out], by omega, by rw [← HLF.out]; exact hlc, hcm2, ?_⟩, below_setRow hb (Nat.le_refl _) _⟩
      · exact results_cell_row rfl _ _ w.heap.size _ _ _ _ rfl (setRow_heap _ _ _ _ _ _ v0) Tryd.underlying24 rfl (by kernel_rfl)
      · rw [setRow_other _ _ _ _ (by omega)]
        exact hgh
end Grd
end Go.Proofs.YtinhmklpnkikgaaDoor

/- The reference's FillGrid. -/
namespace Go.Proofs.YtinhmklpnkikgaaDoor
open Go.ChangeShapes Go.WideShapes Go.ChangeAt Go.RowKit Go.Maps
namespace Grd
/-- The rows below k as f makes them, the others as they were. -/
def rowsF (n hh : Nat) (cs : List C) (f : Nat → List C → List C) (k : Nat) : List (List C) := (List.range hh).map fun y => if y < k then f y (rowAt n cs y) else rowAt n cs y
theorem rowsF_len (n hh : Nat) (cs : List C) (f : Nat → List C → List C) (k : Nat) : (rowsF n hh cs f k).length = hh := by simp [rowsF]
theorem rowsF_at (n hh : Nat) (cs : List C) (f : Nat → List C → List C) (k i : Nat) (hi : i < hh) : (rowsF n hh cs f k).getD i [] = if i < k then f i (rowAt n cs i) else rowAt n cs i := by
  simp [rowsF, List.getD, hi]
theorem rowsF_zero (n hh : Nat) (cs : List C) (f : Nat → List C → List C) : rowsF n hh cs f 0 = rowsL n cs hh := by simp [rowsF, rowsL]
theorem rowsF_set (n hh : Nat) (cs : List C) (f : Nat → List C → List C) (k : Nat) (_hk : k < hh) : rowsF n hh cs f (k + 1) = (rowsF n hh cs f k).set k (f k (rowAt n cs k)) := by
  refine List.ext_getElem (by simp [rowsF]) fun i h1 h2 => ?_
  rw [List.getElem_set]
  simp only [rowsF, List.getElem_map, List.getElem_range]
  by_cases hik : k = i
  · subst hik; simp
  · rw [if_neg hik]
    by_cases hlt : i < k
    · rw [if_pos hlt, if_pos (by omega)]
    · rw [if_neg hlt, if_neg (by omega)]
theorem rowsF_same (n hh : Nat) (cs : List C) (f : Nat → List C → List C) (k : Nat) (hk : k < hh) (hf : f k (rowAt n cs k) = rowAt n cs k) : rowsF n hh cs f (k + 1) = rowsF n hh cs f k := by
  refine List.ext_getElem (by simp [rowsF]) fun i h1 h2 => ?_
  simp only [rowsF, List.getElem_map, List.getElem_range]
  by_cases hik : i = k
  · subst hik; simp [hf]
  · by_cases hlt : i < k
    · rw [if_pos hlt, if_pos (by omega)]
    · rw [if_neg hlt, if_neg (by omega)]
theorem rowsF_flat (n hh : Nat) (cs : List C) (f : Nat → List C → List C) : (rowsF n hh cs f hh).flatten = preF n cs f hh := by
  have key : ∀ k, ((List.range k).map fun y => f y (rowAt n cs y)).flatten = preF n cs f k := by
    intro k
    induction k with
    | zero => rfl
    | succ k ih =>
      rw [List.range_succ, List.map_append, List.flatten_append, ih]
      simp [preF]
  rw [← key hh]
  congr 1
  unfold rowsF
  refine List.map_congr_left fun y hy => ?_
  rw [if_pos (List.mem_range.1 hy)]
theorem RowsAt.set {w w' : World} {base : Nat} {vs : List Value} {gs : List Nat} {rows : List (List C)} (h : RowsAt w base vs gs rows) (k : Nat) (hk : k < rows.length) (g : Nat) (v : Value) (row : List C)
    (hb : base ≤ g) (hr : RowB w' g v row) (hne : ∀ i, i < rows.length → i ≠ k → gs.getD i 0 ≠ g) (hkeep : ∀ i, i < rows.length → i ≠ k → w'.heap[gs.getD i 0]? = w.heap[gs.getD i 0]?) :
    RowsAt w' base (vs.set k v) (gs.set k g) (rows.set k row) := by
  obtain ⟨h1, h2, h3, h4⟩ := h
  have gset : ∀ {α : Type} (l : List α) (x d : α) (i : Nat), k < l.length → (l.set k x).getD i d = if i = k then x else l.getD i d := fun l x d i hkl => by
    simp only [List.getD, List.getElem?_set]
    by_cases hik : k = i
    · subst hik; simp [hkl]
    · simp [hik, Ne.symm hik]
  refine ⟨by simp [h1], by simp [h2], ?_, fun i hi => ?_⟩
  · rw [List.nodup_iff_pairwise_ne, List.pairwise_iff_getElem]
    intro i j hi hj hij
    rw [List.length_set] at hi hj
    rw [List.nodup_iff_pairwise_ne, List.pairwise_iff_getElem] at h3
    have e : ∀ q (hq : q < gs.length), gs.getD q 0 = gs[q] := fun q hq => by simp [List.getD, hq]
    rw [List.getElem_set, List.getElem_set]
    by_cases hik : k = i
    · rw [if_pos hik, if_neg (by omega), ← e j hj]
      exact fun he => hne j (by omega) (by omega) he.symm
    · rw [if_neg hik]
      by_cases hjk : k = j
      · rw [if_pos hjk, ← e i hi]; exact hne i (by omega) (by omega)
      · rw [if_neg hjk]; exact h3 i j hi hj hij
  · rw [List.length_set] at hi
    rw [gset gs _ _ _ (by omega), gset vs _ _ _ (by omega), gset rows _ _ _ hk]
    by_cases hik : i = k
    · rw [if_pos hik, if_pos hik, if_pos hik]; exact ⟨hb, hr⟩
    · rw [if_neg hik, if_neg hik, if_neg hik]
      obtain ⟨q1, cap, rest, q2, q3, q4, q5⟩ := h4 i hi
      exact ⟨q1, cap, rest, q2, q3, q4, by rw [hkeep i hi hik]; exact q5⟩
theorem RowsAt.ne {w : World} {base : Nat} {vs : List Value} {gs : List Nat} {rows : List (List C)} (h : RowsAt w base vs gs rows) (i k : Nat) (hi : i < rows.length) (hk : k < rows.length) (hne : i ≠ k) : gs.getD i 0 ≠ gs.getD k 0 := by
  obtain ⟨h1, h2, h3, h4⟩ := h
  rw [List.nodup_iff_pairwise_ne, List.pairwise_iff_getElem] at h3
  have e : ∀ q (hq : q < gs.length), gs.getD q 0 = gs[q] := fun q hq => by simp [List.getD, hq]
  rw [e i (by omega), e k (by omega)]
  rcases Nat.lt_or_ge i k with h | h
  · exact h3 i k (by omega) (by omega) h
  · exact fun q => h3 k i (by omega) (by omega) (by omega) q.symm
theorem limit_same (n : Int) (w : World) : Calls Tryd.prog 46 #[.int .i64 n] w fun e w' => e = .returned (.int .i64 (nearI n)) ∧ w' = w := (limit_any n w).mono fun _ _ h => ⟨by rw [h.1, limit_near], h.2.symm⟩
theorem inside_iff (p l : Int) (size x : Nat) (hx : x < size) : inside p l size x = decide (nearI p ≤ (x : Int) ∧ (x : Int) < nearI p + max 0 (nearI l)) := by
  unfold inside; rw [decide_eq_decide]; omega
end Grd
end Go.Proofs.YtinhmklpnkikgaaDoor

/- The walk of the reference's FillGrid. -/
namespace Go.Proofs.YtinhmklpnkikgaaDoor
open Go.ChangeShapes Go.WideShapes Go.ChangeAt Go.RowKit Go.Maps
namespace Grd
theorem wrap_id (x : Int) (h0 : -9223372036854775808 ≤ x) (h1 : x ≤ 9223372036854775807) : IntKind.i64.wrap x = x := IntWalk.i64_in x ⟨h0, h1⟩
set_option maxHeartbeats 8000000 in
set_option maxRecDepth 100000 in
theorem fillGrid_any (n hh b o cx : Nat) (cs : List C) (rx ry rw rh r f bk x : Int) (w : World) (hC : CellsAt w b o cs) (hs : isSize n hh = true) (hL : cs.length = n * hh) (hc : cs.length ≤ cx) :
    Calls Tryd.prog 21 #[.agg #[.int .i64 (n : Int), .int .i64 (hh : Int), .slice (some ⟨b, o, none⟩) cs.length cx], .agg #[.int .i64 rx, .int .i64 ry, .int .i64 rw, .int .i64 rh], .agg #[.int .i32 r, .int .i64 f, .int .i64 bk, .int .i64 x]] w fun e w' => ∃ v, e = .returned (.agg #[.int .i64 (n : Int), .int .i64 (hh : Int), v]) ∧ OwnG w' w.heap.size v (fillG n hh cs rx ry rw rh (r, f, bk, x)) ∧ Below w.heap.size w w' := by
  have ⟨p0, p1, p2, p3, p4, p5⟩ := prod_in n hh hs
  obtain ⟨x0, x1, x2, x3, kk, hsz⟩ := alloc4 w (.cells #[.int .i64 (n : Int), .int .i64 (hh : Int), .slice (some ⟨b, o, none⟩) cs.length cx] 24) (.cells #[.int .i64 rx, .int .i64 ry, .int .i64 rw, .int .i64 rh] 36) (.cells #[.int .i32 r, .int .i64 f, .int .i64 bk, .int .i64 x] 40) (.cells #[.int .i64 0, .int .i64 0, .slice none 0 0] 24)
  have HK := rows_any n hh b o cx cs _ (hC.below kk) hs hL hc
  have HL : Hid (cs.length = n * hh) := hL
  clear hC hs hL p0 p1
  generalize hW0 : ((((w.alloc (.cells #[.int .i64 (n : Int), .int .i64 (hh : Int), .slice (some ⟨b, o, none⟩) cs.length cx] 24)).alloc (.cells #[.int .i64 rx, .int .i64 ry, .int .i64 rw, .int .i64 rh] 36)).alloc (.cells #[.int .i32 r, .int .i64 f, .int .i64 bk, .int .i64 x] 40)).alloc (.cells #[.int .i64 0, .int .i64 0, .slice none 0 0] 24)) = W0 at x0 x1 x2 x3 kk hsz HK
  have HW0 : Hid (_ = W0) := hW0
  have HK' : Hid (Calls Tryd.prog 28 #[.agg #[.int .i64 (n : Int), .int .i64 (hh : Int), .slice (some ⟨b, o, none⟩) cs.length cx]] W0 fun e w' => ∃ v vs gs, e = .returned v ∧ w'.ownsRow W0.heap.size 22 1 v hh vs ∧ RowsAt w' W0.heap.size vs gs (rowsL n cs hh) ∧ Below W0.heap.size W0 w') := HK
  have HXL : Hid (∀ p : Int, nearI p ≤ 1000 ∧ -1000 ≤ nearI p) := fun p => ⟨(near_in p).2, (near_in p).1⟩
  clear HK hW0
  go_enter Tryd.func21, Tryd.ntmps21
  go_wp2_with (go_at_call 28; rw [HW0.out]; refine HK'.out.mono ?_; rintro e W1 ⟨v1, vs1, gs1, rfl, ho1, hr1, b1⟩)
  have hvl1 : vs1.length = hh := by rw [hr1.1, rowsL_len]
  rw [← hvl1] at ho1
  obtain ⟨G, cap, rest, rfl, hGb, hlc, hcm, hGh⟩ := out_of_own ho1 (by omega)
  rw [hvl1] at hlc
  have e1v : vs1.length = hh := hvl1
  simp only [e1v]
  clear e1v ho1
  have y1 := carry x1 b1
  have ⟨f0, f1, f2, f3⟩ := cells4 y1
  go_quiet (first
    | (go_at_call 46; exact Calls.quiet_of_same (limit_same _ _)))
  go_wp2_with fail
  generalize hY : W1.drewN nq = Y
  have hYh : Y.heap = W1.heap := by rw [← hY]; rfl
  have kY : Below W0.heap.size W0 Y := by rw [← hY]; exact b1.trans ⟨rfl, rfl, rfl, Nat.le_refl _, fun _ _ => rfl⟩
  have hR0 : RowsAt Y W0.heap.size vs1 gs1 (rowsL n cs hh) := by rw [← hY]; exact hr1.below ⟨rfl, rfl, rfl, Nat.le_refl _, fun _ _ => rfl⟩
  rw [← hYh] at hGh y1
  clear hYh hY b1 hr1 f0 f1 f2 f3 HK' HW0
  have ⟨f0, f1, f2, f3⟩ := cells4 y1
  have m1 := max2 0 (nearI rw)
  have m2 := max2 0 (nearI rh)
  have ⟨l1, l2⟩ := HXL.out rx
  have ⟨l3, l4⟩ := HXL.out ry
  have ⟨l5, l6⟩ := HXL.out rw
  have ⟨l7, l8⟩ := HXL.out rh
  have a1 : IntKind.i64.wrap (nearI rx + max 0 (nearI rw)) = nearI rx + max 0 (nearI rw) := wrap_id _ (by omega) (by omega)
  have a2 : IntKind.i64.wrap (nearI ry + max 0 (nearI rh)) = nearI ry + max 0 (nearI rh) := wrap_id _ (by omega) (by omega)
  go_quiet (first
    | (go_at_call 46; exact Calls.quiet_of_same (limit_same _ _)))
  clear a1 a2 m1 m2
  have HFG : Hid (preF n cs (fillF n hh rx ry rw rh (r, f, bk, x)) hh = fillG n hh cs rx ry rw rh (r, f, bk, x)) := rfl
  have HFL : Hid (KeepLen n (fillF n hh rx ry rw rh (r, f, bk, x))) := fillF_len n hh rx ry rw rh _
  have HF1 : Hid (∀ y : Nat, y < hh → nearI ry ≤ (y : Int) → (y : Int) < nearI ry + max 0 (nearI rh) → ∀ row, fillF n hh rx ry rw rh (r, f, bk, x) y row = mendL (putRow row (inside rx rw n) fun _ => (r, f, bk, x))) := fun y hy h1 h2 row => by
    unfold fillF
    rw [inside_iff ry rh hh y hy, if_pos (by simp only [decide_eq_true_eq]; omega)]
  have HF0 : Hid (∀ y : Nat, y < hh → ¬ (nearI ry ≤ (y : Int) ∧ (y : Int) < nearI ry + max 0 (nearI rh)) → ∀ row, fillF n hh rx ry rw rh (r, f, bk, x) y row = row) := fun y hy h1 row => by
    unfold fillF
    rw [inside_iff ry rh hh y hy, if_neg (by simp only [decide_eq_true_eq]; exact h1)]
  have HP : Hid (∀ u : Nat, u < n → inside rx rw n u = decide (nearI rx ≤ (u : Int) ∧ (u : Int) < nearI rx + max 0 (nearI rw))) := fun u hu => inside_iff rx rw n u hu
  have b5 : nearI rx + max 0 (nearI rw) ≤ 3000 := by omega
  have b6 : nearI ry + max 0 (nearI rh) ≤ 3000 := by omega
  generalize fillF n hh rx ry rw rh (r, f, bk, x) = F at HFG HFL HF0 HF1
  generalize inside rx rw n = ins at HF1 HP
  generalize nearI rx + max 0 (nearI rw) = X1 at *
  generalize nearI ry + max 0 (nearI rh) = Y1 at *
  generalize nearI rx = X0 at *
  generalize nearI ry = Y0 at *
  rw [← rowsF_zero n hh cs F] at hR0
  rw [hsz] at hR0 hGb
  have HR0 : Hid (RowsAt Y (w.heap.size + 4) vs1 gs1 (rowsF n hh cs F 0)) := hR0
  clear f0 f1 f2 f3 hR0 y1 HXL l1 l2 l3 l4 l5 l6 l7 l8
  have y2 := carry x2 kY
  have y3 := carry x3 kY
  have kN : Below w.heap.size w Y := kk.trans (kY.mono kk.size)
  clear x0 x1 x2 x3 kk kY
  go_wp2_with fail
  go_loopg [36] hh (fun q i wr => ∃ (k : Nat) (vs : List Value) (gs : List Nat), i = .int .i64 (k : Int) ∧ k ≤ hh ∧ hh - k ≤ q ∧ Below (w.heap.size + 4) Y wr ∧ wr.heap[G]? = some (.cells (vs ++ rest).toArray 22 (0, 0)) ∧ RowsAt wr (w.heap.size + 4) vs gs (rowsF n hh cs F k))
  case atStart => exact ⟨0, vs1, gs1, rfl, by omega, by omega, ⟨rfl, rfl, rfl, Nat.le_refl _, fun _ _ => rfl⟩, hGh, HR0.out.below ⟨rfl, rfl, rfl, Nat.le_refl _, fun _ _ => rfl⟩⟩
  case round =>
    clear hGh HR0
    obtain ⟨k, vs, gs, rfl, hk, hq, hb, hG, hR⟩ := hrel
    have HR : Hid (RowsAt wr (w.heap.size + 4) vs gs (rowsF n hh cs F k)) := hR
    have v2 : wr.heap[w.heap.size + 2]? = _ := (hb.block _ (by omega)).trans y2
    have v3 : wr.heap[w.heap.size + 3]? = _ := (hb.block _ (by omega)).trans y3
    have hvl : vs.length = hh := by rw [hR.1, rowsF_len]
    by_cases hlt : k < hh
    · have lt1 : ((k : Int) < (hh : Int)) := by omega
      have hrow := (hR.2.2.2 k (by rw [rowsF_len]; exact hlt))
      rw [rowsF_at n hh cs F k k hlt, if_neg (by omega)] at hrow
      obtain ⟨hgb, capk, restk, hvk, hlk, hck, hgk⟩ := hrow
      have hrl := row_len n hh cs k HL.out hlt
      rw [hrl] at hvk hlk
      have hcell := out_cell hG k (by omega)
      rw [hvk] at hcell
      generalize hgk0 : gs.getD k 0 = gk0 at *
      have HGK : Hid (gs.getD k 0 = gk0) := hgk0
      have HVK : Hid (vs.getD k nilV = .slice (some ⟨gk0, 0, none⟩) n capk) := hvk
      have HRL : Hid ((rowAt n cs k).length = n) := hrl
      have HGG : Hid (G ≠ gk0) := by
        intro e
        rw [e] at hG
        rw [hgk] at hG
        simp at hG
      clear hgk0 hR hvk hrl
      by_cases hy : Y0 ≤ (k : Int) ∧ (k : Int) < Y1
      · obtain ⟨hy0, hy1⟩ := hy
        have HFk : Hid (rowsF n hh cs F (k + 1) = (rowsF n hh cs F k).set k (mendL (putRow (rowAt n cs k) ins fun _ => (r, f, bk, x)))) := by
          unfold Hid
          rw [rowsF_set n hh cs F k hlt, HF1.out k hlt hy0 hy1]
        generalize rowAt n cs k = row at *
        go_wp2_with fail
        generalize hV : wr = V at *
        go_loopg [44] n (fun q xx wv => ∃ j : Nat, xx = .int .i64 (j : Int) ∧ j ≤ n ∧ n - j ≤ q ∧ Apart (w.heap.size + 4) [gk0] V wv ∧ wv.heap[gk0]? = some (.cells (flat (putRow row (fun u => ins u && decide (u < j)) fun _ => (r, f, bk, x)) ++ restk).toArray 40 (0, 0)))
        case atStart =>
          refine ⟨0, rfl, by omega, by omega, Apart.refl _ _ _, ?_⟩
          rw [putRow_none _ _ _ (fun u _ => by simp)]
          exact hgk
        case round =>
          obtain ⟨j, rfl, hj, hq2, hap, hgj⟩ := hrel
          have w2 := hap.carry v2 (by simp; omega)
          have wG := hap.carry hG (by simpa using HGG.out)
          have hcj := out_cell wG k (by omega)
          rw [HVK.out] at hcj
          have ⟨t0, t1, t2, t3⟩ := cells4 w2
          by_cases hjn : j < n
          · have lt2 : ((j : Int) < (n : Int)) := by omega
            by_cases hin : X0 ≤ (j : Int) ∧ (j : Int) < X1
            · obtain ⟨hx0, hx1⟩ := hin
              have HNX : Hid ((putRow row (fun u => ins u && decide (u < j)) fun _ => (r, f, bk, x)).set j (r, f, bk, x) = putRow row (fun u => ins u && decide (u < j + 1)) fun _ => (r, f, bk, x)) := putRow_set row _ _ (fun _ => (r, f, bk, x)) j (by rw [HRL.out]; exact hjn) (fun u hu => by
                by_cases huj : u = j
                · subst huj
                  rw [HP.out u hjn]
                  simp; omega
                · simp only [huj, decide_false, Bool.or_false]
                  rw [show decide (u < j + 1) = decide (u < j) by rw [decide_eq_decide]; omega])
              have hjl : j < (putRow row (fun u => ins u && decide (u < j)) fun _ => (r, f, bk, x)).length := by rw [putRow_len, HRL.out]; exact hjn
              have hth := there_cell (w := wr.drew) (pre := []) (by rw [List.nil_append]; exact hgj) j hjl
              have hsv := store_cell (w := wr.drew) (pre := []) (by rw [List.nil_append]; exact hgj) j hjl (r, f, bk, x)
              rw [List.length_nil, Nat.zero_add] at hth hsv
              rw [List.nil_append, HNX.out] at hsv
              have haz := hap.drew.setCells gk0 (j * 4) (words (r, f, bk, x)) (by simp) (by omega)
              have HSV : Hid ((wr.drew.setCells gk0 (j * 4) (words (r, f, bk, x))).heap[gk0]? = some (.cells (flat (putRow row (fun u => ins u && decide (u < j + 1)) fun _ => (r, f, bk, x)) ++ restk).toArray 40 (0, 0))) := hsv
              have HAZ : Hid (Apart (w.heap.size + 4) [gk0] V (wr.drew.setCells gk0 (j * 4) (words (r, f, bk, x)))) := haz
              have ⟨o0, o1, o2, o3⟩ := (cellsAt_flat hgj) j hjl
              rw [Nat.zero_add] at o0 o1 o2 o3
              have z0 : wr.cell? ⟨w.heap.size + 1 + 1, 0, none⟩ = _ := t0
              have z1 : wr.cell? ⟨w.heap.size + 1 + 1, 1, none⟩ = _ := t1
              have z2 : wr.cell? ⟨w.heap.size + 1 + 1, 2, none⟩ = _ := t2
              have z3 : wr.cell? ⟨w.heap.size + 1 + 1, 3, none⟩ = _ := t3
              have q0 : wr.frozen? ⟨gk0, j * 4, none⟩ = false := frozen_of hgj _
              have q1 : wr.frozen? ⟨gk0, j * 4 + 1, none⟩ = false := frozen_of hgj _
              have q2 : wr.frozen? ⟨gk0, j * 4 + 2, none⟩ = false := frozen_of hgj _
              have q3 : wr.frozen? ⟨gk0, j * 4 + 3, none⟩ = false := frozen_of hgj _
              generalize (putRow row (fun u => ins u && decide (u < j)) fun _ => (r, f, bk, x)).getD j Grd.z0 = oc at o0 o1 o2 o3
              clear hth hsv haz hjl HNX hgj t0 t1 t2 t3
              go_wp2_with fail
              go_region
              go_wp2_with fail
              go_roundg (n - (j + 1))
              case measure => omega
              case rel => exact ⟨j + 1, rfl, by omega, by omega, HAZ.out, HSV.out⟩
            · have HNX : Hid ((putRow row (fun u => ins u && decide (u < j)) fun _ => (r, f, bk, x)) = putRow row (fun u => ins u && decide (u < j + 1)) fun _ => (r, f, bk, x)) := putRow_congr _ _ _ _ _ (fun u hu => ⟨by
                by_cases huj : u = j
                · subst huj
                  rw [HP.out u hjn]
                  simp
                  exact fun h1 => Int.not_lt.1 fun h2 => hin ⟨h1, h2⟩
                · rw [show decide (u < j + 1) = decide (u < j) by rw [decide_eq_decide]; omega], fun _ => rfl⟩)
              have hxx : (decide (X0 ≤ (j : Int)) = false) ∨ (X0 ≤ (j : Int) ∧ decide ((j : Int) < X1) = false) := by
                by_cases h0 : X0 ≤ (j : Int)
                · right; exact ⟨h0, by rw [decide_eq_false_iff_not]; exact fun h => hin ⟨h0, h⟩⟩
                · left; rw [decide_eq_false_iff_not]; exact h0
              rw [HNX.out] at hgj
              clear hin HNX
              rcases hxx with g0 | ⟨g0, g1⟩
              · go_wp2_with fail
                go_roundg (n - (j + 1))
                case measure => omega
                case rel => exact ⟨j + 1, rfl, by omega, by omega, hap, hgj⟩
              · go_wp2_with fail
                go_roundg (n - (j + 1))
                case measure => omega
                case rel => exact ⟨j + 1, rfl, by omega, by omega, hap, hgj⟩
          · have lt2 : ¬ ((j : Int) < (n : Int)) := by omega
            have HPE : Hid ((putRow row (fun u => ins u && decide (u < j)) fun _ => (r, f, bk, x)) = putRow row ins fun _ => (r, f, bk, x)) := putRow_congr _ _ _ _ _ (fun u hu => ⟨by rw [HRL.out] at hu; simp; omega, fun _ => rfl⟩)
            rw [HPE.out] at hgj
            have KM := mendRow_any gk0 0 capk (putRow row ins fun _ => (r, f, bk, x)) wr (cellsAt_flat hgj) (by rw [putRow_len, HRL.out]; omega)
            rw [putRow_len, HRL.out] at KM
            have HKM : Hid (Calls Tryd.prog 29 #[.slice (some ⟨gk0, 0, none⟩) n capk] wr fun e w' => ∃ v' g, e = .returned v' ∧ wr.heap.size ≤ g ∧ RowB w' g v' (mendL (putRow row ins fun _ => (r, f, bk, x))) ∧ Below wr.heap.size wr w') := KM
            clear KM HPE
            have hkv : k < vs.length := by omega
            go_wp2_with (go_at_call 29; refine HKM.out.mono ?_; rintro e W6 ⟨v6, g6, rfl, hg6, hr6, b6⟩
                         have wG6 := carry wG b6
                         have hce : W6.cell? ⟨G, k, none⟩ = some (vs.getD k nilV) := out_cell wG6 k hkv
                         have hfz : W6.frozen? ⟨G, k, none⟩ = false := frozen_of wG6 _
                         have HR6 : Hid (RowB W6 g6 v6 (mendL (putRow row ins fun _ => (r, f, bk, x)))) := hr6
                         obtain ⟨cap6, _, rfl, _⟩ := hr6)
            have hGl : G < V.heap.size := blk_lt hG
            have hsV := hap.1.size
            have hs6 := b6.size
            go_roundg (hh - (k + 1))
            case measure => omega
            case rel =>
              refine ⟨k + 1, vs.set k (.slice (some ⟨g6, 0, none⟩) (mendL (putRow row ins fun _ => (r, f, bk, x))).length cap6), gs.set k g6, rfl, by omega, by omega, ?_, ?_, ?_⟩
              · exact ((hb.trans hap.1).trans (b6.mono (by have := hb.size; omega))).setCell (by dsimp only; omega) _
              · have := heap_setCell_same W6 G k _ _ (.slice (some ⟨g6, 0, none⟩) (mendL (putRow row ins fun _ => (r, f, bk, x))).length cap6) wG6
                rw [this]
                simp [List.set_append_left _ _ hkv]
              · rw [HFk.out]
                refine HR.out.set k (by rw [rowsF_len]; exact hlt) g6 _ _ (by omega) ?_ (fun i hi hik => ?_) (fun i hi hik => ?_)
                · obtain ⟨cp, rs, e1, e2, e3, e4⟩ := HR6.out
                  exact ⟨cp, rs, e1, e2, e3, by rw [heap_setCell_other _ _ _ _ (by dsimp only; omega)]; exact e4⟩
                · have := HR.out.lt i hi
                  omega
                · have h1 := HR.out.lt i hi
                  have h2 := HR.out.ne i k hi (by rw [rowsF_len]; exact hlt) hik
                  rw [HGK.out] at h2
                  have h3 : gs.getD i 0 ≠ G := by
                    intro e
                    obtain ⟨_, _, _, _, _, _, h5⟩ := HR.out.2.2.2 i hi
                    rw [e, hG] at h5
                    simp at h5
                  rw [heap_setCell_other _ _ _ _ (by dsimp only; exact h3), b6.block _ (by omega), hap.2 _ (by simpa using h2) h1]
      · have HFk : Hid (rowsF n hh cs F (k + 1) = rowsF n hh cs F k) := rowsF_same n hh cs F k hlt (HF0.out k hlt hy _)
        have hyy : (decide (Y0 ≤ (k : Int)) = false) ∨ (Y0 ≤ (k : Int) ∧ decide ((k : Int) < Y1) = false) := by
          by_cases h0 : Y0 ≤ (k : Int)
          · right; exact ⟨h0, by rw [decide_eq_false_iff_not]; exact fun h => hy ⟨h0, h⟩⟩
          · left; rw [decide_eq_false_iff_not]; exact h0
        clear hy
        go_wp2_with fail
        have hwr : wr = wr := rfl
        generalize hV : wr = V at *
        go_loopg [44] n (fun q xx wv => ∃ j : Nat, xx = .int .i64 (j : Int) ∧ j ≤ n ∧ n - j ≤ q ∧ wv = V)
        case atStart => exact ⟨0, rfl, by omega, by omega, rfl⟩
        case round =>
          obtain ⟨j, rfl, hj, hq2, rfl⟩ := hrel
          by_cases hjn : j < n
          · have lt2 : ((j : Int) < (n : Int)) := by omega
            rcases hyy with g0 | ⟨g0, g1⟩
            · go_wp2_with fail
              go_roundg (n - (j + 1))
              case measure => omega
              case rel => exact ⟨j + 1, rfl, by omega, by omega, rfl⟩
            · go_wp2_with fail
              go_roundg (n - (j + 1))
              case measure => omega
              case rel => exact ⟨j + 1, rfl, by omega, by omega, rfl⟩
          · have lt2 : ¬ ((j : Int) < (n : Int)) := by omega
            rcases hyy with g0 | ⟨g0, g1⟩
            · go_wp2_with fail
              go_roundg (hh - (k + 1))
              case measure => omega
              case rel => exact ⟨k + 1, vs, gs, rfl, by omega, by omega, hb, hG, by rw [HFk.out]; exact HR.out⟩
            · go_wp2_with fail
              go_roundg (hh - (k + 1))
              case measure => omega
              case rel => exact ⟨k + 1, vs, gs, rfl, by omega, by omega, hb, hG, by rw [HFk.out]; exact HR.out⟩
    · have lt1 : ¬ ((k : Int) < (hh : Int)) := by omega
      have hkh : k = hh := by omega
      subst hkh
      have KG := gridOf_any n k G cap (w.heap.size + 4) vs rest gs (rowsF n k cs F k) wr (by omega) (by omega) (by omega) (by omega) hG HR.out (rowsF_len _ _ _ _ _) (fun i hi => by
        rw [rowsF_len] at hi
        rw [rowsF_at n k cs F k i hi, if_pos hi]
        exact HFL.out i _ (row_len n k cs i HL.out hi))
      rw [rowsF_flat, HFG.out] at KG
      have HKG : Hid (Calls Tryd.prog 30 #[.slice (some ⟨G, 0, none⟩) k cap] wr fun e w' => ∃ v, e = .returned (.agg #[.int .i64 (n : Int), .int .i64 (k : Int), v]) ∧ OwnG w' wr.heap.size v (fillG n k cs rx ry rw rh (r, f, bk, x)) ∧ Below wr.heap.size wr w') := KG
      have kW : Below w.heap.size w wr := kN.trans (hb.mono (by omega))
      have hNw : w.heap.size + 3 < wr.heap.size := blk_lt v3
      clear KG
      generalize hres : fillG n k cs rx ry rw rh (r, f, bk, x) = res at HKG
      have HRES : Hid (fillG n k cs rx ry rw rh (r, f, bk, x) = res) := hres
      clear hres
      go_wp2_with (first
        | (go_at_call 30; refine HKG.out.mono ?_; rintro e W7 ⟨_, rfl, ⟨g7, c7, r7, t7, rfl, hg7, hc7, hm7, h7⟩, b7⟩; have u3 := carry v3 b7)
        | (refine wpList_store_row rfl 24 (.tmp 6) _ rfl (w.heap.size + 3) #[.int .i64 (n : Int), .int .i64 (k : Int), .slice (some ⟨g7, 0, none⟩) res.length c7] rfl rfl _ _ u3 (by kernel_rfl) rfl (one3v _ _ _ _ _) ?_))
      (try simp only [Exit.inBlock, Exit.then])
      refine bodyPost_ret (v := .agg #[.int .i64 (n : Int), .int .i64 (k : Int), .slice (some ⟨g7, 0, none⟩) res.length c7]) ?_ rfl ⟨_, rfl, ⟨g7, c7, r7, t7, by rw [HRES.out], by have := kW.size; omega, by rw [HRES.out]; exact hc7, hm7, ?_⟩, below_setRow (kW.trans (b7.mono kW.size)) (by omega) _⟩
      · exact results_cell_row rfl _ _ (w.heap.size + 3) _ _ _ _ rfl (setRow_heap _ _ _ _ _ _ u3) Tryd.underlying24 rfl (by kernel_rfl)
      · rw [setRow_other _ _ _ _ (by omega), HRES.out]
        exact h7
end Grd
end Go.Proofs.YtinhmklpnkikgaaDoor

/- The walk of the reference's LayGrid. -/
namespace Go.Proofs.YtinhmklpnkikgaaDoor
open Go.ChangeShapes Go.WideShapes Go.ChangeAt Go.RowKit Go.Maps
namespace Grd
theorem sub_in (a Y : Int) (h0 : -9223372036854775808 ≤ a - Y) (h1 : a - Y ≤ 9223372036854775807) : IntKind.i64.wrap (a - Y) = a - Y := IntWalk.i64_in _ ⟨h0, h1⟩
set_option maxHeartbeats 8000000 in
set_option maxRecDepth 100000 in
theorem layGrid_any (m p b1 o1 c1 n hh b2 o2 c2 : Nat) (px py : Int) (fs cs : List C) (w : World) (hC1 : CellsAt w b1 o1 fs) (hC2 : CellsAt w b2 o2 cs) (hok : gridErr m p fs = 0) (hok2 : gridErr n hh cs = 0) (hl1 : fs.length ≤ c1) (hl2 : cs.length ≤ c2) :
    Calls Tryd.prog 25 #[.agg #[.int .i64 (m : Int), .int .i64 (p : Int), .slice (some ⟨b1, o1, none⟩) fs.length c1], .agg #[.int .i64 (n : Int), .int .i64 (hh : Int), .slice (some ⟨b2, o2, none⟩) cs.length c2], .int .i64 px, .int .i64 py] w fun e w' => ∃ v, e = .returned (.agg #[.int .i64 (n : Int), .int .i64 (hh : Int), v]) ∧ OwnG w' w.heap.size v (layG n hh cs m p fs (nearI px) (nearI py)) ∧ Below w.heap.size w w' := by
  obtain ⟨hs1, hL1, hR1⟩ := (gridErr_zero m p fs).1 hok
  obtain ⟨hs2, hL2, hR2⟩ := (gridErr_zero n hh cs).1 hok2
  have HRR : Hid (∀ k, k < hh → mendL (rowAt n cs k) = rowAt n cs k) := fun k hk => mendL_fix _ (hR2 k hk).2
  have ⟨u0, u1, u2, u3, u4, u5⟩ := prod_in m p hs1
  have ⟨p0, p1, p2, p3, p4, p5⟩ := prod_in n hh hs2
  obtain ⟨x0, x1, x2, kk, hsz⟩ := alloc3 w (.cells #[.int .i64 (m : Int), .int .i64 (p : Int), .slice (some ⟨b1, o1, none⟩) fs.length c1] 24) (.cells #[.int .i64 (n : Int), .int .i64 (hh : Int), .slice (some ⟨b2, o2, none⟩) cs.length c2] 24) (.cells #[.int .i64 0, .int .i64 0, .slice none 0 0] 24)
  have HC1 : Hid (∀ W, Below w.heap.size w W → Calls Tryd.prog 28 #[.agg #[.int .i64 (m : Int), .int .i64 (p : Int), .slice (some ⟨b1, o1, none⟩) fs.length c1]] W fun e w' => ∃ v vs gs, e = .returned v ∧ w'.ownsRow W.heap.size 22 1 v p vs ∧ RowsAt w' W.heap.size vs gs (rowsL m fs p) ∧ Below W.heap.size W w') := fun W k => rows_any m p b1 o1 c1 fs W (hC1.below k) hs1 hL1 hl1
  have HC2 : Hid (∀ W, Below w.heap.size w W → Calls Tryd.prog 28 #[.agg #[.int .i64 (n : Int), .int .i64 (hh : Int), .slice (some ⟨b2, o2, none⟩) cs.length c2]] W fun e w' => ∃ v vs gs, e = .returned v ∧ w'.ownsRow W.heap.size 22 1 v hh vs ∧ RowsAt w' W.heap.size vs gs (rowsL n cs hh) ∧ Below W.heap.size W w') := fun W k => rows_any n hh b2 o2 c2 cs W (hC2.below k) hs2 hL2 hl2
  have HL1 : Hid (fs.length = m * p) := hL1
  have HL2 : Hid (cs.length = n * hh) := hL2
  clear hC1 hC2 hok hok2 hs1 hs2 hL1 hL2 hR1 hR2 p0 p1 u0 u1
  generalize hW0 : (((w.alloc (.cells #[.int .i64 (m : Int), .int .i64 (p : Int), .slice (some ⟨b1, o1, none⟩) fs.length c1] 24)).alloc (.cells #[.int .i64 (n : Int), .int .i64 (hh : Int), .slice (some ⟨b2, o2, none⟩) cs.length c2] 24)).alloc (.cells #[.int .i64 0, .int .i64 0, .slice none 0 0] 24)) = W0 at x0 x1 x2 kk hsz
  have HW0 : Hid (_ = W0) := hW0
  clear hW0
  have k0 : Below W0.heap.size W0 W0.drew := (Below.refl _ _).drew
  have HS : Hid (∀ W, Below W0.heap.size W0 W → (W.cell? ⟨w.heap.size, 0, none⟩ = some (.int .i64 (m : Int)) ∧ W.cell? ⟨w.heap.size, 1, none⟩ = some (.int .i64 (p : Int)) ∧ W.cell? ⟨w.heap.size, 2, none⟩ = some (.slice (some ⟨b1, o1, none⟩) fs.length c1)) ∧ (W.cell? ⟨w.heap.size + 1, 0, none⟩ = some (.int .i64 (n : Int)) ∧ W.cell? ⟨w.heap.size + 1, 1, none⟩ = some (.int .i64 (hh : Int)) ∧ W.cell? ⟨w.heap.size + 1, 2, none⟩ = some (.slice (some ⟨b2, o2, none⟩) cs.length c2))) := fun W k => by
    have a := cells3 (carry x0 k)
    have b := cells3 (carry x1 k)
    exact ⟨⟨a.1, a.2.1, a.2.2.1⟩, b.1, b.2.1, b.2.2.1⟩
  have HXL : Hid (∀ p : Int, nearI p ≤ 1000 ∧ -1000 ≤ nearI p) := fun p => ⟨(near_in p).2, (near_in p).1⟩
  go_enter Tryd.func25, Tryd.ntmps25
  go_wp2_with fail
  rw [HW0.out]
  go_region_held3 (fun W => (W.cell? ⟨w.heap.size, 0, none⟩ = some (.int .i64 (m : Int)) ∧ W.cell? ⟨w.heap.size, 1, none⟩ = some (.int .i64 (p : Int)) ∧ W.cell? ⟨w.heap.size, 2, none⟩ = some (.slice (some ⟨b1, o1, none⟩) fs.length c1)) ∧ (W.cell? ⟨w.heap.size + 1, 0, none⟩ = some (.int .i64 (n : Int)) ∧ W.cell? ⟨w.heap.size + 1, 1, none⟩ = some (.int .i64 (hh : Int)) ∧ W.cell? ⟨w.heap.size + 1, 2, none⟩ = some (.slice (some ⟨b2, o2, none⟩) cs.length c2)))
    (first
      | (exact HS.out _ k2)
      | (exact HS.out _ k1)
      | (exact HS.out _ k0))
    (first
      | (go_at_call_of 28 b1; refine (HC1.out _ (kk.trans (k0.mono kk.size))).mono ?_; rintro e W1 ⟨v1, vs1, gs1, rfl, ho1, hr1, d1⟩; have k1 := k0.trans (d1.mono k0.size))
      | (go_at_call_of 28 b2; refine (HC2.out _ (kk.trans (k1.mono kk.size))).mono ?_; rintro e W2 ⟨v2, vs2, gs2, rfl, ho2, hr2, d2⟩; have k2 := k1.trans (d2.mono k1.size)))
  have hvl1 : vs1.length = p := by rw [hr1.1, rowsL_len]
  rw [← hvl1] at ho1
  obtain ⟨G1, cap1, rest1, rfl, hGb1, hlc1, hcm1, hGh1⟩ := out_of_own ho1 (by omega)
  rw [hvl1] at hlc1
  have e1v : vs1.length = p := hvl1
  simp only [e1v]
  have hvl2 : vs2.length = hh := by rw [hr2.1, rowsL_len]
  rw [← hvl2] at ho2
  obtain ⟨G2, cap2, rest2, rfl, hGb2, hlc2, hcm2, hGh2⟩ := out_of_own ho2 (by omega)
  rw [hvl2] at hlc2
  have e2v : vs2.length = hh := hvl2
  simp only [e2v]
  clear e1v e2v ho1 ho2 HC1 HC2 HS HW0
  go_wp2_with fail
  refine (limit_same _ _).mono ?_
  rintro e W3 ⟨rfl, h3⟩
  rw [h3]
  clear h3
  go_wp2_with fail
  refine (limit_same _ _).mono ?_
  rintro e W4 ⟨rfl, h4⟩
  rw [h4]
  clear h4
  go_wp2_with fail
  have ⟨l1, l2⟩ := HXL.out px
  have ⟨l3, l4⟩ := HXL.out py
  have HFG : Hid (preF n cs (layFn m p fs (nearI px) (nearI py)) hh = layG n hh cs m p fs (nearI px) (nearI py)) := rfl
  generalize hLG : layG n hh cs m p fs (nearI px) (nearI py) = LG at HFG
  have HLG : Hid (layG n hh cs m p fs (nearI px) (nearI py) = LG) := hLG
  have HFL : Hid (KeepLen n (layFn m p fs (nearI px) (nearI py))) := layFn_len n m p fs _ _
  have HF1 : Hid (∀ y : Nat, nearI py ≤ (y : Int) → (y : Int) < nearI py + p → ∀ row, layFn m p fs (nearI px) (nearI py) y row = mendL (putRow row (layP m (nearI px)) (layF (rowAt m fs ((y : Int) - nearI py).toNat) (nearI px)))) := fun y h1 h2 row => by
    unfold layFn
    rw [if_pos (by omega)]
  have HF0 : Hid (∀ y : Nat, ¬ (nearI py ≤ (y : Int) ∧ (y : Int) < nearI py + p) → ∀ row, layFn m p fs (nearI px) (nearI py) y row = row) := fun y h1 row => by
    unfold layFn
    rw [if_neg h1]
  clear hLG HXL
  generalize layFn m p fs (nearI px) (nearI py) = F at HFG HFL HF0 HF1
  generalize nearI px = X at HF1 l1 l2 ⊢
  generalize nearI py = Y at HF0 HF1 l3 l4 ⊢
  rw [← rowsF_zero n hh cs F] at hr2
  have HR0 : Hid (RowsAt W2 W1.heap.size vs2 gs2 (rowsF n hh cs F 0)) := hr2
  have HR1 : Hid (RowsAt W1 W0.drew.heap.size vs1 gs1 (rowsL m fs p)) := hr1
  have y0 := carry x0 k1
  have y2 := carry x2 k1
  have hw1 : w.heap.size + 2 < W1.heap.size := blk_lt y2
  have hGl1 : G1 < W1.heap.size := blk_lt hGh1
  have kN1 : Below w.heap.size w W1 := kk.trans (k1.mono kk.size)
  have HD2 : Hid (Below W1.heap.size W1 W2) := d2
  clear x0 x1 x2 kk k0 k1 k2 d1 d2 hr1 hr2
  go_loopg [24] hh (fun q i wr => ∃ (k : Nat) (vs : List Value) (gs : List Nat), i = .int .i64 (k : Int) ∧ k ≤ hh ∧ hh - k ≤ q ∧ Below W1.heap.size W1 wr ∧ wr.heap[G2]? = some (.cells (vs ++ rest2).toArray 22 (0, 0)) ∧ RowsAt wr W1.heap.size vs gs (rowsF n hh cs F k))
  case atStart => exact ⟨0, vs2, gs2, rfl, by omega, by omega, HD2.out, hGh2, HR0.out⟩
  case round =>
    clear hGh2 HR0
    obtain ⟨k, vs, gs, rfl, hk, hq, hb, hG, hR⟩ := hrel
    have HR : Hid (RowsAt wr W1.heap.size vs gs (rowsF n hh cs F k)) := hR
    have v0 : wr.heap[w.heap.size]? = _ := (hb.block _ (by omega)).trans y0
    have v2 : wr.heap[w.heap.size + 2]? = _ := (hb.block _ (by omega)).trans y2
    have hvl : vs.length = hh := by rw [hR.1, rowsF_len]
    by_cases hlt : k < hh
    · have lt1 : ((k : Int) < (hh : Int)) := by omega
      have hrow := (hR.2.2.2 k (by rw [rowsF_len]; exact hlt))
      rw [rowsF_at n hh cs F k k hlt, if_neg (by omega)] at hrow
      obtain ⟨hgb, capk, restk, hvk, hlk, hck, hgk⟩ := hrow
      have hrl := row_len n hh cs k HL2.out hlt
      rw [hrl] at hvk hlk
      have hcell := out_cell hG k (by omega)
      rw [hvk] at hcell
      generalize hgk0 : gs.getD k 0 = gk0 at *
      have HGK : Hid (gs.getD k 0 = gk0) := hgk0
      have HVK : Hid (vs.getD k nilV = .slice (some ⟨gk0, 0, none⟩) n capk) := hvk
      have HRL : Hid ((rowAt n cs k).length = n) := hrl
      have HGG : Hid (G2 ≠ gk0) := by
        intro e
        rw [e] at hG
        rw [hgk] at hG
        simp at hG
      clear hgk0 hR hvk hrl
      by_cases hy : Y ≤ (k : Int) ∧ (k : Int) < Y + p
      · obtain ⟨qy, hqy⟩ := Int.eq_ofNat_of_zero_le (show 0 ≤ (k : Int) - Y by omega)
        have hqp : qy < p := by omega
        have hsub : IntKind.i64.wrap ((k : Int) - Y) = (qy : Int) := by rw [hqy]; exact IntWalk.i64_in _ (by omega)
        have HFk : Hid (rowsF n hh cs F (k + 1) = (rowsF n hh cs F k).set k (mendL (putRow (rowAt n cs k) (layP m X) (layF (rowAt m fs qy) X)))) := by
          unfold Hid
          rw [rowsF_set n hh cs F k hlt, HF1.out k hy.1 hy.2, hqy]
          rfl
        have HFs : Hid (putRow (rowAt n cs k) (layP m X) (layF (rowAt m fs qy) X) = rowAt n cs k → rowsF n hh cs F (k + 1) = rowsF n hh cs F k) := fun h => by
          refine rowsF_same n hh cs F k hlt ?_
          rw [HF1.out k hy.1 hy.2, hqy]
          show mendL (putRow (rowAt n cs k) (layP m X) (layF (rowAt m fs qy) X)) = _
          rw [h, HRR.out k hlt]
        have hfr := (HR1.out.2.2.2 qy (by rw [rowsL_len]; exact hqp))
        have hfl := row_len m p fs qy HL1.out hqp
        rw [show (rowsL m fs p).getD qy [] = rowAt m fs qy by simp [rowsL, List.getD, hqp]] at hfr
        obtain ⟨-, capa, resta, hva, hla, hca, hga⟩ := hfr
        rw [hfl] at hva hla
        have hce1 := out_cell hGh1 qy (by omega)
        rw [hva] at hce1
        generalize gs1.getD qy 0 = ga at *
        have hgal : ga < W1.heap.size := blk_lt hga
        have HFRL : Hid ((rowAt m fs qy).length = m) := hfl
        have HGA : Hid (W1.heap[ga]? = some (.cells (flat (rowAt m fs qy) ++ resta).toArray 40 (0, 0))) := hga
        have HG1 : Hid (W1.heap[G1]? = some (.cells (vs1 ++ rest1).toArray 22 (0, 0))) := hGh1
        have HVA : Hid (vs1.getD qy nilV = .slice (some ⟨ga, 0, none⟩) m capa) := hva
        have hqp' : (qy : Int) < (p : Int) := by omega
        clear hqy hy hva hce1 hga hfl hGh1
        generalize rowAt n cs k = row at *
        generalize rowAt m fs qy = frow at *
        go_wp2_with fail
        generalize hV : wr = V at *
        go_loopg [12, 32] n (fun q tt xx wv => ∃ (j : Nat) (t : Bool), tt = .bool t ∧ xx = .int .i64 (j : Int) ∧ j ≤ n ∧ n - j ≤ q ∧ Hid (t = false → ∀ u, u < j → layP m X u = false) ∧ Apart W1.heap.size [gk0] V wv ∧ wv.heap[gk0]? = some (.cells (flat (putRow row (fun u => layP m X u && decide (u < j)) (layF frow X)) ++ restk).toArray 40 (0, 0)))
        case atStart =>
          refine ⟨0, false, rfl, rfl, by omega, by omega, fun _ u hu => absurd hu (by omega), Apart.refl _ _ _, ?_⟩
          rw [putRow_none _ _ _ (fun u _ => by simp)]
          exact hgk
        case round =>
          obtain ⟨j, t, rfl, rfl, hj, hq2, ht, hap, hgj⟩ := hrel
          have w0 := hap.carry v0 (by simp; omega)
          have wG := hap.carry hG (by simpa using HGG.out)
          have hcj := out_cell wG k (by omega)
          rw [HVK.out] at hcj
          have wA := (hap.1.block ga hgal).trans ((hb.block ga hgal).trans HGA.out)
          have wB := (hap.1.block G1 hGl1).trans ((hb.block G1 hGl1).trans HG1.out)
          have hca1 := out_cell wB qy (by omega)
          rw [HVA.out] at hca1
          obtain ⟨t0, t1, t2, _⟩ := cells3 w0
          by_cases hjn : j < n
          · have lt2 : ((j : Int) < (n : Int)) := by omega
            by_cases hin : X ≤ (j : Int) ∧ (j : Int) < X + m
            · obtain ⟨u, hu⟩ := Int.eq_ofNat_of_zero_le (show 0 ≤ (j : Int) - X by omega)
              have hum : u < m := by omega
              have hum' : (u : Int) < (m : Int) := by omega
              have hsu : IntKind.i64.wrap ((j : Int) - X) = (u : Int) := by rw [hu]; exact IntWalk.i64_in _ (by omega)
              have HLF : Hid (layF frow X j = frow.getD u z0) := by unfold Hid layF; rw [hu]; rfl
              have hjl : j < (putRow row (fun u => layP m X u && decide (u < j)) (layF frow X)).length := by rw [putRow_len, HRL.out]; exact hjn
              have hsv := store_cell (w := wr.drew) (pre := []) (by rw [List.nil_append]; exact hgj) j hjl (layF frow X j)
              rw [List.length_nil, Nat.zero_add] at hsv
              rw [List.nil_append, putRow_set row _ (fun u => layP m X u && decide (u < j + 1)) (layF frow X) j (by rw [HRL.out]; exact hjn) (fun v _ => by
                by_cases hvj : v = j
                · subst hvj; unfold layP; simp; omega
                · simp only [hvj, decide_false, Bool.or_false]
                  rw [show decide (v < j + 1) = decide (v < j) by rw [decide_eq_decide]; omega])] at hsv
              rw [HLF.out] at hsv
              have ⟨c0, c1', c2', c3⟩ := (cellsAt_flat wA) u (by rw [HFRL.out]; exact hum)
              rw [Nat.zero_add] at c0 c1' c2' c3
              rcases hce : frow.getD u z0 with ⟨r, f, bk, x⟩
              rw [hce] at hsv c0 c1' c2' c3
              dsimp only at c0 c1' c2' c3
              have HSV : Hid ((wr.drew.setCells gk0 (j * 4) (words (r, f, bk, x))).heap[gk0]? = some (.cells (flat (putRow row (fun u => layP m X u && decide (u < j + 1)) (layF frow X)) ++ restk).toArray 40 (0, 0))) := hsv
              have HAZ : Hid (Apart W1.heap.size [gk0] V (wr.drew.setCells gk0 (j * 4) (words (r, f, bk, x)))) := hap.drew.setCells gk0 (j * 4) (words (r, f, bk, x)) (by simp) (by omega)
              have ⟨o0, o1', o2', o3⟩ := (cellsAt_flat hgj) j hjl
              rw [Nat.zero_add] at o0 o1' o2' o3
              have q0 : wr.frozen? ⟨gk0, j * 4, none⟩ = false := frozen_of hgj _
              have q1 : wr.frozen? ⟨gk0, j * 4 + 1, none⟩ = false := frozen_of hgj _
              have q2 : wr.frozen? ⟨gk0, j * 4 + 2, none⟩ = false := frozen_of hgj _
              have q3 : wr.frozen? ⟨gk0, j * 4 + 3, none⟩ = false := frozen_of hgj _
              generalize (putRow row (fun u => layP m X u && decide (u < j)) (layF frow X)).getD j Grd.z0 = oc at o0 o1' o2' o3
              clear hsv hjl hgj hce hu hin HLF wA wB wG w0
              go_wp2_with fail
              go_region
              go_wp2_with fail
              go_roundg (n - (j + 1))
              case measure => omega
              case rel => exact ⟨j + 1, true, rfl, rfl, by omega, by omega, (fun h => by cases h), HAZ.out, HSV.out⟩
            · have HLP : Hid (layP m X j = false) := by unfold Hid layP; rw [decide_eq_false_iff_not]; exact hin
              have HNX : Hid ((putRow row (fun u => layP m X u && decide (u < j)) (layF frow X)) = putRow row (fun u => layP m X u && decide (u < j + 1)) (layF frow X)) := putRow_congr _ _ _ _ _ (fun u hu => ⟨by
                by_cases huj : u = j
                · subst huj
                  rw [HLP.out]; simp
                · rw [show decide (u < j + 1) = decide (u < j) by rw [decide_eq_decide]; omega], fun _ => rfl⟩)
              have HT2 : Hid (t = false → ∀ u, u < j + 1 → layP m X u = false) := fun h u hu => by
                by_cases huj : u = j
                · subst huj; exact HLP.out
                · exact ht.out h u (by omega)
              rw [HNX.out] at hgj
              by_cases h0 : 0 ≤ (j : Int) - X
              · obtain ⟨u, hu⟩ := Int.eq_ofNat_of_zero_le h0
                have hsu : IntKind.i64.wrap ((j : Int) - X) = (u : Int) := by rw [hu]; exact IntWalk.i64_in _ (by omega)
                have f1 : ¬ ((u : Int) < (m : Int)) := by omega
                have g1 : decide ((u : Int) < (m : Int)) = false := by rw [decide_eq_false_iff_not]; omega
                clear hin hu h0
                go_wp2_with fail
                go_roundg (n - (j + 1))
                case measure => omega
                case rel => exact ⟨j + 1, t, rfl, rfl, by omega, by omega, HT2, hap, hgj⟩
              · have hsu : IntKind.i64.wrap ((j : Int) - X) = (j : Int) - X := IntWalk.i64_in _ (by omega)
                have f1 : ¬ (0 ≤ (j : Int) - X) := h0
                have g1 : decide (0 ≤ (j : Int) - X) = false := by rw [decide_eq_false_iff_not]; exact h0
                clear hin h0
                go_wp2_with fail
                go_roundg (n - (j + 1))
                case measure => omega
                case rel => exact ⟨j + 1, t, rfl, rfl, by omega, by omega, HT2, hap, hgj⟩
          · have lt2 : ¬ ((j : Int) < (n : Int)) := by omega
            have HPE : Hid ((putRow row (fun u => layP m X u && decide (u < j)) (layF frow X)) = putRow row (layP m X) (layF frow X)) := putRow_congr _ _ _ _ _ (fun u hu => ⟨by rw [HRL.out] at hu; simp; omega, fun _ => rfl⟩)
            rw [HPE.out] at hgj
            clear wA wB t0 t1 t2 w0 hca1
            cases t
            · have HSM : Hid (putRow row (layP m X) (layF frow X) = row) := putRow_none _ _ _ (fun u hu => ht.out rfl u (by rw [HRL.out] at hu; omega))
              rw [HSM.out] at hgj
              go_wp2_with fail
              go_roundg (hh - (k + 1))
              case measure => omega
              case rel =>
                refine ⟨k + 1, vs, gs, rfl, by omega, by omega, hb.trans hap.1, wG, ?_⟩
                rw [HFs.out HSM.out]
                refine HR.out.kept fun i hi => ?_
                by_cases hik : i = k
                · subst hik
                  rw [HGK.out, hgj, hgk]
                · have h1 := HR.out.lt i hi
                  have h2 := HR.out.ne i k hi (by rw [rowsF_len]; exact hlt) hik
                  rw [HGK.out] at h2
                  exact hap.2 _ (by simpa using h2) h1
            · have KM := mendRow_any gk0 0 capk (putRow row (layP m X) (layF frow X)) wr (cellsAt_flat hgj) (by rw [putRow_len, HRL.out]; omega)
              rw [putRow_len, HRL.out] at KM
              have HKM : Hid (Calls Tryd.prog 29 #[.slice (some ⟨gk0, 0, none⟩) n capk] wr fun e w' => ∃ v' g, e = .returned v' ∧ wr.heap.size ≤ g ∧ RowB w' g v' (mendL (putRow row (layP m X) (layF frow X))) ∧ Below wr.heap.size wr w') := KM
              clear KM HPE
              have hkv : k < vs.length := by omega
              go_wp2_with (go_at_call 29; refine HKM.out.mono ?_; rintro e W6 ⟨v6, g6, rfl, hg6, hr6, b6⟩
                           have wG6 := carry wG b6
                           have hce : W6.cell? ⟨G2, k, none⟩ = some (vs.getD k nilV) := out_cell wG6 k hkv
                           have hfz : W6.frozen? ⟨G2, k, none⟩ = false := frozen_of wG6 _
                           have HR6 : Hid (RowB W6 g6 v6 (mendL (putRow row (layP m X) (layF frow X)))) := hr6
                           obtain ⟨cap6, _, rfl, _⟩ := hr6)
              have hGl : G2 < V.heap.size := blk_lt hG
              have hsV := hap.1.size
              have hs6 := b6.size
              have hbs := hb.size
              go_roundg (hh - (k + 1))
              case measure => omega
              case rel =>
                refine ⟨k + 1, vs.set k (.slice (some ⟨g6, 0, none⟩) (mendL (putRow row (layP m X) (layF frow X))).length cap6), gs.set k g6, rfl, by omega, by omega, ?_, ?_, ?_⟩
                · exact ((hb.trans hap.1).trans (b6.mono (by omega))).setCell (by dsimp only; omega) _
                · have := heap_setCell_same W6 G2 k _ _ (.slice (some ⟨g6, 0, none⟩) (mendL (putRow row (layP m X) (layF frow X))).length cap6) wG6
                  rw [this]
                  simp [List.set_append_left _ _ hkv]
                · rw [HFk.out]
                  refine HR.out.set k (by rw [rowsF_len]; exact hlt) g6 _ _ (by omega) ?_ (fun i hi hik => ?_) (fun i hi hik => ?_)
                  · obtain ⟨cp, rs, e1, e2, e3, e4⟩ := HR6.out
                    exact ⟨cp, rs, e1, e2, e3, by rw [heap_setCell_other _ _ _ _ (by dsimp only; omega)]; exact e4⟩
                  · have := HR.out.lt i hi
                    omega
                  · have h1 := HR.out.lt i hi
                    have h2 := HR.out.ne i k hi (by rw [rowsF_len]; exact hlt) hik
                    rw [HGK.out] at h2
                    have h3 : gs.getD i 0 ≠ G2 := by
                      intro e
                      obtain ⟨_, _, _, _, _, _, h5⟩ := HR.out.2.2.2 i hi
                      rw [e, hG] at h5
                      simp at h5
                    rw [heap_setCell_other _ _ _ _ (by dsimp only; exact h3), b6.block _ (by omega), hap.2 _ (by simpa using h2) h1]
      · have HFk : Hid (rowsF n hh cs F (k + 1) = rowsF n hh cs F k) := rowsF_same n hh cs F k hlt (HF0.out k hy _)
        have hyy : (IntKind.i64.wrap ((k : Int) - Y) = (k : Int) - Y ∧ decide (0 ≤ (k : Int) - Y) = false) ∨ (∃ qy : Nat, IntKind.i64.wrap ((k : Int) - Y) = (qy : Int) ∧ decide ((qy : Int) < (p : Int)) = false) := by
          by_cases h0 : 0 ≤ (k : Int) - Y
          · right
            obtain ⟨qy, hqy⟩ := Int.eq_ofNat_of_zero_le h0
            exact ⟨qy, by rw [hqy]; exact IntWalk.i64_in _ (by omega), by rw [decide_eq_false_iff_not]; omega⟩
          · left; exact ⟨IntWalk.i64_in _ (by omega), by rw [decide_eq_false_iff_not]; exact h0⟩
        obtain ⟨t0, t1, t2, _⟩ := cells3 v0
        clear hy
        go_wp2_with fail
        generalize hV : wr = V at *
        go_loopg [12, 32] n (fun q tt xx wv => ∃ j : Nat, tt = .bool false ∧ xx = .int .i64 (j : Int) ∧ j ≤ n ∧ n - j ≤ q ∧ wv = V)
        case atStart => exact ⟨0, rfl, rfl, by omega, by omega, rfl⟩
        case round =>
          obtain ⟨j, rfl, rfl, hj, hq2, rfl⟩ := hrel
          by_cases hjn : j < n
          · have lt2 : ((j : Int) < (n : Int)) := by omega
            rcases hyy with ⟨hsub, g1⟩ | ⟨qy, hsub, g1⟩
            · have f1 := of_decide_eq_false g1
              go_wp2_with fail
              go_roundg (n - (j + 1))
              case measure => omega
              case rel => exact ⟨j + 1, rfl, rfl, by omega, by omega, rfl⟩
            · have f1 := of_decide_eq_false g1
              go_wp2_with fail
              go_roundg (n - (j + 1))
              case measure => omega
              case rel => exact ⟨j + 1, rfl, rfl, by omega, by omega, rfl⟩
          · have lt2 : ¬ ((j : Int) < (n : Int)) := by omega
            clear hyy
            go_wp2_with fail
            go_roundg (hh - (k + 1))
            case measure => omega
            case rel => exact ⟨k + 1, vs, gs, rfl, by omega, by omega, hb, hG, by rw [HFk.out]; exact HR.out⟩
    · have lt1 : ¬ ((k : Int) < (hh : Int)) := by omega
      have hkh : k = hh := by omega
      subst hkh
      have KG := gridOf_any n k G2 cap2 W1.heap.size vs rest2 gs (rowsF n k cs F k) wr (by omega) (by omega) (by omega) (by omega) hG HR.out (rowsF_len _ _ _ _ _) (fun i hi => by
        rw [rowsF_len] at hi
        rw [rowsF_at n k cs F k i hi, if_pos hi]
        exact HFL.out i _ (row_len n k cs i HL2.out hi))
      rw [rowsF_flat, HFG.out] at KG
      have HKG : Hid (Calls Tryd.prog 30 #[.slice (some ⟨G2, 0, none⟩) k cap2] wr fun e w' => ∃ v, e = .returned (.agg #[.int .i64 (n : Int), .int .i64 (k : Int), v]) ∧ OwnG w' wr.heap.size v LG ∧ Below wr.heap.size wr w') := KG
      have kW : Below w.heap.size w wr := kN1.trans (hb.mono (by omega))
      have hNw : w.heap.size + 2 < wr.heap.size := blk_lt v2
      clear KG
      go_wp2_with (first
        | (go_at_call 30; refine HKG.out.mono ?_; rintro e W7 ⟨_, rfl, ⟨g7, c7, r7, t7, rfl, hg7, hc7, hm7, h7⟩, b7⟩; have u3' := carry v2 b7)
        | (refine wpList_store_row rfl 24 (.tmp 8) _ rfl (w.heap.size + 2) #[.int .i64 (n : Int), .int .i64 (k : Int), .slice (some ⟨g7, 0, none⟩) LG.length c7] rfl rfl _ _ u3' (by kernel_rfl) rfl (one3v _ _ _ _ _) ?_))
      (try simp only [Exit.inBlock, Exit.then])
      refine bodyPost_ret (v := .agg #[.int .i64 (n : Int), .int .i64 (k : Int), .slice (some ⟨g7, 0, none⟩) LG.length c7]) ?_ rfl ⟨_, rfl, ⟨g7, c7, r7, t7, by rw [HLG.out], by have := kW.size; omega, by rw [HLG.out]; exact hc7, hm7, ?_⟩, below_setRow (kW.trans (b7.mono kW.size)) (by omega) _⟩
      · exact results_cell_row rfl _ _ (w.heap.size + 2) _ _ _ _ rfl (setRow_heap _ _ _ _ _ _ u3') Tryd.underlying24 rfl (by kernel_rfl)
      · rw [setRow_other _ _ _ _ (by omega), HLG.out]
        exact h7
end Grd
end Go.Proofs.YtinhmklpnkikgaaDoor
