/- The reference's Rows. -/
import Derived.Test.YtinhmklpnkikgaaDoorGridRefMend2
import Derived.WalkSmall
import Derived.Maps.AppendAt
namespace Go.Proofs.YtinhmklpnkikgaaDoor
open Go.ChangeShapes Go.WideShapes Go.ChangeAt Go.RowKit Go.Maps
namespace Grd
theorem ownsRow_below {w w' : World} {base : Nat} {e : TypeId} {size : Nat} {v : Value} {n : Nat} {xs : List Value} (h : w.ownsRow base e size v n xs) (hb : Below w.heap.size w w') : w'.ownsRow base e size v n xs := by
  refine ⟨h.1, ?_⟩
  rcases h.2 with h2 | ⟨g, cap, cur, hv, hg, hh, r⟩
  · exact .inl h2
  · exact .inr ⟨g, cap, cur, hv, hg, by rw [hb.block g (Array.getElem?_eq_some_iff.1 hh).1]; exact hh, r⟩
theorem ownsRow_mono {w : World} {base base' : Nat} {e : TypeId} {size : Nat} {v : Value} {n : Nat} {xs : List Value} (h : w.ownsRow base e size v n xs) (hb : base' ≤ base) : w.ownsRow base' e size v n xs := by
  refine ⟨h.1, ?_⟩
  rcases h.2 with h2 | ⟨g, cap, cur, hv, hg, r⟩
  · exact .inl h2
  · exact .inr ⟨g, cap, cur, hv, Nat.le_trans hb hg, r⟩
def nilV : Value := .slice none 0 0
/-- Slices that read as rows, each alone in a block of its own. -/
def RowsAt (w : World) (base : Nat) (vs : List Value) (gs : List Nat) (rows : List (List C)) : Prop :=
  vs.length = rows.length ∧ gs.length = rows.length ∧ gs.Nodup ∧ ∀ i, i < rows.length → base ≤ gs.getD i 0 ∧ RowB w (gs.getD i 0) (vs.getD i nilV) (rows.getD i [])
theorem RowsAt.kept {w w' : World} {base : Nat} {vs : List Value} {gs : List Nat} {rows : List (List C)} (h : RowsAt w base vs gs rows) (hk : ∀ i, i < rows.length → w'.heap[gs.getD i 0]? = w.heap[gs.getD i 0]?) : RowsAt w' base vs gs rows := by
  refine ⟨h.1, h.2.1, h.2.2.1, fun i hi => ?_⟩
  obtain ⟨hb, cap, rest, hv, h1, h2, h3⟩ := h.2.2.2 i hi
  exact ⟨hb, cap, rest, hv, h1, h2, by rw [hk i hi]; exact h3⟩
theorem RowsAt.lt {w : World} {base : Nat} {vs : List Value} {gs : List Nat} {rows : List (List C)} (h : RowsAt w base vs gs rows) (i : Nat) (hi : i < rows.length) : gs.getD i 0 < w.heap.size := by
  obtain ⟨_, cap, rest, hv, h1, h2, h3⟩ := h.2.2.2 i hi
  exact blk_lt h3
theorem RowsAt.below {w w' : World} {base : Nat} {vs : List Value} {gs : List Nat} {rows : List (List C)} (h : RowsAt w base vs gs rows) (hb : Below w.heap.size w w') : RowsAt w' base vs gs rows :=
  h.kept fun i hi => hb.block _ (h.lt i hi)
theorem getD_snoc_lt {α : Type} (l : List α) (x d : α) (i : Nat) (h : i < l.length) : (l ++ [x]).getD i d = l.getD i d := by
  simp [List.getD, List.getElem?_append_left h]
theorem getD_snoc_eq {α : Type} (l : List α) (x d : α) : (l ++ [x]).getD l.length d = x := by simp [List.getD]
theorem RowsAt.snoc {w : World} {base : Nat} {vs : List Value} {gs : List Nat} {rows : List (List C)} (h : RowsAt w base vs gs rows) (g : Nat) (v : Value) (row : List C) (hb : base ≤ g) (hr : RowB w g v row) (hne : ∀ i, i < rows.length → gs.getD i 0 ≠ g) : RowsAt w base (vs ++ [v]) (gs ++ [g]) (rows ++ [row]) := by
  obtain ⟨h1, h2, h3, h4⟩ := h
  refine ⟨by simp [h1], by simp [h2], ?_, fun i hi => ?_⟩
  · rw [List.nodup_append]
    refine ⟨h3, by simp, fun a ha b hb => ?_⟩
    obtain rfl : b = g := by simpa using hb
    obtain ⟨i, hi, rfl⟩ := List.getElem_of_mem ha
    have := hne i (by omega)
    simpa [List.getD, List.getElem?_eq_getElem hi] using this
  · rw [List.length_append, List.length_singleton] at hi
    by_cases hlt : i < rows.length
    · rw [getD_snoc_lt _ _ _ _ (by omega), getD_snoc_lt _ _ _ _ (by omega), getD_snoc_lt _ _ _ _ hlt]
      exact h4 i hlt
    · obtain rfl : i = rows.length := by omega
      have e1 := getD_snoc_eq gs g 0
      have e2 := getD_snoc_eq vs v nilV
      have e3 := getD_snoc_eq rows row []
      rw [h2] at e1
      rw [h1] at e2
      rw [e1, e2, e3]
      exact ⟨hb, hr⟩
/-- An owned row of slices lies in no block of cells. -/
theorem own_ne {w : World} {base : Nat} {v : Value} {n : Nat} {xs : List Value} (h : w.ownsRow base 22 1 v n xs) {g : Nat} {A : Array Value} (hg : w.heap[g]? = some (.cells A 40 (0, 0))) : some g ≠ v.ownBlock := by
  obtain ⟨_, h | ⟨q, cap, cur, rfl, _, hq, _⟩⟩ := h
  · rw [h.1]; simp [Value.ownBlock]
  · intro e
    simp only [Value.ownBlock, Option.some.injEq] at e
    subst e
    rw [hq] at hg
    simp at hg
theorem RowsAt.grown {w w' : World} {base base' : Nat} {vs : List Value} {gs : List Nat} {rows : List (List C)} {v : Value} {n : Nat} {xs : List Value} (h : RowsAt w base vs gs rows) (ho : w.ownsRow base' 22 1 v n xs) (hg : w.grownBy w' v.ownBlock) : RowsAt w' base vs gs rows :=
  h.kept fun i hi => by
    obtain ⟨_, cap, rest, _, _, _, h3⟩ := h.2.2.2 i hi
    exact hg.block _ (blk_lt h3) (own_ne ho h3)
theorem RowB.grown {w w' : World} {base' : Nat} {g : Nat} {u : Value} {row : List C} {v : Value} {n : Nat} {xs : List Value} (h : RowB w g u row) (ho : w.ownsRow base' 22 1 v n xs) (hg : w.grownBy w' v.ownBlock) : RowB w' g u row := by
  obtain ⟨cap, rest, h0, h1, h2, h3⟩ := h
  exact ⟨cap, rest, h0, h1, h2, by rw [hg.block _ (blk_lt h3) (own_ne ho h3)]; exact h3⟩
theorem RowB.one {w : World} {g : Nat} {v : Value} {row : List C} (h : RowB w g v row) : v.oneCell' = true := by
  obtain ⟨cap, rest, rfl, _⟩ := h; rfl
def rowsL (n : Nat) (cs : List C) (k : Nat) : List (List C) := (List.range k).map (rowAt n cs)
theorem rowsL_succ (n : Nat) (cs : List C) (k : Nat) : rowsL n cs (k + 1) = rowsL n cs k ++ [rowAt n cs k] := by simp [rowsL, List.range_succ]
theorem rowsL_len (n : Nat) (cs : List C) (k : Nat) : (rowsL n cs k).length = k := by simp [rowsL]
theorem und_rows : Tryd.prog.underlying 55 = some (.slice 22) := by kernel_rfl
theorem info_cells : (Tryd.prog.info? 22).map (fun i => (i.zero, i.size, i.bytes)) = some (some (.slice none 0 0), 1, 24) := by kernel_rfl
theorem own_from {w : World} {base : Nat} {e : TypeId} {size : Nat} {v : Value} {n : Nat} {xs : List Value} (h : w.ownsRow base e size v n xs) : ∀ k, v.ownBlock = some k → base ≤ k := by
  intro k hk
  obtain ⟨_, h | ⟨q, cap, cur, rfl, hq, _⟩⟩ := h
  · rw [h.1] at hk; simp [Value.ownBlock] at hk
  · simp only [Value.ownBlock, Option.some.injEq] at hk; omega
set_option maxHeartbeats 4000000 in
set_option maxRecDepth 100000 in
theorem rows_any (n hh b o cx : Nat) (cs : List C) (w : World) (hC : CellsAt w b o cs) (hs : isSize n hh = true) (hL : cs.length = n * hh) (hc : cs.length ≤ cx) :
    Calls Tryd.prog 28 #[.agg #[.int .i64 (n : Int), .int .i64 (hh : Int), .slice (some ⟨b, o, none⟩) cs.length cx]] w fun e w' => ∃ v vs gs, e = .returned v ∧ w'.ownsRow w.heap.size 22 1 v hh vs ∧ RowsAt w' w.heap.size vs gs (rowsL n cs hh) ∧ Below w.heap.size w w' := by
  have ⟨p0, p1, p2, p3, p4, p5⟩ := prod_in n hh hs
  have HC : Hid (CellsAt w b o cs) := hC
  have HL : Hid (cs.length = n * hh) := hL
  have hl2 : cs.length ≤ 7200 := by
    have : ((n * hh : Nat) : Int) ≤ 7200 := by rw [Int.natCast_mul]; exact p1
    omega
  obtain ⟨i0, hi, hzz⟩ := Option.map_eq_some_iff.1 info_cells
  simp only [Prod.mk.injEq] at hzz
  obtain ⟨hz0, hz1, hz2⟩ := hzz
  have kk : Below w.heap.size w (w.alloc (.cells #[.int .i64 (n : Int), .int .i64 (hh : Int), .slice (some ⟨b, o, none⟩) cs.length cx] 24)) := (Below.refl _ _).alloc (Nat.le_refl _) _
  have x0 := heap_alloc_new w (.cells #[.int .i64 (n : Int), .int .i64 (hh : Int), .slice (some ⟨b, o, none⟩) cs.length cx] 24)
  clear hC hL p0 p1 hs
  go_enter Tryd.func28, Tryd.ntmps28
  go_wp2_with fail
  go_loopg [3, 4] hh (fun q v y wr => ∃ (k : Nat) (vs : List Value) (gs : List Nat), y = .int .i64 (k : Int) ∧ k ≤ hh ∧ hh - k ≤ q ∧ wr.ownsRow (w.heap.size + 1) 22 1 v k vs ∧ RowsAt wr (w.heap.size + 1) vs gs (rowsL n cs k) ∧ Below w.heap.size w wr ∧ wr.heap[w.heap.size]? = some (.cells #[.int .i64 (n : Int), .int .i64 (hh : Int), .slice (some ⟨b, o, none⟩) cs.length cx] 24 (0, 0)))
  case atStart => exact ⟨0, [], [], rfl, by omega, by omega, World.ownsRow_nil _ _ _ _, ⟨rfl, rfl, List.nodup_nil, fun i hi => absurd hi (by simp [rowsL])⟩, kk, x0⟩
  case round =>
    clear kk x0
    obtain ⟨k, vs, gs, rfl, hk, hq, hown, hrows, hb, hv⟩ := hrel
    have ⟨c0, c1, c2, _⟩ := cells3 hv
    have HO : Hid (wr.ownsRow (w.heap.size + 1) 22 1 _ k vs) := hown
    have HRS : Hid (RowsAt wr (w.heap.size + 1) vs gs (rowsL n cs k)) := hrows
    clear hown hrows
    by_cases hlt : k < hh
    · have lt1 : ((k : Int) < (hh : Int)) := by omega
      have hfit := row_fits n hh _ k HL.out hlt
      have hrl := row_len n hh cs k HL.out hlt
      obtain ⟨p, hp⟩ : ∃ p, p = k * n := ⟨_, rfl⟩
      have hq2 : (k + 1) * n = p + n := by rw [hp, Nat.add_mul, Nat.one_mul]
      rw [hq2] at hfit
      have e1 : (k : Int) * (n : Int) = (p : Int) := by rw [hp]; simp
      have e2 : ((k : Int) + 1) * (n : Int) = ((p + n : Nat) : Int) := by rw [← hq2]; simp
      have e3 : p + n - p = n := by omega
      have HCL : Hid (∀ c, Calls Tryd.prog 39 #[.slice (some ⟨b, o + p * 4, none⟩) n c] wr fun e w' => ∃ v' g, e = .returned v' ∧ wr.heap.size ≤ g ∧ RowB w' g v' (rowAt n cs k) ∧ Below wr.heap.size wr w') := fun c => by
        have hpt := (HC.out.below hb).part (k * n) n (by rw [← hp]; omega)
        have := clone_row b (o + k * n * 4) c (rowAt n cs k) wr hpt (by rw [hrl]; omega)
        rw [hrl] at this
        rw [hp]
        exact this
      clear hrl hq2 hp
      go_wp2_with (first
        | (go_at_call 39; rw [e3]; refine (HCL.out _).mono ?_; rintro e W2 ⟨v2, g2, rfl, hg2, hr2, b2⟩
           have HR2 : Hid (RowB W2 g2 v2 (rowAt n cs k)) := hr2
           obtain ⟨cap2, _, rfl, _⟩ := hr2
           have hown2 : W2.ownsRow (w.heap.size + 1) 22 1 _ k vs := ownsRow_below HO.out b2)
        | (at_builtin; refine wpList_append_own _ rfl _ _ 55 rfl (w.heap.size + 1) 22 i0 (.slice none 0 0) 1 24 und_rows hi hz0 hz1 hz2 rfl (by decide) _ _ _ rfl (hown2.alloc _) ⟨W2.heap.size, 0, none⟩ 1 1 [.slice (some ⟨g2, 0, none⟩) (rowAt n cs k).length cap2] rfl rfl (cell_one_new _ _ _) (by intro u hu; simp at hu; rw [hu]; rfl) (by unfold maxLen; omega) (by omega) (by have := hb.size; have := b2.size; have := blk_lt hv; simp; omega) ?_
           intro v3 W3 hown3 hgrow hnil))
      have kZ : Below W2.heap.size W2 (W2.alloc (.cells #[.slice (some ⟨g2, 0, none⟩) (rowAt n cs k).length cap2] 22)) := (Below.refl _ _).alloc (Nat.le_refl _) _
      have hfrom := own_from HO.out
      have kb2 := hb.trans (b2.mono hb.size)
      have hN := blk_lt hv
      have hN2 := b2.size
      go_roundg (hh - (k + 1))
      case measure => omega
      case rel =>
        refine ⟨k + 1, vs ++ [.slice (some ⟨g2, 0, none⟩) (rowAt n cs k).length cap2], gs ++ [g2], rfl, by omega, by omega, hown3, ?_, ?_, ?_⟩
        · rw [rowsL_succ]
          refine ((((HRS.out.below b2).below kZ).grown (hown2.alloc _) hgrow)).snoc g2 _ _ (by omega) ((HR2.out.below kZ).grown (hown2.alloc _) hgrow) (fun i hi => ?_)
          have := HRS.out.lt i hi
          omega
        · exact (kb2.alloc kb2.size _).grown hgrow (by simp; omega) (fun q hq => by have := hfrom q hq; omega)
        · rw [hgrow.block _ (by simp; omega) (fun e => by have := hfrom _ e.symm; omega)]
          exact carry (carry hv b2) kZ
    · have lt1 : ¬ ((k : Int) < (hh : Int)) := by omega
      have hkh : k = hh := by omega
      subst hkh
      go_wp2_with fail
      go_ret
      exact ⟨_, rfl, vs, ownsRow_mono HO.out (by omega), ⟨gs, ⟨HRS.out.1, HRS.out.2.1, HRS.out.2.2.1, fun i hi => ⟨by have := (HRS.out.2.2.2 i hi).1; omega, (HRS.out.2.2.2 i hi).2⟩⟩⟩, hb⟩
end Grd
end Go.Proofs.YtinhmklpnkikgaaDoor
