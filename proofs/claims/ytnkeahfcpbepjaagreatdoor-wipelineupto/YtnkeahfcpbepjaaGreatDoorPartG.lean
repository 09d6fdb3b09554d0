/- The reference's Rows. -/
import Derived.Test.YtnkeahfcpbepjaaGreatDoorPartF
import Derived.WalkSmall
import Derived.Maps.AppendAt
import Derived.BigFrame
namespace Go.Proofs.YtnkeahfcpbepjaaGreatDoor
open Go.ChangeShapes Go.WideShapes Go.ChangeAt Go.RowKit Go.Maps
namespace Grd
theorem ownsRow_below {w w' : World} {base : Nat} {e : TypeId} {size : Nat} {v : Value} {n : Nat} {xs : List Value} (h : w.ownsRow base e size v n xs) (hb : Below w.heap.size w w') : w'.ownsRow base e size v n xs := by
  refine ⟨h.1, ?_⟩
  rcases h.2 with h2 | ⟨g, cap, cur, hv, hg, hh, r⟩
  · exact .inl h2
  · exact .inr ⟨g, cap, cur, hv, hg, by rw [hb.block g (Array.getElem?_eq_some_iff.1 hh).1]; exact hh, r⟩
theorem ownsRow_mono {w : World} {base base' : Nat} {e : TypeId} {size : Nat} {v : Value} {n : Nat} {xs : List Value} (h : w.ownsRow base e size v n xs) (hb : base' ≤ base) : w.ownsRow base' e size v n xs := by
  refine ⟨h.1, ?_⟩
  rcases h.2 with h2 | ⟨g, cap, cur, hv, hg, r⟩
  · exact .inl h2
  · exact .inr ⟨g, cap, cur, hv, Nat.le_trans hb hg, r⟩
def nilV : Value := .slice none 0 0
/-- Slices that read as rows, each alone in a block of its own. -/
def RowsAt (w : World) (base : Nat) (vs : List Value) (gs : List Nat) (rows : List (List C)) : Prop :=
  vs.length = rows.length ∧ gs.length = rows.length ∧ gs.Nodup ∧ ∀ i, i < rows.length → base ≤ gs.getD i 0 ∧ RowB w (gs.getD i 0) (vs.getD i nilV) (rows.getD i [])
theorem RowsAt.kept {w w' : World} {base : Nat} {vs : List Value} {gs : List Nat} {rows : List (List C)} (h : RowsAt w base vs gs rows) (hk : ∀ i, i < rows.length → w'.heap[gs.getD i 0]? = w.heap[gs.getD i 0]?) : RowsAt w' base vs gs rows := by
  refine ⟨h.1, h.2.1, h.2.2.1, fun i hi => ?_⟩
  obtain ⟨hb, cap, rest, hv, h1, h2, h3⟩ := h.2.2.2 i hi
  exact ⟨hb, cap, rest, hv, h1, h2, by rw [hk i hi]; exact h3⟩
theorem RowsAt.lt {w : World} {base : Nat} {vs : List Value} {gs : List Nat} {rows : List (List C)} (h : RowsAt w base vs gs rows) (i : Nat) (hi : i < rows.length) : gs.getD i 0 < w.heap.size := by
  obtain ⟨_, cap, rest, hv, h1, h2, h3⟩ := h.2.2.2 i hi
  exact blk_lt h3
theorem RowsAt.below {w w' : World} {base : Nat} {vs : List Value} {gs : List Nat} {rows : List (List C)} (h : RowsAt w base vs gs rows) (hb : Below w.heap.size w w') : RowsAt w' base vs gs rows :=
  h.kept fun i hi => hb.block _ (h.lt i hi)
theorem getD_snoc_lt {α : Type} (l : List α) (x d : α) (i : Nat) (h : i < l.length) : (l ++ [x]).getD i d = l.getD i d := by
  simp [List.getD, List.getElem?_append_left h]
theorem getD_snoc_eq {α : Type} (l : List α) (x d : α) : (l ++ [x]).getD l.length d = x := by simp [List.getD]
theorem RowsAt.snoc {w : World} {base : Nat} {vs : List Value} {gs : List Nat} {rows : List (List C)} (h : RowsAt w base vs gs rows) (g : Nat) (v : Value) (row : List C) (hb : base ≤ g) (hr : RowB w g v row) (hne : ∀ i, i < rows.length → gs.getD i 0 ≠ g) : RowsAt w base (vs ++ [v]) (gs ++ [g]) (rows ++ [row]) := by
  obtain ⟨h1, h2, h3, h4⟩ := h
  refine ⟨by simp [h1], by simp [h2], ?_, fun i hi => ?_⟩
  · rw [List.nodup_append]
    refine ⟨h3, by simp, fun a ha b hb => ?_⟩
    obtain rfl : b = g := by simpa using hb
    obtain ⟨i, hi, rfl⟩ := List.getElem_of_mem ha
    have := hne i (by omega)
    simpa [List.getD, List.getElem?_eq_getElem hi] using this
  · rw [List.length_append, List.length_singleton] at hi
    by_cases hlt : i < rows.length
    · rw [getD_snoc_lt _ _ _ _ (by omega), getD_snoc_lt _ _ _ _ (by omega), getD_snoc_lt _ _ _ _ hlt]
      exact h4 i hlt
    · obtain rfl : i = rows.length := by omega
      have e1 := getD_snoc_eq gs g 0
      have e2 := getD_snoc_eq vs v nilV
      have e3 := getD_snoc_eq rows row []
      rw [h2] at e1
      rw [h1] at e2
      rw [e1, e2, e3]
      exact ⟨hb, hr⟩
/-- An owned row of slices lies in no block of cells. -/
theorem own_ne {w : World} {base : Nat} {v : Value} {n : Nat} {xs : List Value} (h : w.ownsRow base 22 1 v n xs) {g : Nat} {A : Array Value} (hg : w.heap[g]? = some (.cells A 91 (0, 0))) : some g ≠ v.ownBlock := by
  obtain ⟨_, h | ⟨q, cap, cur, rfl, _, hq, _⟩⟩ := h
  · rw [h.1]; simp [Value.ownBlock]
  · intro e
    simp only [Value.ownBlock, Option.some.injEq] at e
    subst e
    rw [hq] at hg
    simp at hg
theorem RowsAt.grown {w w' : World} {base base' : Nat} {vs : List Value} {gs : List Nat} {rows : List (List C)} {v : Value} {n : Nat} {xs : List Value} (h : RowsAt w base vs gs rows) (ho : w.ownsRow base' 22 1 v n xs) (hg : w.grownBy w' v.ownBlock) : RowsAt w' base vs gs rows :=
  h.kept fun i hi => by
    obtain ⟨_, cap, rest, _, _, _, h3⟩ := h.2.2.2 i hi
    exact hg.block _ (blk_lt h3) (own_ne ho h3)
theorem RowB.grown {w w' : World} {base' : Nat} {g : Nat} {u : Value} {row : List C} {v : Value} {n : Nat} {xs : List Value} (h : RowB w g u row) (ho : w.ownsRow base' 22 1 v n xs) (hg : w.grownBy w' v.ownBlock) : RowB w' g u row := by
  obtain ⟨cap, rest, h0, h1, h2, h3⟩ := h
  exact ⟨cap, rest, h0, h1, h2, by rw [hg.block _ (blk_lt h3) (own_ne ho h3)]; exact h3⟩
theorem RowB.one {w : World} {g : Nat} {v : Value} {row : List C} (h : RowB w g v row) : v.oneCell' = true := by
  obtain ⟨cap, rest, rfl, _⟩ := h; rfl
def rowsL (n : Nat) (cs : List C) (k : Nat) : List (List C) := (List.range k).map (rowAt n cs)
theorem rowsL_succ (n : Nat) (cs : List C) (k : Nat) : rowsL n cs (k + 1) = rowsL n cs k ++ [rowAt n cs k] := by simp [rowsL, List.range_succ]
theorem rowsL_len (n : Nat) (cs : List C) (k : Nat) : (rowsL n cs k).length = k := by simp [rowsL]
theorem und_rows : Tryz.prog.underlying 30 = some (.slice 22) := by kernel_rfl
theorem info_cells : (Tryz.prog.info? 22).map (fun i => (i.zero, i.size, i.bytes)) = some (some (.slice none 0 0), 1, 24) := by kernel_rfl
theorem own_from {w : World} {base : Nat} {e : TypeId} {size : Nat} {v : Value} {n : Nat} {xs : List Value} (h : w.ownsRow base e size v n xs) : ∀ k, v.ownBlock = some k → base ≤ k := by
  intro k hk
  obtain ⟨_, h | ⟨q, cap, cur, rfl, hq, _⟩⟩ := h
  · rw [h.1] at hk; simp [Value.ownBlock] at hk
  · simp only [Value.ownBlock, Option.some.injEq] at hk; omega
set_option maxHeartbeats 4000000 in
set_option maxRecDepth 100000 in
theorem rows_any (n hh b o cx : Nat) (cs : List C) (w : World) (hC : CellsAt w b o cs) (hs : isSize n hh = true) (hL : cs.length = n * hh) (hc : cs.length ≤ cx) :
    Calls Tryz.prog 125 #[.agg #[.int .i64 (n : Int), .int .i64 (hh : Int), .slice (some ⟨b, o, none⟩) cs.length cx]] w fun e w' => ∃ v vs gs, e = .returned v ∧ w'.ownsRow w.heap.size 22 1 v hh vs ∧ RowsAt w' w.heap.size vs gs (rowsL n cs hh) ∧ Below w.heap.size w w' := by
  have ⟨p0, p1, p2, p3, p4, p5⟩ := prod_in n hh hs
  have HC : Hid (CellsAt w b o cs) := hC
  have HL : Hid (cs.length = n * hh) := hL
  have hl2 : cs.length ≤ 7200 := by
    have : ((n * hh : Nat) : Int) ≤ 7200 := by rw [Int.natCast_mul]; exact p1
    omega
  obtain ⟨i0, hi, hzz⟩ := Option.map_eq_some_iff.1 info_cells
  simp only [Prod.mk.injEq] at hzz
  obtain ⟨hz0, hz1, hz2⟩ := hzz
  have kk : Below w.heap.size w (w.alloc (.cells #[.int .i64 (n : Int), .int .i64 (hh : Int), .slice (some ⟨b, o, none⟩) cs.length cx] 24)) := (Below.refl _ _).alloc (Nat.le_refl _) _
  have x0 := heap_alloc_new w (.cells #[.int .i64 (n : Int), .int .i64 (hh : Int), .slice (some ⟨b, o, none⟩) cs.length cx] 24)
  clear hC hL p0 p1 hs
  go_enter Tryz.func125, Tryz.ntmps125
  go_wp2_with fail
  go_loopg [3, 4] hh (fun q v y wr => ∃ (k : Nat) (vs : List Value) (gs : List Nat), y = .int .i64 (k : Int) ∧ k ≤ hh ∧ hh - k ≤ q ∧ wr.ownsRow (w.heap.size + 1) 22 1 v k vs ∧ RowsAt wr (w.heap.size + 1) vs gs (rowsL n cs k) ∧ Below w.heap.size w wr ∧ wr.heap[w.heap.size]? = some (.cells #[.int .i64 (n : Int), .int .i64 (hh : Int), .slice (some ⟨b, o, none⟩) cs.length cx] 24 (0, 0)))
  case atStart => exact ⟨0, [], [], rfl, by omega, by omega, World.ownsRow_nil _ _ _ _, ⟨rfl, rfl, List.nodup_nil, fun i hi => absurd hi (by simp [rowsL])⟩, kk, x0⟩
  case round =>
    clear kk x0
    obtain ⟨k, vs, gs, rfl, hk, hq, hown, hrows, hb, hv⟩ := hrel
    have ⟨c0, c1, c2, _⟩ := cells3 hv
    have HO : Hid (wr.ownsRow (w.heap.size + 1) 22 1 _ k vs) := hown
    have HRS : Hid (RowsAt wr (w.heap.size + 1) vs gs (rowsL n cs k)) := hrows
    clear hown hrows
    by_cases hlt : k < hh
    · have lt1 : ((k : Int) < (hh : Int)) := by omega
      have hfit := row_fits n hh _ k HL.out hlt
      have hrl := row_len n hh cs k HL.out hlt
      obtain ⟨p, hp⟩ : ∃ p, p = k * n := ⟨_, rfl⟩
      have hq2 : (k + 1) * n = p + n := by rw [hp, Nat.add_mul, Nat.one_mul]
      rw [hq2] at hfit
      have e1 : (k : Int) * (n : Int) = (p : Int) := by rw [hp]; simp
      have e2 : ((k : Int) + 1) * (n : Int) = ((p + n : Nat) : Int) := by rw [← hq2]; simp
      have e3 : p + n - p = n := by omega
      have HCL : Hid (∀ c, Calls Tryz.prog 115 #[.slice (some ⟨b, o + p * 4, none⟩) n c] wr fun e w' => ∃ v' g, e = .returned v' ∧ wr.heap.size ≤ g ∧ RowB w' g v' (rowAt n cs k) ∧ Below wr.heap.size wr w') := fun c => by
        have hpt := (HC.out.below hb).part (k * n) n (by rw [← hp]; omega)
        have := clone_row b (o + k * n * 4) c (rowAt n cs k) wr hpt (by rw [hrl]; omega)
        rw [hrl] at this
        rw [hp]
        exact this
      clear hrl hq2 hp
      go_wp2_with (first
        | (go_at_call 115; rw [e3]; refine (HCL.out _).mono ?_; rintro e W2 ⟨v2, g2, rfl, hg2, hr2, b2⟩
           have HR2 : Hid (RowB W2 g2 v2 (rowAt n cs k)) := hr2
           obtain ⟨cap2, _, rfl, _⟩ := hr2
           have hown2 : W2.ownsRow (w.heap.size + 1) 22 1 _ k vs := ownsRow_below HO.out b2)
        | (at_builtin; refine wpList_append_own _ rfl _ _ 30 rfl (w.heap.size + 1) 22 i0 (.slice none 0 0) 1 24 und_rows hi hz0 hz1 hz2 rfl (by decide) _ _ _ rfl (hown2.alloc _) ⟨W2.heap.size, 0, none⟩ 1 1 [.slice (some ⟨g2, 0, none⟩) (rowAt n cs k).length cap2] rfl rfl (cell_one_new _ _ _) (by intro u hu; simp at hu; rw [hu]; rfl) (by unfold maxLen; omega) (by omega) (by have := hb.size; have := b2.size; have := blk_lt hv; simp; omega) ?_
           intro v3 W3 hown3 hgrow hnil))
      have kZ : Below W2.heap.size W2 (W2.alloc (.cells #[.slice (some ⟨g2, 0, none⟩) (rowAt n cs k).length cap2] 22)) := (Below.refl _ _).alloc (Nat.le_refl _) _
      have hfrom := own_from HO.out
      have kb2 := hb.trans (b2.mono hb.size)
      have hN := blk_lt hv
      have hN2 := b2.size
      go_roundg (hh - (k + 1))
      case measure => omega
      case rel =>
        refine ⟨k + 1, vs ++ [.slice (some ⟨g2, 0, none⟩) (rowAt n cs k).length cap2], gs ++ [g2], rfl, by omega, by omega, hown3, ?_, ?_, ?_⟩
        · rw [rowsL_succ]
          refine ((((HRS.out.below b2).below kZ).grown (hown2.alloc _) hgrow)).snoc g2 _ _ (by omega) ((HR2.out.below kZ).grown (hown2.alloc _) hgrow) (fun i hi => ?_)
          have := HRS.out.lt i hi
          omega
        · exact (kb2.alloc kb2.size _).grown hgrow (by simp; omega) (fun q hq => by have := hfrom q hq; omega)
        · rw [hgrow.block _ (by simp; omega) (fun e => by have := hfrom _ e.symm; omega)]
          exact carry (carry hv b2) kZ
    · have lt1 : ¬ ((k : Int) < (hh : Int)) := by omega
      have hkh : k = hh := by omega
      subst hkh
      go_wp2_with fail
      go_ret
      exact ⟨_, rfl, vs, ownsRow_mono HO.out (by omega), ⟨gs, ⟨HRS.out.1, HRS.out.2.1, HRS.out.2.2.1, fun i hi => ⟨by have := (HRS.out.2.2.2 i hi).1; omega, (HRS.out.2.2.2 i hi).2⟩⟩⟩, hb⟩
end Grd
end Go.Proofs.YtnkeahfcpbepjaaGreatDoor

/- slices.Clone of tabs and of rows: in memory of their own. -/
namespace Go.Proofs.YtnkeahfcpbepjaaGreatDoor
open Go.ChangeShapes Go.WideShapes Go.ChangeAt Go.RowKit
namespace Put
open Grd (C SliceAt CellsAt gridErr z0 nilV)
theorem und_bools : Tryz.prog.underlying 27 = some (.slice 4) := by kernel_rfl
theorem info_bool : (Tryz.prog.info? 4).map (fun i => (i.zero, i.size, i.bytes)) = some (some (.bool false), 1, 1) := by kernel_rfl
theorem bools_len (l : List Bool) : (l.map Value.bool).length = l.length * 1 := by simp
theorem bools_one (l : List Bool) : ∀ u ∈ l.map Value.bool, u.oneCell' = true := by
  intro u hu
  obtain ⟨b, _, rfl⟩ := List.mem_map.1 hu
  rfl
theorem bools_src {w : World} {b o : Nat} {l : List Bool} (h : ∀ j, j < l.length → w.cell? ⟨b, o + j, none⟩ = some (.bool (l.getD j false))) : ∀ j u, (l.map Value.bool)[j]? = some u → w.cell? ((⟨b, o, none⟩ : Addr).add j) = some u := by
  intro j u hj
  have hlt := (List.getElem?_eq_some_iff.1 hj).1
  rw [List.length_map] at hlt
  have h1 := h j hlt
  rw [List.getElem?_map, List.getElem?_eq_getElem hlt] at hj
  rw [add_plain, h1, ← hj]
  simp [List.getD, List.getElem?_eq_getElem hlt]
set_option maxHeartbeats 1000000 in
theorem cloneBools_any (v : Value) (l : List Bool) (w : World) (hV : BoolsV w v l) (hl : l.length ≤ 1048576) :
    Calls Tryz.prog 116 #[v] w fun e w' => ∃ v', e = .returned v' ∧ w'.ownsRow w.heap.size 4 1 v' l.length (l.map Value.bool) ∧ Below w.heap.size w w' := by
  obtain ⟨i0, hi, hzz⟩ := Option.map_eq_some_iff.1 info_bool
  simp only [Prod.mk.injEq] at hzz
  obtain ⟨hz0, hz1, hz2⟩ := hzz
  have qn : ∀ (w : World) (a : Option Addr) (n c n' c' : Nat), (binOp .eql 27 (.slice a n c) (.slice none n' c')).run Tryz.prog w = .ok (.bool a.isNone) w := fun w a n c n' c' => Lib.run_eql_slice_nil w _ _ a n c n' c' und_bools
  have kb : Below w.heap.size w (w.alloc (.cells #[] 4)) := (Below.refl _ _).alloc (Nat.le_refl _) _
  have HF : Hid ((l.map Value.bool).length = l.length * 1) := bools_len l
  have HO : Hid (∀ u ∈ l.map Value.bool, u.oneCell' = true) := bools_one l
  rcases hV with ⟨rfl, p, c, rfl⟩ | ⟨b, o, c, rfl, hc, hm, hC⟩
  · cases p with
    | none =>
      go_enter Tryz.func116, Tryz.ntmps116
      go_wp2_with fail
      go_ret
      exact ⟨_, rfl, World.ownsRow_nil _ _ _ _, Below.refl _ _⟩
    | some ad =>
      go_enter Tryz.func116, Tryz.ntmps116
      go_wp2_with (at_builtin; refine wpList_append_own _ rfl _ _ 27 rfl w.heap.size 4 i0 (.bool false) 1 1 und_bools hi hz0 hz1 hz2 rfl (by decide) _ _ _ rfl (World.ownsRow_made w #[] 0 (Nat.le_refl _) (Nat.zero_le _) rfl) ad 0 c [] rfl rfl (by simp) (by simp) (by unfold maxLen; omega) (by omega) (by simp) ?_)
      intro v' w1 hown hgrow hnil
      go_wp2_with fail
      go_ret
      exact ⟨v', rfl, hown, ((Below.refl _ w).alloc (Nat.le_refl _) _).grown hgrow (by simp) (by intro k hk; simp [Value.ownBlock] at hk; omega)⟩
  · have HS : Hid (∀ j u, (l.map Value.bool)[j]? = some u → (w.alloc (.cells #[] 4)).cell? ((⟨b, o, none⟩ : Addr).add j) = some u) := bools_src (fun j hj => cell_stay kb (hC j hj))
    clear hC
    go_enter Tryz.func116, Tryz.ntmps116
    go_wp2_with (at_builtin; refine wpList_append_own _ rfl _ _ 27 rfl w.heap.size 4 i0 (.bool false) 1 1 und_bools hi hz0 hz1 hz2 rfl (by decide) _ _ _ rfl (World.ownsRow_made w #[] 0 (Nat.le_refl _) (Nat.zero_le _) rfl) ⟨b, o, none⟩ l.length c (l.map Value.bool) rfl HF.out HS.out HO.out ?qc4 ?qc5 ?qc6 ?_)
    case qc4 => unfold maxLen; omega
    case qc5 => omega
    case qc6 => simp
    intro v' w1 hown hgrow hnil
    go_wp2_with fail
    go_ret
    refine ⟨v', rfl, ?_, ((Below.refl _ w).alloc (Nat.le_refl _) _).grown hgrow (by simp) (by intro k hk; simp [Value.ownBlock] at hk; omega)⟩
    simpa using hown
/- Rows: a slice of slices of cells. -/
theorem und_rows : Tryz.prog.underlying 30 = some (.slice 22) := by kernel_rfl
theorem info_rows : (Tryz.prog.info? 22).map (fun i => (i.zero, i.size, i.bytes)) = some (some (.slice none 0 0), 1, 24) := by kernel_rfl
/-- The values of rows, each a slice of its cells. -/
def RowsL (W : World) (vs : List Value) (rows : List (List C)) : Prop := vs.length = rows.length ∧ ∀ i, i < rows.length → SliceAt W (vs.getD i nilV) (rows.getD i [])
theorem RowsL.next {W W' : World} {vs : List Value} {rows : List (List C)} (h : RowsL W vs rows) (hb : Below W.heap.size W W') : RowsL W' vs rows := ⟨h.1, fun i hi => (h.2 i hi).below hb⟩
theorem rowsV_list {w : World} {b o : Nat} : ∀ {l : List (List C)}, (∀ j, j < l.length → ∃ rv, w.cell? ⟨b, o + j, none⟩ = some rv ∧ SliceAt w rv (l.getD j [])) → ∃ vs : List Value, RowsL w vs l ∧ ∀ j, j < l.length → w.cell? ⟨b, o + j, none⟩ = some (vs.getD j nilV) := by
  intro l h
  refine ⟨(List.range l.length).map fun j => (w.cell? ⟨b, o + j, none⟩).getD nilV, ⟨by simp, fun i hi => ?_⟩, fun j hj => ?_⟩
  · obtain ⟨rv, h1, h2⟩ := h i hi
    have e : ((List.range l.length).map fun j => (w.cell? ⟨b, o + j, none⟩).getD nilV).getD i nilV = rv := by
      simp [List.getD, hi, h1]
    rw [e]
    exact h2
  · obtain ⟨rv, h1, h2⟩ := h j hj
    have e : ((List.range l.length).map fun j => (w.cell? ⟨b, o + j, none⟩).getD nilV).getD j nilV = rv := by
      simp [List.getD, hj, h1]
    rw [e, h1]
theorem SliceAt.one {w : World} {v : Value} {cs : List C} (h : SliceAt w v cs) : v.oneCell' = true := by
  obtain ⟨a, c, rfl⟩ := h.shape
  rfl
theorem RowsL.one {W : World} {vs : List Value} {rows : List (List C)} (h : RowsL W vs rows) : ∀ u ∈ vs, u.oneCell' = true := by
  intro u hu
  obtain ⟨i, hi, rfl⟩ := List.mem_iff_getElem.1 hu
  have := h.2 i (by rw [← h.1]; exact hi)
  have e : vs.getD i nilV = vs[i] := by simp [List.getD, hi]
  rw [e] at this
  exact SliceAt.one this
theorem rows_src {w : World} {b o : Nat} {vs : List Value} (h : ∀ j, j < vs.length → w.cell? ⟨b, o + j, none⟩ = some (vs.getD j nilV)) : ∀ j u, vs[j]? = some u → w.cell? ((⟨b, o, none⟩ : Addr).add j) = some u := by
  intro j u hj
  have hlt := (List.getElem?_eq_some_iff.1 hj).1
  have h1 := h j hlt
  rw [add_plain, h1]
  simp [List.getD, hj]
set_option maxHeartbeats 1000000 in
theorem cloneRows_any (v : Value) (l : List (List C)) (w : World) (hV : RowsV w v l) (hl : l.length ≤ 1048576) :
    Calls Tryz.prog 126 #[v] w fun e w' => ∃ v' vs, e = .returned v' ∧ w'.ownsRow w.heap.size 22 1 v' l.length vs ∧ RowsL w vs l ∧ (∀ w0, Below w0.heap.size w0 w → RowsV w0 v l → RowsL w0 vs l) ∧ Below w.heap.size w w' := by
  obtain ⟨i0, hi, hzz⟩ := Option.map_eq_some_iff.1 info_rows
  simp only [Prod.mk.injEq] at hzz
  obtain ⟨hz0, hz1, hz2⟩ := hzz
  have qn : ∀ (w : World) (a : Option Addr) (n c n' c' : Nat), (binOp .eql 30 (.slice a n c) (.slice none n' c')).run Tryz.prog w = .ok (.bool a.isNone) w := fun w a n c n' c' => Lib.run_eql_slice_nil w _ _ a n c n' c' und_rows
  have kb : Below w.heap.size w (w.alloc (.cells #[] 22)) := (Below.refl _ _).alloc (Nat.le_refl _) _
  rcases hV with ⟨rfl, p, c, rfl⟩ | ⟨b, o, c, rfl, hc, hm, hC⟩
  · cases p with
    | none =>
      go_enter Tryz.func126, Tryz.ntmps126
      go_wp2_with fail
      go_ret
      exact ⟨_, [], rfl, World.ownsRow_nil _ _ _ _, ⟨rfl, fun i hi => absurd hi (by simp)⟩, fun _ _ _ => ⟨rfl, fun i hi => absurd hi (by simp)⟩, Below.refl _ _⟩
    | some ad =>
      go_enter Tryz.func126, Tryz.ntmps126
      go_wp2_with (at_builtin; refine wpList_append_own _ rfl _ _ 30 rfl w.heap.size 22 i0 (.slice none 0 0) 1 24 und_rows hi hz0 hz1 hz2 rfl (by decide) _ _ _ rfl (World.ownsRow_made w #[] 0 (Nat.le_refl _) (Nat.zero_le _) rfl) ad 0 c [] rfl rfl (by simp) (by simp) (by unfold maxLen; omega) (by omega) (by simp) ?_)
      intro v' w1 hown hgrow hnil
      go_wp2_with fail
      go_ret
      exact ⟨v', [], rfl, hown, ⟨rfl, fun i hi => absurd hi (by simp)⟩, fun _ _ _ => ⟨rfl, fun i hi => absurd hi (by simp)⟩, ((Below.refl _ w).alloc (Nat.le_refl _) _).grown hgrow (by simp) (by intro k hk; simp [Value.ownBlock] at hk; omega)⟩
  · obtain ⟨vs, hvs, hcs⟩ := rowsV_list hC
    have HVS : Hid (RowsL w vs l) := hvs
    have HF : Hid (vs.length = l.length * 1) := by rw [Nat.mul_one]; exact hvs.1
    have HO : Hid (∀ u ∈ vs, u.oneCell' = true) := hvs.one
    have HS : Hid (∀ j u, vs[j]? = some u → (w.alloc (.cells #[] 22)).cell? ((⟨b, o, none⟩ : Addr).add j) = some u) := rows_src (fun j hj => cell_stay kb (hcs j (by rw [← hvs.1]; exact hj)))
    have HW0 : Hid (∀ w0, Below w0.heap.size w0 w → RowsV w0 (.slice (some ⟨b, o, none⟩) l.length c) l → RowsL w0 vs l) := fun w0 hb0 hv0 => by
      refine ⟨hvs.1, fun i hi => ?_⟩
      rcases hv0 with ⟨he, -⟩ | ⟨b', o', c', hv', -, -, hC'⟩
      · rw [he] at hi
        exact absurd hi (by simp)
      injection hv' with hv1 hv2 hv3
      injection hv1 with hv1
      injection hv1 with hb' ho' _
      obtain ⟨rv, h1, h2⟩ := hC' i hi
      rw [← hb', ← ho'] at h1
      have h3 := (cell_stay hb0 h1).symm.trans (hcs i hi)
      injection h3 with h3
      rw [← h3]
      exact h2
    clear hC hcs hvs
    go_enter Tryz.func126, Tryz.ntmps126
    go_wp2_with (at_builtin; refine wpList_append_own _ rfl _ _ 30 rfl w.heap.size 22 i0 (.slice none 0 0) 1 24 und_rows hi hz0 hz1 hz2 rfl (by decide) _ _ _ rfl (World.ownsRow_made w #[] 0 (Nat.le_refl _) (Nat.zero_le _) rfl) ⟨b, o, none⟩ l.length c vs rfl HF.out HS.out HO.out ?qc4 ?qc5 ?qc6 ?_)
    case qc4 => unfold maxLen; omega
    case qc5 => omega
    case qc6 => simp
    intro v' w1 hown hgrow hnil
    go_wp2_with fail
    go_ret
    refine ⟨v', vs, rfl, ?_, HVS.out, HW0.out, ((Below.refl _ w).alloc (Nat.le_refl _) _).grown hgrow (by simp) (by intro k hk; simp [Value.ownBlock] at hk; omega)⟩
    simpa using hown
end Put
end Go.Proofs.YtnkeahfcpbepjaaGreatDoor

/- Modes: their bits. -/
namespace Go.Proofs.YtnkeahfcpbepjaaGreatDoor
open Go.ChangeShapes Go.WideShapes Go.ChangeAt Go.RowKit
namespace Put
theorem wrap_toNat (x : BitVec 64) : IntKind.i64.wrap (x.toNat : Int) = 0 ↔ x = 0 := by
  rw [IntKind.wrap_i64]
  have := x.isLt
  constructor
  · intro h
    apply BitVec.eq_of_toNat_eq
    simp
    omega
  · rintro rfl
    decide
theorem andNot_zero (m c : Int) : bits .andNot .i64 m c = 0 ↔ BitVec.ofInt 64 m &&& ~~~ (BitVec.ofInt 64 c) = 0 := by
  show IntKind.i64.wrap ((BitVec.ofInt 64 m &&& ~~~ (BitVec.ofInt 64 c)).toNat : Int) = 0 ↔ _
  exact wrap_toNat _
theorem and_zero (m c : Int) : bits .and .i64 m c = 0 ↔ BitVec.ofInt 64 m &&& BitVec.ofInt 64 c = 0 := by
  show IntKind.i64.wrap ((BitVec.ofInt 64 m &&& BitVec.ofInt 64 c).toNat : Int) = 0 ↔ _
  exact wrap_toNat _
theorem high_zero (x : BitVec 64) : x &&& ~~~ (63#64) = 0 ↔ x.toNat < 64 := by
  constructor
  · intro h
    have h1 : x >>> 6 = 0 := by
      apply BitVec.eq_of_getLsbD_eq
      intro i hi
      have h2 := congrArg (fun y => BitVec.getLsbD y (6 + i)) h
      simp only [BitVec.getLsbD_and, BitVec.getLsbD_not, BitVec.getLsbD_ushiftRight] at h2 ⊢
      have h3 : (63#64).getLsbD (6 + i) = false := by
        rw [BitVec.getLsbD_ofNat]
        have : Nat.testBit 63 (6 + i) = false := by
          apply Nat.testBit_lt_two_pow
          calc 63 < 2 ^ 6 := by decide
            _ ≤ 2 ^ (6 + i) := Nat.pow_le_pow_right (by decide) (by omega)
        rw [this]
        simp
      by_cases hlt : 6 + i < 64
      · rw [h3] at h2
        simpa [hlt] using h2
      · rw [BitVec.getLsbD_of_ge _ _ (by omega)]
        simp
    have h4 := congrArg BitVec.toNat h1
    rw [BitVec.toNat_ushiftRight, Nat.shiftRight_eq_div_pow] at h4
    simp at h4
    omega
  · intro h
    have key : ∀ n : Fin 64, (BitVec.ofNat 64 n.val) &&& ~~~ (63#64) = 0 := by decide +kernel
    have h2 := key ⟨x.toNat, h⟩
    simpa using h2
theorem modes_ok (m : Int) (h0 : -9223372036854775808 ≤ m) (h1 : m ≤ 9223372036854775807) : bits .andNot .i64 m 63 = 0 ↔ 0 ≤ m ∧ m ≤ 63 := by
  rw [andNot_zero, show BitVec.ofInt 64 63 = 63#64 from rfl, high_zero, BitVec.toNat_ofInt]
  omega
/-- What K may have. -/
def keptOk (m : Int) : Bool := decide (m = 0 ∨ m = 2 ∨ m = 4 ∨ m = 6)
theorem kept_ok (m : Int) (h0 : -9223372036854775808 ≤ m) (h1 : m ≤ 9223372036854775807) : bits .andNot .i64 m 6 = 0 ↔ keptOk m = true := by
  have hk : keptOk m = true ↔ (m = 0 ∨ m = 2 ∨ m = 4 ∨ m = 6) := by simp [keptOk]
  rw [hk]
  constructor
  · intro h
    have h63 : bits .andNot .i64 m 63 = 0 := by
      rw [andNot_zero] at h ⊢
      have e : BitVec.ofInt 64 m &&& ~~~ (BitVec.ofInt 64 63) = (BitVec.ofInt 64 m &&& ~~~ (BitVec.ofInt 64 6)) &&& ~~~ (BitVec.ofInt 64 63) := by
        rw [BitVec.and_assoc, show (~~~ (BitVec.ofInt 64 6)) &&& ~~~ (BitVec.ofInt 64 63) = ~~~ (BitVec.ofInt 64 63) by decide]
      rw [e, h]
      simp
    obtain ⟨p0, p1⟩ := (modes_ok m h0 h1).1 h63
    have key : ∀ n : Fin 64, bits .andNot .i64 (n.val : Int) 6 = 0 → ((n.val : Int) = 0 ∨ (n.val : Int) = 2 ∨ (n.val : Int) = 4 ∨ (n.val : Int) = 6) := by decide +kernel
    have h2 := key ⟨m.toNat, by omega⟩
    simp only [Int.toNat_of_nonneg p0] at h2
    exact h2 h
  · rintro (rfl | rfl | rfl | rfl) <;> decide
theorem kept_ref (m : Int) (h0 : 0 ≤ m) (h1 : m ≤ 63) : bits .and .i64 m 57 = 0 ↔ keptOk m = true := by
  have key : ∀ n : Fin 64, (bits .and .i64 (n.val : Int) 57 = 0 ↔ keptOk (n.val : Int) = true) := by decide +kernel
  have h2 := key ⟨m.toNat, by omega⟩
  simp only [Int.toNat_of_nonneg h0] at h2
  exact h2
theorem kept_range (m : Int) (h : keptOk m = true) : 0 ≤ m ∧ m ≤ 63 := by
  have : m = 0 ∨ m = 2 ∨ m = 4 ∨ m = 6 := by simpa [keptOk] using h
  omega
end Put
end Go.Proofs.YtnkeahfcpbepjaaGreatDoor

/- put.Check. (Written by gen_putcheck.py.) -/
namespace Go.Proofs.YtnkeahfcpbepjaaGreatDoor
open Go.ChangeShapes Go.WideShapes Go.ChangeAt Go.RowKit
namespace Put
open Grd (C SliceAt CellsAt gridErr z0)
open Sty (isSt)
open Txt (wd)
def lateBad (s : Scr) : Bool := s.late && (!decide (s.x = s.w - 1) || decide (bits .and .i64 s.modes 4 = 0))
def placeOk (s : Scr) : Bool := hasC s.w s.h s.x s.y && (hasC s.w s.h s.kx s.ky && regionOk s.h s.top s.bot)
def looksOk (s : Scr) : Bool := isSt (s.sf, s.sb, s.sx) && (isSt (s.kf, s.kb, s.kbits) && (decide (0 ≤ s.modes ∧ s.modes ≤ 63) && keptOk s.km))
def restOk (s : Scr) : Bool := decide ((s.tabs.length : Int) = s.w) && ((decide (s.last = 0) || !decide (wd s.last = 0)) && titleOk s.title)
/-- What is wrong with a screen; 0: nothing. -/
def scrErr (s : Scr) : Int :=
  if gridErr s.w s.h s.cs ≠ 0 then gridErr s.w s.h s.cs
  else if placeOk s = false then 4
  else if lateBad s = true then 5
  else if looksOk s = false then 4
  else if restOk s = false then 5
  else goneErr s.gone
/-- Numbers that fit their kinds; sizes that any machine has. -/
structure Fits (s : Scr) : Prop where
  m0 : -9223372036854775808 ≤ s.modes
  m1 : s.modes ≤ 9223372036854775807
  k0 : -9223372036854775808 ≤ s.km
  k1 : s.km ≤ 9223372036854775807
  tl : s.title.size ≤ 1048576
  gl : s.gone.length ≤ 1048576
  bl : s.tabs.length ≤ 1048576
theorem grid_size {a h : Int} {cs : List C} (hz : gridErr a h cs = 0) : 1 ≤ a ∧ a ≤ 120 ∧ 1 ≤ h ∧ h ≤ 60 := by
  unfold gridErr at hz
  cases hs : Grd.isSize a h with
  | false => rw [hs] at hz; simp at hz
  | true =>
    have h2 : 1 ≤ a ∧ a ≤ 120 ∧ 1 ≤ h ∧ h ≤ 60 := by simpa [Grd.isSize] using hs
    exact h2
set_option maxHeartbeats 16000000 in
set_option maxRecDepth 100000 in
theorem putCheck_any (s : Scr) (cv tv gv : Value) (w : World) (hT : Txt.Tab w) (hV : ScrV w s cv tv gv) (hF : Fits s) :
    Calls Tryz.prog 34 #[.agg (scrA s cv tv gv)] w fun e w' => e = .returned (.int .i64 (scrErr s)) ∧ Below w.heap.size w w' := by
  obtain ⟨ca, cc, hcv⟩ := hV.c.shape
  obtain ⟨ta, tc, htv⟩ := hV.t.slice
  obtain ⟨ga, gc, hgv⟩ := hV.g.slice
  subst hcv htv hgv
  have x0 := heap_alloc_new w (.cells (scrA s (.slice ca s.cs.length cc) (.slice ta s.tabs.length tc) (.slice ga s.gone.length gc)) 32)
  have kb : Below w.heap.size w (w.alloc (.cells (scrA s (.slice ca s.cs.length cc) (.slice ta s.tabs.length tc) (.slice ga s.gone.length gc)) 32)) := (Below.refl _ _).alloc (Nat.le_refl _) _
  have HRG : Hid (∀ W, Calls Tryz.prog 77 #[.agg (scrA s (.slice ca s.cs.length cc) (.slice ta s.tabs.length tc) (.slice ga s.gone.length gc))] W fun e w' => e = .returned (.bool (regionOk s.h s.top s.bot)) ∧ Below W.heap.size W w') := fun W => hasRegion_any s _ _ _ W
  have HB0 : Hid _ := kb
  have HX0 : Hid _ := x0
  have HT : Hid (∀ W, Below w.heap.size w W → Txt.Tab W) := fun W hW => Grd.Tab.next hT hW
  have HV : Hid (ScrV w s _ _ _) := hV
  have HF : Hid (Fits s) := hF
  obtain ⟨res, hres⟩ : ∃ res, scrErr s = res := ⟨_, rfl⟩
  rw [hres]
  have HC : Hid (scrErr s = res) := hres
  obtain ⟨⟨c0, c1, c2, c3, c4, c5, c6, c7, c8, c9, c10⟩, ⟨c11, c12, c13, c14, c15, c16, c17, c18, c19, c20, c21⟩, -⟩ := scr_cells x0
  have HGC := Grd.check_any s.w s.h _ s.cs _ (HT.out _ HB0.out) (HV.out.c.below HB0.out)
  clear x0 kb hT hV hF hres
  by_cases hz : gridErr s.w s.h s.cs = 0
  case neg =>
    have hzb : (gridErr s.w s.h s.cs != 0) = true := by simp [bne, hz]
    have HR : Hid (gridErr s.w s.h s.cs = res) := by
      unfold Hid
      rw [← HC.out]
      unfold scrErr
      rw [if_pos hz]
    clear hz
    generalize gridErr s.w s.h s.cs = ge at *
    go_enter Tryz.func34, Tryz.ntmps34
    go_wp2_with fail
    refine HGC.mono ?_
    rintro e W1 ⟨rfl, b⟩
    clear c0 c1 c2 c3 c4 c5 c6 c7 c8 c9 c10 c11 c12 c13 c14 c15 c16 c17 c18 c19 c20 c21
    go_wp2_with fail
    go_ret
    exact ⟨ret_int HR.out, HB0.out.trans (b.mono HB0.out.size)⟩
  obtain ⟨w1, w2, w3, w4⟩ := grid_size hz
  rw [hz] at HGC
  have HZ : Hid (gridErr s.w s.h s.cs = 0) := hz
  clear hz
  go_enter Tryz.func34, Tryz.ntmps34
  go_wp2_with fail
  refine (HGC).mono ?_
  rintro e W1 ⟨rfl, b⟩
  have HX1 : Hid (W1.heap[w.heap.size]? = _) := Grd.carry HX0.out b
  have HB1 : Hid (Below w.heap.size w W1) := HB0.out.trans (b.mono HB0.out.size)
  clear c0 c1 c2 c3 c4 c5 c6 c7 c8 c9 c10 c11 c12 c13 c14 c15 c16 c17 c18 c19 c20 c21 b
  obtain ⟨⟨c0, c1, c2, c3, c4, c5, c6, c7, c8, c9, c10⟩, ⟨c11, c12, c13, c14, c15, c16, c17, c18, c19, c20, c21⟩, -⟩ := scr_cells HX1.out
  go_wp2_with fail
  cases h1 : hasC s.w s.h s.x s.y with
  | false =>
    have H1 := hasCell_any s.w s.h (.slice ca s.cs.length cc) s.x s.y W1
    rw [h1] at H1
    refine (H1).mono ?_
    rintro e W2 ⟨rfl, b⟩
    have HX2 : Hid (W2.heap[w.heap.size]? = _) := Grd.carry HX1.out b
    have HB2 : Hid (Below w.heap.size w W2) := HB1.out.trans (b.mono HB1.out.size)
    clear c0 c1 c2 c3 c4 c5 c6 c7 c8 c9 c10 c11 c12 c13 c14 c15 c16 c17 c18 c19 c20 c21 b
    obtain ⟨⟨c0, c1, c2, c3, c4, c5, c6, c7, c8, c9, c10⟩, ⟨c11, c12, c13, c14, c15, c16, c17, c18, c19, c20, c21⟩, -⟩ := scr_cells HX2.out
    go_wp2_with fail
    have HR : Hid (4 = res) := by
      unfold Hid
      rw [← HC.out]
      simp [scrErr, HZ.out, placeOk, h1]
    clear c0 c1 c2 c3 c4 c5 c6 c7 c8 c9 c10 c11 c12 c13 c14 c15 c16 c17 c18 c19 c20 c21
    go_wp2_with fail
    go_ret
    exact ⟨ret_int HR.out, HB2.out⟩
  | true =>
  have H1 := hasCell_any s.w s.h (.slice ca s.cs.length cc) s.x s.y W1
  rw [h1] at H1
  refine (H1).mono ?_
  rintro e W2 ⟨rfl, b⟩
  have HX2 : Hid (W2.heap[w.heap.size]? = _) := Grd.carry HX1.out b
  have HB2 : Hid (Below w.heap.size w W2) := HB1.out.trans (b.mono HB1.out.size)
  clear c0 c1 c2 c3 c4 c5 c6 c7 c8 c9 c10 c11 c12 c13 c14 c15 c16 c17 c18 c19 c20 c21 b
  obtain ⟨⟨c0, c1, c2, c3, c4, c5, c6, c7, c8, c9, c10⟩, ⟨c11, c12, c13, c14, c15, c16, c17, c18, c19, c20, c21⟩, -⟩ := scr_cells HX2.out
  go_wp2_with fail
  cases h2 : hasC s.w s.h s.kx s.ky with
  | false =>
    have H2 := hasCell_any s.w s.h (.slice ca s.cs.length cc) s.kx s.ky W2
    rw [h2] at H2
    refine (H2).mono ?_
    rintro e W3 ⟨rfl, b⟩
    have HX3 : Hid (W3.heap[w.heap.size]? = _) := Grd.carry HX2.out b
    have HB3 : Hid (Below w.heap.size w W3) := HB2.out.trans (b.mono HB2.out.size)
    clear c0 c1 c2 c3 c4 c5 c6 c7 c8 c9 c10 c11 c12 c13 c14 c15 c16 c17 c18 c19 c20 c21 b
    obtain ⟨⟨c0, c1, c2, c3, c4, c5, c6, c7, c8, c9, c10⟩, ⟨c11, c12, c13, c14, c15, c16, c17, c18, c19, c20, c21⟩, -⟩ := scr_cells HX3.out
    go_wp2_with fail
    have HR : Hid (4 = res) := by
      unfold Hid
      rw [← HC.out]
      simp [scrErr, HZ.out, placeOk, h1, h2]
    clear c0 c1 c2 c3 c4 c5 c6 c7 c8 c9 c10 c11 c12 c13 c14 c15 c16 c17 c18 c19 c20 c21
    go_wp2_with fail
    go_ret
    exact ⟨ret_int HR.out, HB3.out⟩
  | true =>
  have H2 := hasCell_any s.w s.h (.slice ca s.cs.length cc) s.kx s.ky W2
  rw [h2] at H2
  refine (H2).mono ?_
  rintro e W3 ⟨rfl, b⟩
  have HX3 : Hid (W3.heap[w.heap.size]? = _) := Grd.carry HX2.out b
  have HB3 : Hid (Below w.heap.size w W3) := HB2.out.trans (b.mono HB2.out.size)
  clear c0 c1 c2 c3 c4 c5 c6 c7 c8 c9 c10 c11 c12 c13 c14 c15 c16 c17 c18 c19 c20 c21 b
  obtain ⟨⟨c0, c1, c2, c3, c4, c5, c6, c7, c8, c9, c10⟩, ⟨c11, c12, c13, c14, c15, c16, c17, c18, c19, c20, c21⟩, -⟩ := scr_cells HX3.out
  go_wp2_with (refine BigFrame.wpList_want rfl fun K hK => wp_load_row 32 (.tmp 1) rfl w.heap.size rfl _ _ _ _ HX3.out Tryz.underlying32 rfl (by kernel_rfl) (hK _ _ ?_))
  cases h3 : regionOk s.h s.top s.bot with
  | false =>
    have H3 := HRG.out W3
    rw [h3] at H3
    refine (H3).mono ?_
    rintro e W4 ⟨rfl, b⟩
    have HX4 : Hid (W4.heap[w.heap.size]? = _) := Grd.carry HX3.out b
    have HB4 : Hid (Below w.heap.size w W4) := HB3.out.trans (b.mono HB3.out.size)
    clear c0 c1 c2 c3 c4 c5 c6 c7 c8 c9 c10 c11 c12 c13 c14 c15 c16 c17 c18 c19 c20 c21 b
    obtain ⟨⟨c0, c1, c2, c3, c4, c5, c6, c7, c8, c9, c10⟩, ⟨c11, c12, c13, c14, c15, c16, c17, c18, c19, c20, c21⟩, -⟩ := scr_cells HX4.out
    go_wp2_with fail
    have HR : Hid (4 = res) := by
      unfold Hid
      rw [← HC.out]
      simp [scrErr, HZ.out, placeOk, h1, h2, h3]
    clear c0 c1 c2 c3 c4 c5 c6 c7 c8 c9 c10 c11 c12 c13 c14 c15 c16 c17 c18 c19 c20 c21
    go_wp2_with fail
    go_ret
    exact ⟨ret_int HR.out, HB4.out⟩
  | true =>
  have H3 := HRG.out W3
  rw [h3] at H3
  have HP : Hid (placeOk s = true) := by unfold Hid placeOk; rw [h1, h2, h3]; rfl
  clear H1 H2 h1 h2 h3 HGC
  cases hl : s.late with
  | false =>
    have HLT : Hid (lateBad s = false) := by unfold Hid lateBad; rw [hl]; rfl
    refine (H3).mono ?_
    rintro e W4 ⟨rfl, b⟩
    have HX4 : Hid (W4.heap[w.heap.size]? = _) := Grd.carry HX3.out b
    have HB4 : Hid (Below w.heap.size w W4) := HB3.out.trans (b.mono HB3.out.size)
    clear c0 c1 c2 c3 c4 c5 c6 c7 c8 c9 c10 c11 c12 c13 c14 c15 c16 c17 c18 c19 c20 c21 b
    obtain ⟨⟨c0, c1, c2, c3, c4, c5, c6, c7, c8, c9, c10⟩, ⟨c11, c12, c13, c14, c15, c16, c17, c18, c19, c20, c21⟩, -⟩ := scr_cells HX4.out
    go_wp2_with fail
    clear H3 HRG
    cases h5 : isSt (s.sf, s.sb, s.sx) with
    | false =>
      have H5 := Sty.check_any s.sf s.sb s.sx W4
      rw [h5] at H5
      refine (H5).mono ?_
      rintro e W5 ⟨rfl, b⟩
      have HX5 : Hid (W5.heap[w.heap.size]? = _) := Grd.carry HX4.out b
      have HB5 : Hid (Below w.heap.size w W5) := HB4.out.trans (b.mono HB4.out.size)
      clear c0 c1 c2 c3 c4 c5 c6 c7 c8 c9 c10 c11 c12 c13 c14 c15 c16 c17 c18 c19 c20 c21 b
      obtain ⟨⟨c0, c1, c2, c3, c4, c5, c6, c7, c8, c9, c10⟩, ⟨c11, c12, c13, c14, c15, c16, c17, c18, c19, c20, c21⟩, -⟩ := scr_cells HX5.out
      go_wp2_with fail
      have HR : Hid (4 = res) := by
        unfold Hid
        rw [← HC.out]
        simp [scrErr, HZ.out, HP.out, HLT.out, looksOk, h5]
      clear c0 c1 c2 c3 c4 c5 c6 c7 c8 c9 c10 c11 c12 c13 c14 c15 c16 c17 c18 c19 c20 c21
      go_wp2_with fail
      go_ret
      exact ⟨ret_int HR.out, HB5.out⟩
    | true =>
      have H5 := Sty.check_any s.sf s.sb s.sx W4
      rw [h5] at H5
      refine (H5).mono ?_
      rintro e W5 ⟨rfl, b⟩
      have HX5 : Hid (W5.heap[w.heap.size]? = _) := Grd.carry HX4.out b
      have HB5 : Hid (Below w.heap.size w W5) := HB4.out.trans (b.mono HB4.out.size)
      clear c0 c1 c2 c3 c4 c5 c6 c7 c8 c9 c10 c11 c12 c13 c14 c15 c16 c17 c18 c19 c20 c21 b
      obtain ⟨⟨c0, c1, c2, c3, c4, c5, c6, c7, c8, c9, c10⟩, ⟨c11, c12, c13, c14, c15, c16, c17, c18, c19, c20, c21⟩, -⟩ := scr_cells HX5.out
      go_wp2_with fail
      cases h6 : isSt (s.kf, s.kb, s.kbits) with
      | false =>
        have H6 := Sty.check_any s.kf s.kb s.kbits W5
        rw [h6] at H6
        refine (H6).mono ?_
        rintro e W6 ⟨rfl, b⟩
        have HX6 : Hid (W6.heap[w.heap.size]? = _) := Grd.carry HX5.out b
        have HB6 : Hid (Below w.heap.size w W6) := HB5.out.trans (b.mono HB5.out.size)
        clear c0 c1 c2 c3 c4 c5 c6 c7 c8 c9 c10 c11 c12 c13 c14 c15 c16 c17 c18 c19 c20 c21 b
        obtain ⟨⟨c0, c1, c2, c3, c4, c5, c6, c7, c8, c9, c10⟩, ⟨c11, c12, c13, c14, c15, c16, c17, c18, c19, c20, c21⟩, -⟩ := scr_cells HX6.out
        go_wp2_with fail
        have HR : Hid (4 = res) := by
          unfold Hid
          rw [← HC.out]
          simp [scrErr, HZ.out, HP.out, HLT.out, looksOk, h5, h6]
        clear c0 c1 c2 c3 c4 c5 c6 c7 c8 c9 c10 c11 c12 c13 c14 c15 c16 c17 c18 c19 c20 c21
        go_wp2_with fail
        go_ret
        exact ⟨ret_int HR.out, HB6.out⟩
      | true =>
        have H6 := Sty.check_any s.kf s.kb s.kbits W5
        rw [h6] at H6
        by_cases hm : 0 ≤ s.modes ∧ s.modes ≤ 63
        case neg =>
          have hmb : (bits .andNot .i64 s.modes 63 != 0) = true := by rw [bne_iff_ne]; intro h; exact hm ((modes_ok _ HF.out.m0 HF.out.m1).1 h)
          refine (H6).mono ?_
          rintro e W6 ⟨rfl, b⟩
          have HX6 : Hid (W6.heap[w.heap.size]? = _) := Grd.carry HX5.out b
          have HB6 : Hid (Below w.heap.size w W6) := HB5.out.trans (b.mono HB5.out.size)
          clear c0 c1 c2 c3 c4 c5 c6 c7 c8 c9 c10 c11 c12 c13 c14 c15 c16 c17 c18 c19 c20 c21 b
          obtain ⟨⟨c0, c1, c2, c3, c4, c5, c6, c7, c8, c9, c10⟩, ⟨c11, c12, c13, c14, c15, c16, c17, c18, c19, c20, c21⟩, -⟩ := scr_cells HX6.out
          go_wp2_with fail
          have HR : Hid (4 = res) := by
            unfold Hid
            rw [← HC.out]
            simp [scrErr, HZ.out, HP.out, HLT.out, looksOk, h5, h6, hm]
          clear c0 c1 c2 c3 c4 c5 c6 c7 c8 c9 c10 c11 c12 c13 c14 c15 c16 c17 c18 c19 c20 c21
          go_wp2_with fail
          go_ret
          exact ⟨ret_int HR.out, HB6.out⟩
        have hmb : (bits .andNot .i64 s.modes 63 != 0) = false := by rw [bne_eq_false_iff_eq]; exact (modes_ok _ HF.out.m0 HF.out.m1).2 hm
        cases h7 : keptOk s.km with
        | false =>
          have hkb : (bits .andNot .i64 s.km 6 != 0) = true := by rw [bne_iff_ne]; intro h; rw [(kept_ok _ HF.out.k0 HF.out.k1).1 h] at h7; cases h7
          refine (H6).mono ?_
          rintro e W6 ⟨rfl, b⟩
          have HX6 : Hid (W6.heap[w.heap.size]? = _) := Grd.carry HX5.out b
          have HB6 : Hid (Below w.heap.size w W6) := HB5.out.trans (b.mono HB5.out.size)
          clear c0 c1 c2 c3 c4 c5 c6 c7 c8 c9 c10 c11 c12 c13 c14 c15 c16 c17 c18 c19 c20 c21 b
          obtain ⟨⟨c0, c1, c2, c3, c4, c5, c6, c7, c8, c9, c10⟩, ⟨c11, c12, c13, c14, c15, c16, c17, c18, c19, c20, c21⟩, -⟩ := scr_cells HX6.out
          go_wp2_with fail
          have HR : Hid (4 = res) := by
            unfold Hid
            rw [← HC.out]
            simp [scrErr, HZ.out, HP.out, HLT.out, looksOk, h5, h6, hm, h7]
          clear c0 c1 c2 c3 c4 c5 c6 c7 c8 c9 c10 c11 c12 c13 c14 c15 c16 c17 c18 c19 c20 c21
          go_wp2_with fail
          go_ret
          exact ⟨ret_int HR.out, HB6.out⟩
        | true =>
          have hkb : (bits .andNot .i64 s.km 6 != 0) = false := by rw [bne_eq_false_iff_eq]; exact (kept_ok _ HF.out.k0 HF.out.k1).2 h7
          have HLK : Hid (looksOk s = true) := by unfold Hid looksOk; simp [h5, h6, h7, hm]
          clear h5 h6 h7 hm
          have htb := HF.out.bl
          by_cases t1 : (s.tabs.length : Int) = s.w
          case neg =>
            have t1b : ((s.tabs.length : Int) != s.w) = true := by rw [bne_iff_ne]; exact t1
            have HT1 : Hid (¬ (s.tabs.length : Int) = s.w) := t1
            clear t1
            refine (H6).mono ?_
            rintro e W6 ⟨rfl, b⟩
            have HX6 : Hid (W6.heap[w.heap.size]? = _) := Grd.carry HX5.out b
            have HB6 : Hid (Below w.heap.size w W6) := HB5.out.trans (b.mono HB5.out.size)
            clear c0 c1 c2 c3 c4 c5 c6 c7 c8 c9 c10 c11 c12 c13 c14 c15 c16 c17 c18 c19 c20 c21 b
            obtain ⟨⟨c0, c1, c2, c3, c4, c5, c6, c7, c8, c9, c10⟩, ⟨c11, c12, c13, c14, c15, c16, c17, c18, c19, c20, c21⟩, -⟩ := scr_cells HX6.out
            go_wp2_with fail
            have HR : Hid (5 = res) := by
              unfold Hid
              rw [← HC.out]
              simp [scrErr, HZ.out, HP.out, HLT.out, HLK.out, restOk, HT1.out]
            clear c0 c1 c2 c3 c4 c5 c6 c7 c8 c9 c10 c11 c12 c13 c14 c15 c16 c17 c18 c19 c20 c21
            go_wp2_with fail
            go_ret
            exact ⟨ret_int HR.out, HB6.out⟩
          have t1b : ((s.tabs.length : Int) != s.w) = false := by rw [bne_eq_false_iff_eq]; exact t1
          have HT1 : Hid ((s.tabs.length : Int) = s.w) := t1
          clear t1
          by_cases l0 : s.last = 0
          · have l0b : (s.last != 0) = false := by rw [bne_eq_false_iff_eq]; exact l0
            have HL0 : Hid ((decide (s.last = 0) || !decide (wd s.last = 0)) = true) := by unfold Hid; rw [decide_eq_true l0]; rfl
            clear l0
            refine (H6).mono ?_
            rintro e W6 ⟨rfl, b⟩
            have HX6 : Hid (W6.heap[w.heap.size]? = _) := Grd.carry HX5.out b
            have HB6 : Hid (Below w.heap.size w W6) := HB5.out.trans (b.mono HB5.out.size)
            clear c0 c1 c2 c3 c4 c5 c6 c7 c8 c9 c10 c11 c12 c13 c14 c15 c16 c17 c18 c19 c20 c21 b
            obtain ⟨⟨c0, c1, c2, c3, c4, c5, c6, c7, c8, c9, c10⟩, ⟨c11, c12, c13, c14, c15, c16, c17, c18, c19, c20, c21⟩, -⟩ := scr_cells HX6.out
            go_wp2_with fail
            clear H5 H6
            cases h9 : titleOk s.title with
            | false =>
              have H9 := isTitle_any s.title W6 (HT.out _ HB6.out) HF.out.tl
              rw [h9] at H9
              refine (H9).mono ?_
              rintro e W7 ⟨rfl, b⟩
              have HX7 : Hid (W7.heap[w.heap.size]? = _) := Grd.carry HX6.out b
              have HB7 : Hid (Below w.heap.size w W7) := HB6.out.trans (b.mono HB6.out.size)
              clear c0 c1 c2 c3 c4 c5 c6 c7 c8 c9 c10 c11 c12 c13 c14 c15 c16 c17 c18 c19 c20 c21 b
              obtain ⟨⟨c0, c1, c2, c3, c4, c5, c6, c7, c8, c9, c10⟩, ⟨c11, c12, c13, c14, c15, c16, c17, c18, c19, c20, c21⟩, -⟩ := scr_cells HX7.out
              go_wp2_with fail
              have HR : Hid (5 = res) := by
                unfold Hid
                rw [← HC.out]
                simp [scrErr, HZ.out, HP.out, HLT.out, HLK.out, restOk, h9]
              clear c0 c1 c2 c3 c4 c5 c6 c7 c8 c9 c10 c11 c12 c13 c14 c15 c16 c17 c18 c19 c20 c21
              go_wp2_with fail
              go_ret
              exact ⟨ret_int HR.out, HB7.out⟩
            | true =>
              have H9 := isTitle_any s.title W6 (HT.out _ HB6.out) HF.out.tl
              rw [h9] at H9
              have HRS : Hid (restOk s = true) := by unfold Hid restOk; simp [HL0.out, HT1.out, h9]
              clear h9
              refine (H9).mono ?_
              rintro e W7 ⟨rfl, b⟩
              have HX7 : Hid (W7.heap[w.heap.size]? = _) := Grd.carry HX6.out b
              have HB7 : Hid (Below w.heap.size w W7) := HB6.out.trans (b.mono HB6.out.size)
              clear c0 c1 c2 c3 c4 c5 c6 c7 c8 c9 c10 c11 c12 c13 c14 c15 c16 c17 c18 c19 c20 c21 b
              obtain ⟨⟨c0, c1, c2, c3, c4, c5, c6, c7, c8, c9, c10⟩, ⟨c11, c12, c13, c14, c15, c16, c17, c18, c19, c20, c21⟩, -⟩ := scr_cells HX7.out
              go_wp2_with fail
              clear H9
              have HGN := checkGone_any s.gone _ W7 (HT.out _ HB7.out) (HV.out.g.next HB7.out) HF.out.gl
              have HR : Hid (goneErr s.gone = res) := by
                unfold Hid
                rw [← HC.out]
                simp [scrErr, HZ.out, HP.out, HLT.out, HLK.out, HRS.out]
              generalize goneErr s.gone = ge at HGN HR
              refine HGN.mono ?_
              rintro e V ⟨rfl, b⟩
              clear c0 c1 c2 c3 c4 c5 c6 c7 c8 c9 c10 c11 c12 c13 c14 c15 c16 c17 c18 c19 c20 c21
              go_wp2_with fail
              go_ret
              exact ⟨ret_int HR.out, HB7.out.trans (b.mono HB7.out.size)⟩
          · have l0b : (s.last != 0) = true := by rw [bne_iff_ne]; exact l0
            have HL1 : Hid (¬ s.last = 0) := l0
            clear l0
            by_cases l1 : wd s.last = 0
            · have HL2 : Hid (wd s.last = 0) := l1
              clear l1
              refine (H6).mono ?_
              rintro e W6 ⟨rfl, b⟩
              have HX6 : Hid (W6.heap[w.heap.size]? = _) := Grd.carry HX5.out b
              have HB6 : Hid (Below w.heap.size w W6) := HB5.out.trans (b.mono HB5.out.size)
              clear c0 c1 c2 c3 c4 c5 c6 c7 c8 c9 c10 c11 c12 c13 c14 c15 c16 c17 c18 c19 c20 c21 b
              obtain ⟨⟨c0, c1, c2, c3, c4, c5, c6, c7, c8, c9, c10⟩, ⟨c11, c12, c13, c14, c15, c16, c17, c18, c19, c20, c21⟩, -⟩ := scr_cells HX6.out
              go_wp2_with fail
              have H8 := Grd.width_to s.last W6 (HT.out _ HB6.out) 0 HL2.out
              refine (H8).mono ?_
              rintro e W7 ⟨rfl, b⟩
              have HX7 : Hid (W7.heap[w.heap.size]? = _) := Grd.carry HX6.out b
              have HB7 : Hid (Below w.heap.size w W7) := HB6.out.trans (b.mono HB6.out.size)
              clear c0 c1 c2 c3 c4 c5 c6 c7 c8 c9 c10 c11 c12 c13 c14 c15 c16 c17 c18 c19 c20 c21 b
              obtain ⟨⟨c0, c1, c2, c3, c4, c5, c6, c7, c8, c9, c10⟩, ⟨c11, c12, c13, c14, c15, c16, c17, c18, c19, c20, c21⟩, -⟩ := scr_cells HX7.out
              go_wp2_with fail
              have HR : Hid (5 = res) := by
                unfold Hid
                rw [← HC.out]
                simp [scrErr, HZ.out, HP.out, HLT.out, HLK.out, restOk, HL1.out, HL2.out]
              clear c0 c1 c2 c3 c4 c5 c6 c7 c8 c9 c10 c11 c12 c13 c14 c15 c16 c17 c18 c19 c20 c21
              go_wp2_with fail
              go_ret
              exact ⟨ret_int HR.out, HB7.out⟩
            · have l1b : (wd s.last == 0) = false := by rw [beq_eq_false_iff_ne]; exact l1
              have HL0 : Hid ((decide (s.last = 0) || !decide (wd s.last = 0)) = true) := by unfold Hid; rw [decide_eq_false l1]; simp
              clear l1
              refine (H6).mono ?_
              rintro e W6 ⟨rfl, b⟩
              have HX6 : Hid (W6.heap[w.heap.size]? = _) := Grd.carry HX5.out b
              have HB6 : Hid (Below w.heap.size w W6) := HB5.out.trans (b.mono HB5.out.size)
              clear c0 c1 c2 c3 c4 c5 c6 c7 c8 c9 c10 c11 c12 c13 c14 c15 c16 c17 c18 c19 c20 c21 b
              obtain ⟨⟨c0, c1, c2, c3, c4, c5, c6, c7, c8, c9, c10⟩, ⟨c11, c12, c13, c14, c15, c16, c17, c18, c19, c20, c21⟩, -⟩ := scr_cells HX6.out
              go_wp2_with fail
              have H8 := Grd.width_to s.last W6 (HT.out _ HB6.out) _ rfl
              refine (H8).mono ?_
              rintro e W7 ⟨rfl, b⟩
              have HX7 : Hid (W7.heap[w.heap.size]? = _) := Grd.carry HX6.out b
              have HB7 : Hid (Below w.heap.size w W7) := HB6.out.trans (b.mono HB6.out.size)
              clear c0 c1 c2 c3 c4 c5 c6 c7 c8 c9 c10 c11 c12 c13 c14 c15 c16 c17 c18 c19 c20 c21 b
              obtain ⟨⟨c0, c1, c2, c3, c4, c5, c6, c7, c8, c9, c10⟩, ⟨c11, c12, c13, c14, c15, c16, c17, c18, c19, c20, c21⟩, -⟩ := scr_cells HX7.out
              go_wp2_with fail
              clear H5 H6 H8
              cases h9 : titleOk s.title with
              | false =>
                have H9 := isTitle_any s.title W7 (HT.out _ HB7.out) HF.out.tl
                rw [h9] at H9
                refine (H9).mono ?_
                rintro e W8 ⟨rfl, b⟩
                have HX8 : Hid (W8.heap[w.heap.size]? = _) := Grd.carry HX7.out b
                have HB8 : Hid (Below w.heap.size w W8) := HB7.out.trans (b.mono HB7.out.size)
                clear c0 c1 c2 c3 c4 c5 c6 c7 c8 c9 c10 c11 c12 c13 c14 c15 c16 c17 c18 c19 c20 c21 b
                obtain ⟨⟨c0, c1, c2, c3, c4, c5, c6, c7, c8, c9, c10⟩, ⟨c11, c12, c13, c14, c15, c16, c17, c18, c19, c20, c21⟩, -⟩ := scr_cells HX8.out
                go_wp2_with fail
                have HR : Hid (5 = res) := by
                  unfold Hid
                  rw [← HC.out]
                  simp [scrErr, HZ.out, HP.out, HLT.out, HLK.out, restOk, h9]
                clear c0 c1 c2 c3 c4 c5 c6 c7 c8 c9 c10 c11 c12 c13 c14 c15 c16 c17 c18 c19 c20 c21
                go_wp2_with fail
                go_ret
                exact ⟨ret_int HR.out, HB8.out⟩
              | true =>
                have H9 := isTitle_any s.title W7 (HT.out _ HB7.out) HF.out.tl
                rw [h9] at H9
                have HRS : Hid (restOk s = true) := by unfold Hid restOk; simp [HL0.out, HT1.out, h9]
                clear h9
                refine (H9).mono ?_
                rintro e W8 ⟨rfl, b⟩
                have HX8 : Hid (W8.heap[w.heap.size]? = _) := Grd.carry HX7.out b
                have HB8 : Hid (Below w.heap.size w W8) := HB7.out.trans (b.mono HB7.out.size)
                clear c0 c1 c2 c3 c4 c5 c6 c7 c8 c9 c10 c11 c12 c13 c14 c15 c16 c17 c18 c19 c20 c21 b
                obtain ⟨⟨c0, c1, c2, c3, c4, c5, c6, c7, c8, c9, c10⟩, ⟨c11, c12, c13, c14, c15, c16, c17, c18, c19, c20, c21⟩, -⟩ := scr_cells HX8.out
                go_wp2_with fail
                clear H9
                have HGN := checkGone_any s.gone _ W8 (HT.out _ HB8.out) (HV.out.g.next HB8.out) HF.out.gl
                have HR : Hid (goneErr s.gone = res) := by
                  unfold Hid
                  rw [← HC.out]
                  simp [scrErr, HZ.out, HP.out, HLT.out, HLK.out, HRS.out]
                generalize goneErr s.gone = ge at HGN HR
                refine HGN.mono ?_
                rintro e V ⟨rfl, b⟩
                clear c0 c1 c2 c3 c4 c5 c6 c7 c8 c9 c10 c11 c12 c13 c14 c15 c16 c17 c18 c19 c20 c21
                go_wp2_with fail
                go_ret
                exact ⟨ret_int HR.out, HB8.out.trans (b.mono HB8.out.size)⟩
  | true =>
    by_cases hx : s.x = s.w - 1
    case neg =>
      have hxb : (s.x != s.w - 1) = true := by rw [bne_iff_ne]; exact hx
      have HLT : Hid (lateBad s = true) := by unfold Hid lateBad; rw [hl, decide_eq_false hx]; rfl
      clear hx
      refine (H3).mono ?_
      rintro e W4 ⟨rfl, b⟩
      have HX4 : Hid (W4.heap[w.heap.size]? = _) := Grd.carry HX3.out b
      have HB4 : Hid (Below w.heap.size w W4) := HB3.out.trans (b.mono HB3.out.size)
      clear c0 c1 c2 c3 c4 c5 c6 c7 c8 c9 c10 c11 c12 c13 c14 c15 c16 c17 c18 c19 c20 c21 b
      obtain ⟨⟨c0, c1, c2, c3, c4, c5, c6, c7, c8, c9, c10⟩, ⟨c11, c12, c13, c14, c15, c16, c17, c18, c19, c20, c21⟩, -⟩ := scr_cells HX4.out
      go_wp2_with fail
      have HR : Hid (5 = res) := by
        unfold Hid
        rw [← HC.out]
        simp [scrErr, HZ.out, HP.out, HLT.out]
      clear c0 c1 c2 c3 c4 c5 c6 c7 c8 c9 c10 c11 c12 c13 c14 c15 c16 c17 c18 c19 c20 c21
      go_wp2_with fail
      go_ret
      exact ⟨ret_int HR.out, HB4.out⟩
    have hxb : (s.x != s.w - 1) = false := by rw [bne_eq_false_iff_eq]; exact hx
    by_cases hm4 : bits .and .i64 s.modes 4 = 0
    · have hmb : (bits .and .i64 s.modes 4 == 0) = true := by rw [beq_iff_eq]; exact hm4
      have HLT : Hid (lateBad s = true) := by unfold Hid lateBad; rw [hl, decide_eq_true hm4]; simp
      clear hx hm4
      refine (H3).mono ?_
      rintro e W4 ⟨rfl, b⟩
      have HX4 : Hid (W4.heap[w.heap.size]? = _) := Grd.carry HX3.out b
      have HB4 : Hid (Below w.heap.size w W4) := HB3.out.trans (b.mono HB3.out.size)
      clear c0 c1 c2 c3 c4 c5 c6 c7 c8 c9 c10 c11 c12 c13 c14 c15 c16 c17 c18 c19 c20 c21 b
      obtain ⟨⟨c0, c1, c2, c3, c4, c5, c6, c7, c8, c9, c10⟩, ⟨c11, c12, c13, c14, c15, c16, c17, c18, c19, c20, c21⟩, -⟩ := scr_cells HX4.out
      go_wp2_with fail
      have HR : Hid (5 = res) := by
        unfold Hid
        rw [← HC.out]
        simp [scrErr, HZ.out, HP.out, HLT.out]
      clear c0 c1 c2 c3 c4 c5 c6 c7 c8 c9 c10 c11 c12 c13 c14 c15 c16 c17 c18 c19 c20 c21
      go_wp2_with fail
      go_ret
      exact ⟨ret_int HR.out, HB4.out⟩
    · have hmb4 : (bits .and .i64 s.modes 4 == 0) = false := by rw [beq_eq_false_iff_ne]; exact hm4
      have HLT : Hid (lateBad s = false) := by unfold Hid lateBad; rw [hl, decide_eq_false hm4, decide_eq_true hx]; rfl
      clear hx hm4
      refine (H3).mono ?_
      rintro e W4 ⟨rfl, b⟩
      have HX4 : Hid (W4.heap[w.heap.size]? = _) := Grd.carry HX3.out b
      have HB4 : Hid (Below w.heap.size w W4) := HB3.out.trans (b.mono HB3.out.size)
      clear c0 c1 c2 c3 c4 c5 c6 c7 c8 c9 c10 c11 c12 c13 c14 c15 c16 c17 c18 c19 c20 c21 b
      obtain ⟨⟨c0, c1, c2, c3, c4, c5, c6, c7, c8, c9, c10⟩, ⟨c11, c12, c13, c14, c15, c16, c17, c18, c19, c20, c21⟩, -⟩ := scr_cells HX4.out
      go_wp2_with fail
      clear H3 HRG
      cases h5 : isSt (s.sf, s.sb, s.sx) with
      | false =>
        have H5 := Sty.check_any s.sf s.sb s.sx W4
        rw [h5] at H5
        refine (H5).mono ?_
        rintro e W5 ⟨rfl, b⟩
        have HX5 : Hid (W5.heap[w.heap.size]? = _) := Grd.carry HX4.out b
        have HB5 : Hid (Below w.heap.size w W5) := HB4.out.trans (b.mono HB4.out.size)
        clear c0 c1 c2 c3 c4 c5 c6 c7 c8 c9 c10 c11 c12 c13 c14 c15 c16 c17 c18 c19 c20 c21 b
        obtain ⟨⟨c0, c1, c2, c3, c4, c5, c6, c7, c8, c9, c10⟩, ⟨c11, c12, c13, c14, c15, c16, c17, c18, c19, c20, c21⟩, -⟩ := scr_cells HX5.out
        go_wp2_with fail
        have HR : Hid (4 = res) := by
          unfold Hid
          rw [← HC.out]
          simp [scrErr, HZ.out, HP.out, HLT.out, looksOk, h5]
        clear c0 c1 c2 c3 c4 c5 c6 c7 c8 c9 c10 c11 c12 c13 c14 c15 c16 c17 c18 c19 c20 c21
        go_wp2_with fail
        go_ret
        exact ⟨ret_int HR.out, HB5.out⟩
      | true =>
        have H5 := Sty.check_any s.sf s.sb s.sx W4
        rw [h5] at H5
        refine (H5).mono ?_
        rintro e W5 ⟨rfl, b⟩
        have HX5 : Hid (W5.heap[w.heap.size]? = _) := Grd.carry HX4.out b
        have HB5 : Hid (Below w.heap.size w W5) := HB4.out.trans (b.mono HB4.out.size)
        clear c0 c1 c2 c3 c4 c5 c6 c7 c8 c9 c10 c11 c12 c13 c14 c15 c16 c17 c18 c19 c20 c21 b
        obtain ⟨⟨c0, c1, c2, c3, c4, c5, c6, c7, c8, c9, c10⟩, ⟨c11, c12, c13, c14, c15, c16, c17, c18, c19, c20, c21⟩, -⟩ := scr_cells HX5.out
        go_wp2_with fail
        cases h6 : isSt (s.kf, s.kb, s.kbits) with
        | false =>
          have H6 := Sty.check_any s.kf s.kb s.kbits W5
          rw [h6] at H6
          refine (H6).mono ?_
          rintro e W6 ⟨rfl, b⟩
          have HX6 : Hid (W6.heap[w.heap.size]? = _) := Grd.carry HX5.out b
          have HB6 : Hid (Below w.heap.size w W6) := HB5.out.trans (b.mono HB5.out.size)
          clear c0 c1 c2 c3 c4 c5 c6 c7 c8 c9 c10 c11 c12 c13 c14 c15 c16 c17 c18 c19 c20 c21 b
          obtain ⟨⟨c0, c1, c2, c3, c4, c5, c6, c7, c8, c9, c10⟩, ⟨c11, c12, c13, c14, c15, c16, c17, c18, c19, c20, c21⟩, -⟩ := scr_cells HX6.out
          go_wp2_with fail
          have HR : Hid (4 = res) := by
            unfold Hid
            rw [← HC.out]
            simp [scrErr, HZ.out, HP.out, HLT.out, looksOk, h5, h6]
          clear c0 c1 c2 c3 c4 c5 c6 c7 c8 c9 c10 c11 c12 c13 c14 c15 c16 c17 c18 c19 c20 c21
          go_wp2_with fail
          go_ret
          exact ⟨ret_int HR.out, HB6.out⟩
        | true =>
          have H6 := Sty.check_any s.kf s.kb s.kbits W5
          rw [h6] at H6
          by_cases hm : 0 ≤ s.modes ∧ s.modes ≤ 63
          case neg =>
            have hmb : (bits .andNot .i64 s.modes 63 != 0) = true := by rw [bne_iff_ne]; intro h; exact hm ((modes_ok _ HF.out.m0 HF.out.m1).1 h)
            refine (H6).mono ?_
            rintro e W6 ⟨rfl, b⟩
            have HX6 : Hid (W6.heap[w.heap.size]? = _) := Grd.carry HX5.out b
            have HB6 : Hid (Below w.heap.size w W6) := HB5.out.trans (b.mono HB5.out.size)
            clear c0 c1 c2 c3 c4 c5 c6 c7 c8 c9 c10 c11 c12 c13 c14 c15 c16 c17 c18 c19 c20 c21 b
            obtain ⟨⟨c0, c1, c2, c3, c4, c5, c6, c7, c8, c9, c10⟩, ⟨c11, c12, c13, c14, c15, c16, c17, c18, c19, c20, c21⟩, -⟩ := scr_cells HX6.out
            go_wp2_with fail
            have HR : Hid (4 = res) := by
              unfold Hid
              rw [← HC.out]
              simp [scrErr, HZ.out, HP.out, HLT.out, looksOk, h5, h6, hm]
            clear c0 c1 c2 c3 c4 c5 c6 c7 c8 c9 c10 c11 c12 c13 c14 c15 c16 c17 c18 c19 c20 c21
            go_wp2_with fail
            go_ret
            exact ⟨ret_int HR.out, HB6.out⟩
          have hmb : (bits .andNot .i64 s.modes 63 != 0) = false := by rw [bne_eq_false_iff_eq]; exact (modes_ok _ HF.out.m0 HF.out.m1).2 hm
          cases h7 : keptOk s.km with
          | false =>
            have hkb : (bits .andNot .i64 s.km 6 != 0) = true := by rw [bne_iff_ne]; intro h; rw [(kept_ok _ HF.out.k0 HF.out.k1).1 h] at h7; cases h7
            refine (H6).mono ?_
            rintro e W6 ⟨rfl, b⟩
            have HX6 : Hid (W6.heap[w.heap.size]? = _) := Grd.carry HX5.out b
            have HB6 : Hid (Below w.heap.size w W6) := HB5.out.trans (b.mono HB5.out.size)
            clear c0 c1 c2 c3 c4 c5 c6 c7 c8 c9 c10 c11 c12 c13 c14 c15 c16 c17 c18 c19 c20 c21 b
            obtain ⟨⟨c0, c1, c2, c3, c4, c5, c6, c7, c8, c9, c10⟩, ⟨c11, c12, c13, c14, c15, c16, c17, c18, c19, c20, c21⟩, -⟩ := scr_cells HX6.out
            go_wp2_with fail
            have HR : Hid (4 = res) := by
              unfold Hid
              rw [← HC.out]
              simp [scrErr, HZ.out, HP.out, HLT.out, looksOk, h5, h6, hm, h7]
            clear c0 c1 c2 c3 c4 c5 c6 c7 c8 c9 c10 c11 c12 c13 c14 c15 c16 c17 c18 c19 c20 c21
            go_wp2_with fail
            go_ret
            exact ⟨ret_int HR.out, HB6.out⟩
          | true =>
            have hkb : (bits .andNot .i64 s.km 6 != 0) = false := by rw [bne_eq_false_iff_eq]; exact (kept_ok _ HF.out.k0 HF.out.k1).2 h7
            have HLK : Hid (looksOk s = true) := by unfold Hid looksOk; simp [h5, h6, h7, hm]
            clear h5 h6 h7 hm
            have htb := HF.out.bl
            by_cases t1 : (s.tabs.length : Int) = s.w
            case neg =>
              have t1b : ((s.tabs.length : Int) != s.w) = true := by rw [bne_iff_ne]; exact t1
              have HT1 : Hid (¬ (s.tabs.length : Int) = s.w) := t1
              clear t1
              refine (H6).mono ?_
              rintro e W6 ⟨rfl, b⟩
              have HX6 : Hid (W6.heap[w.heap.size]? = _) := Grd.carry HX5.out b
              have HB6 : Hid (Below w.heap.size w W6) := HB5.out.trans (b.mono HB5.out.size)
              clear c0 c1 c2 c3 c4 c5 c6 c7 c8 c9 c10 c11 c12 c13 c14 c15 c16 c17 c18 c19 c20 c21 b
              obtain ⟨⟨c0, c1, c2, c3, c4, c5, c6, c7, c8, c9, c10⟩, ⟨c11, c12, c13, c14, c15, c16, c17, c18, c19, c20, c21⟩, -⟩ := scr_cells HX6.out
              go_wp2_with fail
              have HR : Hid (5 = res) := by
                unfold Hid
                rw [← HC.out]
                simp [scrErr, HZ.out, HP.out, HLT.out, HLK.out, restOk, HT1.out]
              clear c0 c1 c2 c3 c4 c5 c6 c7 c8 c9 c10 c11 c12 c13 c14 c15 c16 c17 c18 c19 c20 c21
              go_wp2_with fail
              go_ret
              exact ⟨ret_int HR.out, HB6.out⟩
            have t1b : ((s.tabs.length : Int) != s.w) = false := by rw [bne_eq_false_iff_eq]; exact t1
            have HT1 : Hid ((s.tabs.length : Int) = s.w) := t1
            clear t1
            by_cases l0 : s.last = 0
            · have l0b : (s.last != 0) = false := by rw [bne_eq_false_iff_eq]; exact l0
              have HL0 : Hid ((decide (s.last = 0) || !decide (wd s.last = 0)) = true) := by unfold Hid; rw [decide_eq_true l0]; rfl
              clear l0
              refine (H6).mono ?_
              rintro e W6 ⟨rfl, b⟩
              have HX6 : Hid (W6.heap[w.heap.size]? = _) := Grd.carry HX5.out b
              have HB6 : Hid (Below w.heap.size w W6) := HB5.out.trans (b.mono HB5.out.size)
              clear c0 c1 c2 c3 c4 c5 c6 c7 c8 c9 c10 c11 c12 c13 c14 c15 c16 c17 c18 c19 c20 c21 b
              obtain ⟨⟨c0, c1, c2, c3, c4, c5, c6, c7, c8, c9, c10⟩, ⟨c11, c12, c13, c14, c15, c16, c17, c18, c19, c20, c21⟩, -⟩ := scr_cells HX6.out
              go_wp2_with fail
              clear H5 H6
              cases h9 : titleOk s.title with
              | false =>
                have H9 := isTitle_any s.title W6 (HT.out _ HB6.out) HF.out.tl
                rw [h9] at H9
                refine (H9).mono ?_
                rintro e W7 ⟨rfl, b⟩
                have HX7 : Hid (W7.heap[w.heap.size]? = _) := Grd.carry HX6.out b
                have HB7 : Hid (Below w.heap.size w W7) := HB6.out.trans (b.mono HB6.out.size)
                clear c0 c1 c2 c3 c4 c5 c6 c7 c8 c9 c10 c11 c12 c13 c14 c15 c16 c17 c18 c19 c20 c21 b
                obtain ⟨⟨c0, c1, c2, c3, c4, c5, c6, c7, c8, c9, c10⟩, ⟨c11, c12, c13, c14, c15, c16, c17, c18, c19, c20, c21⟩, -⟩ := scr_cells HX7.out
                go_wp2_with fail
                have HR : Hid (5 = res) := by
                  unfold Hid
                  rw [← HC.out]
                  simp [scrErr, HZ.out, HP.out, HLT.out, HLK.out, restOk, h9]
                clear c0 c1 c2 c3 c4 c5 c6 c7 c8 c9 c10 c11 c12 c13 c14 c15 c16 c17 c18 c19 c20 c21
                go_wp2_with fail
                go_ret
                exact ⟨ret_int HR.out, HB7.out⟩
              | true =>
                have H9 := isTitle_any s.title W6 (HT.out _ HB6.out) HF.out.tl
                rw [h9] at H9
                have HRS : Hid (restOk s = true) := by unfold Hid restOk; simp [HL0.out, HT1.out, h9]
                clear h9
                refine (H9).mono ?_
                rintro e W7 ⟨rfl, b⟩
                have HX7 : Hid (W7.heap[w.heap.size]? = _) := Grd.carry HX6.out b
                have HB7 : Hid (Below w.heap.size w W7) := HB6.out.trans (b.mono HB6.out.size)
                clear c0 c1 c2 c3 c4 c5 c6 c7 c8 c9 c10 c11 c12 c13 c14 c15 c16 c17 c18 c19 c20 c21 b
                obtain ⟨⟨c0, c1, c2, c3, c4, c5, c6, c7, c8, c9, c10⟩, ⟨c11, c12, c13, c14, c15, c16, c17, c18, c19, c20, c21⟩, -⟩ := scr_cells HX7.out
                go_wp2_with fail
                clear H9
                have HGN := checkGone_any s.gone _ W7 (HT.out _ HB7.out) (HV.out.g.next HB7.out) HF.out.gl
                have HR : Hid (goneErr s.gone = res) := by
                  unfold Hid
                  rw [← HC.out]
                  simp [scrErr, HZ.out, HP.out, HLT.out, HLK.out, HRS.out]
                generalize goneErr s.gone = ge at HGN HR
                refine HGN.mono ?_
                rintro e V ⟨rfl, b⟩
                clear c0 c1 c2 c3 c4 c5 c6 c7 c8 c9 c10 c11 c12 c13 c14 c15 c16 c17 c18 c19 c20 c21
                go_wp2_with fail
                go_ret
                exact ⟨ret_int HR.out, HB7.out.trans (b.mono HB7.out.size)⟩
            · have l0b : (s.last != 0) = true := by rw [bne_iff_ne]; exact l0
              have HL1 : Hid (¬ s.last = 0) := l0
              clear l0
              by_cases l1 : wd s.last = 0
              · have HL2 : Hid (wd s.last = 0) := l1
                clear l1
                refine (H6).mono ?_
                rintro e W6 ⟨rfl, b⟩
                have HX6 : Hid (W6.heap[w.heap.size]? = _) := Grd.carry HX5.out b
                have HB6 : Hid (Below w.heap.size w W6) := HB5.out.trans (b.mono HB5.out.size)
                clear c0 c1 c2 c3 c4 c5 c6 c7 c8 c9 c10 c11 c12 c13 c14 c15 c16 c17 c18 c19 c20 c21 b
                obtain ⟨⟨c0, c1, c2, c3, c4, c5, c6, c7, c8, c9, c10⟩, ⟨c11, c12, c13, c14, c15, c16, c17, c18, c19, c20, c21⟩, -⟩ := scr_cells HX6.out
                go_wp2_with fail
                have H8 := Grd.width_to s.last W6 (HT.out _ HB6.out) 0 HL2.out
                refine (H8).mono ?_
                rintro e W7 ⟨rfl, b⟩
                have HX7 : Hid (W7.heap[w.heap.size]? = _) := Grd.carry HX6.out b
                have HB7 : Hid (Below w.heap.size w W7) := HB6.out.trans (b.mono HB6.out.size)
                clear c0 c1 c2 c3 c4 c5 c6 c7 c8 c9 c10 c11 c12 c13 c14 c15 c16 c17 c18 c19 c20 c21 b
                obtain ⟨⟨c0, c1, c2, c3, c4, c5, c6, c7, c8, c9, c10⟩, ⟨c11, c12, c13, c14, c15, c16, c17, c18, c19, c20, c21⟩, -⟩ := scr_cells HX7.out
                go_wp2_with fail
                have HR : Hid (5 = res) := by
                  unfold Hid
                  rw [← HC.out]
                  simp [scrErr, HZ.out, HP.out, HLT.out, HLK.out, restOk, HL1.out, HL2.out]
                clear c0 c1 c2 c3 c4 c5 c6 c7 c8 c9 c10 c11 c12 c13 c14 c15 c16 c17 c18 c19 c20 c21
                go_wp2_with fail
                go_ret
                exact ⟨ret_int HR.out, HB7.out⟩
              · have l1b : (wd s.last == 0) = false := by rw [beq_eq_false_iff_ne]; exact l1
                have HL0 : Hid ((decide (s.last = 0) || !decide (wd s.last = 0)) = true) := by unfold Hid; rw [decide_eq_false l1]; simp
                clear l1
                refine (H6).mono ?_
                rintro e W6 ⟨rfl, b⟩
                have HX6 : Hid (W6.heap[w.heap.size]? = _) := Grd.carry HX5.out b
                have HB6 : Hid (Below w.heap.size w W6) := HB5.out.trans (b.mono HB5.out.size)
                clear c0 c1 c2 c3 c4 c5 c6 c7 c8 c9 c10 c11 c12 c13 c14 c15 c16 c17 c18 c19 c20 c21 b
                obtain ⟨⟨c0, c1, c2, c3, c4, c5, c6, c7, c8, c9, c10⟩, ⟨c11, c12, c13, c14, c15, c16, c17, c18, c19, c20, c21⟩, -⟩ := scr_cells HX6.out
                go_wp2_with fail
                have H8 := Grd.width_to s.last W6 (HT.out _ HB6.out) _ rfl
                refine (H8).mono ?_
                rintro e W7 ⟨rfl, b⟩
                have HX7 : Hid (W7.heap[w.heap.size]? = _) := Grd.carry HX6.out b
                have HB7 : Hid (Below w.heap.size w W7) := HB6.out.trans (b.mono HB6.out.size)
                clear c0 c1 c2 c3 c4 c5 c6 c7 c8 c9 c10 c11 c12 c13 c14 c15 c16 c17 c18 c19 c20 c21 b
                obtain ⟨⟨c0, c1, c2, c3, c4, c5, c6, c7, c8, c9, c10⟩, ⟨c11, c12, c13, c14, c15, c16, c17, c18, c19, c20, c21⟩, -⟩ := scr_cells HX7.out
                go_wp2_with fail
                clear H5 H6 H8
                cases h9 : titleOk s.title with
                | false =>
                  have H9 := isTitle_any s.title W7 (HT.out _ HB7.out) HF.out.tl
                  rw [h9] at H9
                  refine (H9).mono ?_
                  rintro e W8 ⟨rfl, b⟩
                  have HX8 : Hid (W8.heap[w.heap.size]? = _) := Grd.carry HX7.out b
                  have HB8 : Hid (Below w.heap.size w W8) := HB7.out.trans (b.mono HB7.out.size)
                  clear c0 c1 c2 c3 c4 c5 c6 c7 c8 c9 c10 c11 c12 c13 c14 c15 c16 c17 c18 c19 c20 c21 b
                  obtain ⟨⟨c0, c1, c2, c3, c4, c5, c6, c7, c8, c9, c10⟩, ⟨c11, c12, c13, c14, c15, c16, c17, c18, c19, c20, c21⟩, -⟩ := scr_cells HX8.out
                  go_wp2_with fail
                  have HR : Hid (5 = res) := by
                    unfold Hid
                    rw [← HC.out]
                    simp [scrErr, HZ.out, HP.out, HLT.out, HLK.out, restOk, h9]
                  clear c0 c1 c2 c3 c4 c5 c6 c7 c8 c9 c10 c11 c12 c13 c14 c15 c16 c17 c18 c19 c20 c21
                  go_wp2_with fail
                  go_ret
                  exact ⟨ret_int HR.out, HB8.out⟩
                | true =>
                  have H9 := isTitle_any s.title W7 (HT.out _ HB7.out) HF.out.tl
                  rw [h9] at H9
                  have HRS : Hid (restOk s = true) := by unfold Hid restOk; simp [HL0.out, HT1.out, h9]
                  clear h9
                  refine (H9).mono ?_
                  rintro e W8 ⟨rfl, b⟩
                  have HX8 : Hid (W8.heap[w.heap.size]? = _) := Grd.carry HX7.out b
                  have HB8 : Hid (Below w.heap.size w W8) := HB7.out.trans (b.mono HB7.out.size)
                  clear c0 c1 c2 c3 c4 c5 c6 c7 c8 c9 c10 c11 c12 c13 c14 c15 c16 c17 c18 c19 c20 c21 b
                  obtain ⟨⟨c0, c1, c2, c3, c4, c5, c6, c7, c8, c9, c10⟩, ⟨c11, c12, c13, c14, c15, c16, c17, c18, c19, c20, c21⟩, -⟩ := scr_cells HX8.out
                  go_wp2_with fail
                  clear H9
                  have HGN := checkGone_any s.gone _ W8 (HT.out _ HB8.out) (HV.out.g.next HB8.out) HF.out.gl
                  have HR : Hid (goneErr s.gone = res) := by
                    unfold Hid
                    rw [← HC.out]
                    simp [scrErr, HZ.out, HP.out, HLT.out, HLK.out, HRS.out]
                  generalize goneErr s.gone = ge at HGN HR
                  refine HGN.mono ?_
                  rintro e V ⟨rfl, b⟩
                  clear c0 c1 c2 c3 c4 c5 c6 c7 c8 c9 c10 c11 c12 c13 c14 c15 c16 c17 c18 c19 c20 c21
                  go_wp2_with fail
                  go_ret
                  exact ⟨ret_int HR.out, HB8.out.trans (b.mono HB8.out.size)⟩
end Put
end Go.Proofs.YtnkeahfcpbepjaaGreatDoor

/- A sheet: a screen under way, held row by row. -/
namespace Go.Proofs.YtnkeahfcpbepjaaGreatDoor
open Go.ChangeShapes Go.WideShapes Go.ChangeAt Go.RowKit
namespace Put
open Grd (C SliceAt CellsAt gridErr z0 nilV)
/-- The words of a sheet: a screen's, and its rows. -/
def shA (s : Scr) (cv tv gv rv : Value) : Array Value := #[.int .i64 s.w, .int .i64 s.h, cv, .int .i64 s.x, .int .i64 s.y, .bool s.late, .int .i64 s.sf, .int .i64 s.sb, .int .i64 s.sx, .int .i64 s.top, .int .i64 s.bot, .int .i64 s.modes, tv, .int .i64 s.kx, .int .i64 s.ky, .int .i64 s.kf, .int .i64 s.kb, .int .i64 s.kbits, .int .i64 s.km, .int .i32 s.last, .string s.title, gv, rv]
theorem heap_lt {W : World} {k : Nat} {o : Obj} (h : W.heap[k]? = some o) : k < W.heap.size := by
  rcases Nat.lt_or_ge k W.heap.size with h' | h'
  · exact h'
  · rw [Array.getElem?_eq_none h'] at h
    cases h
/-- The block k is one of those that were there, or one of cells. -/
def Still (W : World) (N k : Nat) : Prop := k < N ∨ ∃ A f, W.heap[k]? = some (.cells A 91 f)
/-- A row's value: its cells lie in such a block. -/
def RowIn (W : World) (N : Nat) (v : Value) (row : List C) : Prop :=
  (row = [] ∧ ∃ a c, v = .slice a 0 c) ∨ (row ≠ [] ∧ ∃ b o c, v = .slice (some ⟨b, o, none⟩) row.length c ∧ row.length ≤ c ∧ c ≤ 9223372036854775807 ∧ CellsAt W b o row ∧ Still W N b)
theorem RowIn.cells {W : World} {N : Nat} {v : Value} {row : List C} (h : RowIn W N v row) : SliceAt W v row := by
  rcases h with h | ⟨h, b, o, c, hv, h1, h2, h3, -⟩
  · exact .inl h
  · exact .inr ⟨h, b, o, c, hv, h1, h2, h3⟩
theorem lt_of_cells {W : World} {b o : Nat} {row : List C} (h : CellsAt W b o row) (hr : row ≠ []) : b < W.heap.size := by
  have h0 : 0 < row.length := List.length_pos_iff.2 hr
  obtain ⟨h1, -⟩ := h 0 h0
  exact World.block_lt_of_cell? W _ h1
theorem RowIn.of {W : World} {N : Nat} {v : Value} {row : List C} (h : SliceAt W v row) (hN : N = W.heap.size) : RowIn W N v row := by
  rcases h with h | ⟨h, b, o, c, hv, h1, h2, h3⟩
  · exact .inl h
  · exact .inr ⟨h, b, o, c, hv, h1, h2, h3, .inl (by rw [hN]; exact lt_of_cells h3 h)⟩
theorem RowIn.shape {W : World} {N : Nat} {v : Value} {row : List C} (h : RowIn W N v row) : ∃ a c, v = .slice a row.length c := h.cells.shape
/-- What was there, and cells, are kept. -/
def Kept (N : Nat) (W W' : World) : Prop := ∀ k, k < W.heap.size → Still W N k → W'.heap[k]? = W.heap[k]?
theorem Kept.refl (N : Nat) (W : World) : Kept N W W := fun _ _ _ => rfl
theorem Still.keep {W W' : World} {N k : Nat} (h : Still W N k) (hk : W'.heap[k]? = W.heap[k]?) : Still W' N k := by
  rcases h with h | ⟨A, f, h⟩
  · exact .inl h
  · exact .inr ⟨A, f, hk.trans h⟩
theorem Kept.trans {N : Nat} {a b c : World} (h : Kept N a b) (hs : a.heap.size ≤ b.heap.size) (k : Kept N b c) : Kept N a c := fun i hi hS =>
  (k i (Nat.lt_of_lt_of_le hi hs) (hS.keep (h i hi hS))).trans (h i hi hS)
theorem Kept.of_below {N : Nat} {W W' : World} (h : Below W.heap.size W W') : Kept N W W' := fun k hk _ => h.block k hk
theorem cells_kept {W W' : World} {b o : Nat} {row : List C} (h : CellsAt W b o row) (hk : W'.heap[b]? = W.heap[b]?) : CellsAt W' b o row := fun j hj => by
  obtain ⟨h0, h1, h2, h3⟩ := h j hj
  have e : ∀ i, W'.cell? ⟨b, i, none⟩ = W.cell? ⟨b, i, none⟩ := fun i => by simp [World.cell?, hk]
  exact ⟨(e _).trans h0, (e _).trans h1, (e _).trans h2, (e _).trans h3⟩
theorem RowIn.keep {W W' : World} {N : Nat} {v : Value} {row : List C} (h : RowIn W N v row) (hk : Kept N W W') : RowIn W' N v row := by
  rcases h with h | ⟨h, b, o, c, hv, h1, h2, h3, h4⟩
  · exact .inl h
  · have hb := hk b (lt_of_cells h3 h) h4
    exact .inr ⟨h, b, o, c, hv, h1, h2, cells_kept h3 hb, h4.keep hb⟩
def RowsIn (W : World) (N : Nat) (vs : List Value) (rows : List (List C)) : Prop := vs.length = rows.length ∧ ∀ i, i < rows.length → RowIn W N (vs.getD i nilV) (rows.getD i [])
theorem RowsIn.keep {W W' : World} {N : Nat} {vs : List Value} {rows : List (List C)} (h : RowsIn W N vs rows) (hk : Kept N W W') : RowsIn W' N vs rows := ⟨h.1, fun i hi => (h.2 i hi).keep hk⟩
theorem RowsIn.list {W : World} {N : Nat} {vs : List Value} {rows : List (List C)} (h : RowsIn W N vs rows) : RowsL W vs rows := ⟨h.1, fun i hi => (h.2 i hi).cells⟩
theorem RowsIn.of {W : World} {N : Nat} {vs : List Value} {rows : List (List C)} (h : RowsL W vs rows) (hN : N = W.heap.size) : RowsIn W N vs rows := ⟨h.1, fun i hi => RowIn.of (h.2 i hi) hN⟩
theorem owns_kept {w w' : World} {base : Nat} {e : TypeId} {size : Nat} {v : Value} {n : Nat} {xs : List Value} (h : w.ownsRow base e size v n xs) (hk : ∀ g, v.ownBlock = some g → w'.heap[g]? = w.heap[g]?) : w'.ownsRow base e size v n xs := by
  obtain ⟨h0, h | ⟨g, cap, cur, hv, hg, hh, hc, hm, hs, htk⟩⟩ := h
  · exact ⟨h0, .inl h⟩
  · exact ⟨h0, .inr ⟨g, cap, cur, hv, hg, (hk g (by rw [hv]; rfl)).trans hh, hc, hm, hs, htk⟩⟩
theorem owns_block {w : World} {base : Nat} {e : TypeId} {size : Nat} {v : Value} {n : Nat} {xs : List Value} (h : w.ownsRow base e size v n xs) : ∀ g, v.ownBlock = some g → base ≤ g ∧ ∃ A f, w.heap[g]? = some (.cells A e f) := by
  intro g hg
  obtain ⟨h0, h | ⟨g', cap, cur, hv, hb, hh, hc, hm, hs, htk⟩⟩ := h
  · rw [h.1] at hg
    cases hg
  · rw [hv] at hg
    have e : g' = g := by simpa [Value.ownBlock] using hg
    subst e
    exact ⟨hb, _, _, hh⟩
/-- A sheet of the type t in memory: its block p, and what its words speak of. -/
structure ShA (t : TypeId) (W : World) (M N p : Nat) (s : Scr) (rows : List (List C)) (cv tv gv rv : Value) (gvs vs : List Value) : Prop where
  blk : W.heap[p]? = some (.cells (shA s cv tv gv rv) t (0, 0))
  lo : N ≤ p
  ml : M ≤ N
  cvs : ∃ a n c, cv = .slice a n c
  tabs : W.ownsRow N 4 1 tv s.tabs.length (s.tabs.map Value.bool)
  gone : W.ownsRow N 22 1 gv s.gone.length gvs
  gin : RowsIn W M gvs s.gone
  rws : W.ownsRow N 22 1 rv rows.length vs
  rin : RowsIn W M vs rows
  two : ∀ k, rv.ownBlock = some k → gv.ownBlock ≠ some k
def IsSheet (t : TypeId) : Prop := t ≠ 4 ∧ t ≠ 22 ∧ t ≠ 91
/-- Another sheet in the same block, with the same tabs, rows and rows that are gone. -/
theorem ShA.put {t : TypeId} (ht : IsSheet t) {W W' : World} {M N p : Nat} {s s' : Scr} {rows : List (List C)} {cv tv gv rv : Value} {gvs vs : List Value} (h : ShA t W M N p s rows cv tv gv rv gvs vs)
    (hp : W'.heap[p]? = some (.cells (shA s' cv tv gv rv) t (0, 0))) (ho : ∀ k, k ≠ p → W'.heap[k]? = W.heap[k]?) (htabs : s'.tabs = s.tabs) (hgone : s'.gone = s.gone) : ShA t W' M N p s' rows cv tv gv rv gvs vs := by
  have hne : ∀ {e : TypeId} {v : Value} {n : Nat} {xs : List Value}, t ≠ e → W.ownsRow N e 1 v n xs → ∀ g, v.ownBlock = some g → W'.heap[g]? = W.heap[g]? := fun hte hw g hg => by
    obtain ⟨-, A, f, hA⟩ := owns_block hw g hg
    refine ho g fun e => ?_
    subst e
    rw [h.blk] at hA
    injection hA with hA
    injection hA with _ hA _
    exact hte hA
  have hk : Kept M W W' := fun k hk hS => by
    refine ho k fun e => ?_
    subst e
    rcases hS with hS | ⟨A, f, hS⟩
    · have := h.lo
      have := h.ml
      omega
    · rw [h.blk] at hS
      injection hS with hS
      injection hS with _ hS _
      exact ht.2.2 hS
  refine ⟨hp, h.lo, h.ml, h.cvs, ?_, ?_, ?_, owns_kept h.rws (hne ht.2.1 h.rws), h.rin.keep hk, h.two⟩
  · rw [htabs]
    exact owns_kept h.tabs (hne ht.1 h.tabs)
  · rw [hgone]
    exact owns_kept h.gone (hne ht.2.1 h.gone)
  · rw [hgone]
    exact h.gin.keep hk
theorem ShA.next {t : TypeId} {W W' : World} {M N p : Nat} {s : Scr} {rows : List (List C)} {cv tv gv rv : Value} {gvs vs : List Value} (h : ShA t W M N p s rows cv tv gv rv gvs vs) (hb : Below W.heap.size W W') : ShA t W' M N p s rows cv tv gv rv gvs vs := by
  have hk : ∀ {e : TypeId} {v : Value} {n : Nat} {xs : List Value}, W.ownsRow N e 1 v n xs → W'.ownsRow N e 1 v n xs := fun hw => owns_kept hw fun g hg => by
    obtain ⟨-, A, f, hA⟩ := owns_block hw g hg
    exact hb.block g (heap_lt hA)
  exact ⟨(hb.block p (heap_lt h.blk)).trans h.blk, h.lo, h.ml, h.cvs, hk h.tabs, hk h.gone, h.gin.keep (Kept.of_below hb), hk h.rws, h.rin.keep (Kept.of_below hb), h.two⟩
def ShAt (t : TypeId) (W : World) (M N p : Nat) (s : Scr) (rows : List (List C)) : Prop := ∃ cv tv gv rv gvs vs, ShA t W M N p s rows cv tv gv rv gvs vs
theorem sheet_is : IsSheet 64 := by unfold IsSheet; decide
theorem cells23 {W : World} {R : Nat} {t : TypeId} {v0 v1 v2 v3 v4 v5 v6 v7 v8 v9 v10 v11 v12 v13 v14 v15 v16 v17 v18 v19 v20 v21 v22 : Value} (h : W.heap[R]? = some (.cells #[v0, v1, v2, v3, v4, v5, v6, v7, v8, v9, v10, v11, v12, v13, v14, v15, v16, v17, v18, v19, v20, v21, v22] t (0, 0))) :
    (W.cell? ⟨R, 0, none⟩ = some v0 ∧ W.cell? ⟨R, 1, none⟩ = some v1 ∧ W.cell? ⟨R, 2, none⟩ = some v2 ∧ W.cell? ⟨R, 3, none⟩ = some v3 ∧ W.cell? ⟨R, 4, none⟩ = some v4 ∧ W.cell? ⟨R, 5, none⟩ = some v5 ∧ W.cell? ⟨R, 6, none⟩ = some v6 ∧ W.cell? ⟨R, 7, none⟩ = some v7 ∧ W.cell? ⟨R, 8, none⟩ = some v8 ∧ W.cell? ⟨R, 9, none⟩ = some v9 ∧ W.cell? ⟨R, 10, none⟩ = some v10) ∧
    (W.cell? ⟨R, 11, none⟩ = some v11 ∧ W.cell? ⟨R, 12, none⟩ = some v12 ∧ W.cell? ⟨R, 13, none⟩ = some v13 ∧ W.cell? ⟨R, 14, none⟩ = some v14 ∧ W.cell? ⟨R, 15, none⟩ = some v15 ∧ W.cell? ⟨R, 16, none⟩ = some v16 ∧ W.cell? ⟨R, 17, none⟩ = some v17 ∧ W.cell? ⟨R, 18, none⟩ = some v18 ∧ W.cell? ⟨R, 19, none⟩ = some v19 ∧ W.cell? ⟨R, 20, none⟩ = some v20 ∧ W.cell? ⟨R, 21, none⟩ = some v21 ∧ W.cell? ⟨R, 22, none⟩ = some v22) ∧ ∀ i, W.frozen? ⟨R, i, none⟩ = false := by
  refine ⟨?_, ?_, fun i => by simp [World.frozen?, h]⟩ <;> simp [World.cell?, h]
theorem sh_cells {W : World} {R : Nat} {t : TypeId} {s : Scr} {cv tv gv rv : Value} (h : W.heap[R]? = some (.cells (shA s cv tv gv rv) t (0, 0))) :
    (W.cell? ⟨R, 0, none⟩ = some (.int .i64 s.w) ∧ W.cell? ⟨R, 1, none⟩ = some (.int .i64 s.h) ∧ W.cell? ⟨R, 2, none⟩ = some (cv) ∧ W.cell? ⟨R, 3, none⟩ = some (.int .i64 s.x) ∧ W.cell? ⟨R, 4, none⟩ = some (.int .i64 s.y) ∧ W.cell? ⟨R, 5, none⟩ = some (.bool s.late) ∧ W.cell? ⟨R, 6, none⟩ = some (.int .i64 s.sf) ∧ W.cell? ⟨R, 7, none⟩ = some (.int .i64 s.sb) ∧ W.cell? ⟨R, 8, none⟩ = some (.int .i64 s.sx) ∧ W.cell? ⟨R, 9, none⟩ = some (.int .i64 s.top) ∧ W.cell? ⟨R, 10, none⟩ = some (.int .i64 s.bot)) ∧
    (W.cell? ⟨R, 11, none⟩ = some (.int .i64 s.modes) ∧ W.cell? ⟨R, 12, none⟩ = some (tv) ∧ W.cell? ⟨R, 13, none⟩ = some (.int .i64 s.kx) ∧ W.cell? ⟨R, 14, none⟩ = some (.int .i64 s.ky) ∧ W.cell? ⟨R, 15, none⟩ = some (.int .i64 s.kf) ∧ W.cell? ⟨R, 16, none⟩ = some (.int .i64 s.kb) ∧ W.cell? ⟨R, 17, none⟩ = some (.int .i64 s.kbits) ∧ W.cell? ⟨R, 18, none⟩ = some (.int .i64 s.km) ∧ W.cell? ⟨R, 19, none⟩ = some (.int .i32 s.last) ∧ W.cell? ⟨R, 20, none⟩ = some (.string s.title) ∧ W.cell? ⟨R, 21, none⟩ = some (gv) ∧ W.cell? ⟨R, 22, none⟩ = some (rv)) ∧ ∀ i, W.frozen? ⟨R, i, none⟩ = false := cells23 h
end Put
end Go.Proofs.YtnkeahfcpbepjaaGreatDoor
