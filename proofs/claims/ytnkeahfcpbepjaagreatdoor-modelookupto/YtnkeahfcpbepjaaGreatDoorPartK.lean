/- trellislaw.ownScreen, noScreen. -/
import Derived.Test.YtnkeahfcpbepjaaGreatDoorPartJ
import Derived.Test.YtnkeahfcpbepjaaGreatDoorPartH
import Derived.Test.YtnkeahfcpbepjaaGreatDoorPartI
import Derived.Deep.Cut
import Derived.Deep.CutRange
import Derived.Test.YtnkeahfcpbepjaaGreatDoorPartG
import Derived.Deep.RegionHeld3
import Derived.BigRegion
import Derived.BigQuiet
namespace Go.Proofs.YtnkeahfcpbepjaaGreatDoor
open Go.ChangeShapes Go.WideShapes Go.ChangeAt Go.RowKit
namespace Put
open Grd (C SliceAt CellsAt gridErr z0 nilV)
/-- A screen that a machine holds. -/
structure Bulk (s : Scr) : Prop where
  f : Fits s
  c : s.cs.length ≤ 1048576
  r : ∀ row, row ∈ s.gone → row.length ≤ 1048576
theorem Bulk.small {s : Scr} (h : Bulk s) : Small s := ⟨by have := h.c; omega, by have := h.f.bl; omega, by have := h.f.gl; omega, fun row hr => by have := h.r row hr; omega⟩
theorem Bulk.row {s : Scr} (h : Bulk s) (k : Nat) (hk : k < s.gone.length) : (s.gone.getD k []).length ≤ 1048576 := by
  have e : s.gone.getD k [] = s.gone[k] := by simp [List.getD, hk]
  rw [e]
  exact h.r _ (List.getElem_mem hk)
theorem cloneCells_any (v : Value) (N : Nat) (row : List C) (w : World) (h : SliceAt w v row) (hbig : row.length ≤ 1048576) :
    Calls Tryz.prog 115 #[v] w fun e w' => ∃ a c, e = .returned (.slice a row.length c) ∧ RowIn w' N (.slice a row.length c) row ∧ Below w.heap.size w w' := by
  rcases h with ⟨rfl, a, c, rfl⟩ | ⟨hr, b, o, c, rfl, h1, h2, h3⟩
  · refine (Grd.clone_empty a c w).mono ?_
    rintro e W ⟨a', c', rfl, hb⟩
    exact ⟨a', c', rfl, .inl ⟨rfl, a', c', rfl⟩, hb⟩
  · refine (Grd.clone_row b o c row w h3 (by omega)).mono ?_
    rintro e W ⟨v', g, rfl, hg, hR, hb⟩
    obtain ⟨a', c', hv⟩ := (rowIn_rowB (N := N) hR).shape
    subst hv
    exact ⟨a', c', rfl, rowIn_rowB hR, hb⟩
theorem Kept.grown {W W' : World} {N base : Nat} {v : Value} {n : Nat} {xs : List Value} (ho : W.ownsRow base 22 1 v n xs) (hb : N ≤ base) (hg : W.grownBy W' v.ownBlock) : Kept N W W' := fun k hk hS => hg.block k hk fun e => by
  obtain ⟨h1, A, f, hA⟩ := owns_block ho k e.symm
  rcases hS with hS | ⟨B, f', hS⟩
  · omega
  · rw [hA] at hS
    injection hS with hS
    injection hS with _ hS _
    exact absurd hS (by decide)
theorem own_grown {W W' : World} {N base : Nat} {e : TypeId} {u v : Value} {n m : Nat} {xs ys : List Value} (h : W.ownsRow N e 1 u m ys) (ho : W.ownsRow base 22 1 v n xs) (he : 22 ≠ e) (hg : W.grownBy W' v.ownBlock) : W'.ownsRow N e 1 u m ys :=
  owns_kept h fun k hk => by
    obtain ⟨-, B, f', hB⟩ := owns_block h k hk
    refine hg.block k (heap_lt hB) fun e' => ?_
    obtain ⟨h1, A, f, hA⟩ := owns_block ho k e'.symm
    rw [hA] at hB
    injection hB with hB
    injection hB with _ hB _
    exact he hB
theorem RowsIn.snoc {W : World} {N : Nat} {vs : List Value} {rows : List (List C)} (h : RowsIn W N vs rows) {v : Value} {row : List C} (hr : RowIn W N v row) : RowsIn W N (vs ++ [v]) (rows ++ [row]) := by
  refine ⟨by simp [h.1], fun i hi => ?_⟩
  rw [List.length_append, List.length_singleton] at hi
  by_cases e : i < rows.length
  · rw [Grd.getD_snoc_lt _ _ _ _ e, Grd.getD_snoc_lt _ _ _ _ (by rw [h.1]; exact e)]
    exact h.2 i e
  · have e1 : i = rows.length := by omega
    have e2 : (vs ++ [v]).getD i nilV = v := by rw [e1, ← h.1]; exact Grd.getD_snoc_eq _ _ _
    rw [e2, e1, Grd.getD_snoc_eq]
    exact hr
theorem take_next {α : Type} (l : List α) (k : Nat) (d : α) (h : k < l.length) : l.take (k + 1) = l.take k ++ [l.getD k d] := by
  rw [List.take_succ_eq_append_getElem h]
  simp [List.getD, h]
set_option maxHeartbeats 4000000 in
set_option maxRecDepth 100000 in
theorem ownScreen_any (s : Scr) (cv tv gv : Value) (w : World) (hV : ScrV w s cv tv gv) (hB : Bulk s) :
    Calls Tryz.prog 62 #[.agg (scrA s cv tv gv)] w fun e W' => ∃ cv' tv' gv', e = .returned (.agg (scrA s cv' tv' gv')) ∧ ScrV W' s cv' tv' gv' ∧ Below w.heap.size w W' := by
  obtain ⟨ca, cc, rfl⟩ := hV.c.shape
  obtain ⟨ta, tc, rfl⟩ := hV.t.slice
  obtain ⟨ga, gc, rfl⟩ := hV.g.slice
  obtain ⟨i0, hi, hzz⟩ := Option.map_eq_some_iff.1 info_rows
  simp only [Prod.mk.injEq] at hzz
  obtain ⟨hz0, hz1, hz2⟩ := hzz
  have hkb : Below w.heap.size w ((w.alloc (.cells (scrA s (.slice ca s.cs.length cc) (.slice ta s.tabs.length tc) (.slice ga s.gone.length gc)) 32)).alloc (.cells #[.int .i64 0, .int .i64 0, .slice none 0 0, .int .i64 0, .int .i64 0, .bool false, .int .i64 0, .int .i64 0, .int .i64 0, .int .i64 0, .int .i64 0, .int .i64 0, .slice none 0 0, .int .i64 0, .int .i64 0, .int .i64 0, .int .i64 0, .int .i64 0, .int .i64 0, .int .i32 0, .string ⟨#[]⟩, .slice none 0 0] 32)) := ((Below.refl _ _).alloc (Nat.le_refl _) _).alloc (by simp) _
  have hx0 : ((w.alloc (.cells (scrA s (.slice ca s.cs.length cc) (.slice ta s.tabs.length tc) (.slice ga s.gone.length gc)) 32)).alloc (.cells #[.int .i64 0, .int .i64 0, .slice none 0 0, .int .i64 0, .int .i64 0, .bool false, .int .i64 0, .int .i64 0, .int .i64 0, .int .i64 0, .int .i64 0, .int .i64 0, .slice none 0 0, .int .i64 0, .int .i64 0, .int .i64 0, .int .i64 0, .int .i64 0, .int .i64 0, .int .i32 0, .string ⟨#[]⟩, .slice none 0 0] 32)).heap[w.heap.size]? = some (.cells (scrA s (.slice ca s.cs.length cc) (.slice ta s.tabs.length tc) (.slice ga s.gone.length gc)) 32 (0, 0)) := (Below.heap_alloc _ _ _ (by simp)).trans (heap_alloc_new _ _)
  have hx1 : ((w.alloc (.cells (scrA s (.slice ca s.cs.length cc) (.slice ta s.tabs.length tc) (.slice ga s.gone.length gc)) 32)).alloc (.cells #[.int .i64 0, .int .i64 0, .slice none 0 0, .int .i64 0, .int .i64 0, .bool false, .int .i64 0, .int .i64 0, .int .i64 0, .int .i64 0, .int .i64 0, .int .i64 0, .slice none 0 0, .int .i64 0, .int .i64 0, .int .i64 0, .int .i64 0, .int .i64 0, .int .i64 0, .int .i32 0, .string ⟨#[]⟩, .slice none 0 0] 32)).heap[w.heap.size + 1]? = some (.cells (scrA zScr (.slice none 0 0) (.slice none 0 0) (.slice none 0 0)) 32 (0, 0)) := heap_alloc2_new w _ _
  have HX0 : Hid _ := hx0
  have HX1 : Hid _ := hx1
  have HKB : Hid _ := hkb
  have HV : Hid (ScrV w s _ _ _) := hV
  have HBK : Hid (Bulk s) := hB
  have hlt1 := heap_lt hx1
  clear hx0 hx1 hkb hV hB
  go_enter Tryz.func62, Tryz.ntmps62
  go_upto_region 1 with fail
  generalize ((w.alloc (.cells (scrA s (.slice ca s.cs.length cc) (.slice ta s.tabs.length tc) (.slice ga s.gone.length gc)) 32)).alloc (.cells #[.int .i64 0, .int .i64 0, .slice none 0 0, .int .i64 0, .int .i64 0, .bool false, .int .i64 0, .int .i64 0, .int .i64 0, .int .i64 0, .int .i64 0, .int .i64 0, .slice none 0 0, .int .i64 0, .int .i64 0, .int .i64 0, .int .i64 0, .int .i64 0, .int .i64 0, .int .i32 0, .string ⟨#[]⟩, .slice none 0 0] 32)) = X at *
  obtain ⟨⟨-, -, c2, -⟩, -, -⟩ := scr_cells HX0.out
  go_wp2_with fail
  refine (cloneCells_any _ w.heap.size s.cs X (HV.out.c.below HKB.out) HBK.out.c).mono ?_
  rintro e V1 ⟨a1, c1, rfl, hR1, b1⟩
  have hp1 := Grd.carry HX0.out b1
  have f2 := (scr_cells hp1).2.2 2
  have c2' := (scr_cells hp1).1.2.2.1
  have HP1 : Hid ((V1.setCell ⟨w.heap.size, 2, none⟩ (.slice a1 s.cs.length c1)).heap[w.heap.size]? = some (.cells (scrA s (.slice a1 s.cs.length c1) (.slice ta s.tabs.length tc) (.slice ga s.gone.length gc)) 32 (0, 0))) := store_at hp1 rfl
  have HQ1 : Hid ((V1.setCell ⟨w.heap.size, 2, none⟩ (.slice a1 s.cs.length c1)).heap[w.heap.size + 1]? = _) := (store_off (by omega)).trans (Grd.carry HX1.out b1)
  have HR1 : Hid (RowIn (V1.setCell ⟨w.heap.size, 2, none⟩ (.slice a1 s.cs.length c1)) w.heap.size (.slice a1 s.cs.length c1) s.cs) := hR1.keep (Kept.store hp1 (by decide) (Nat.le_refl _))
  have HB1 : Hid (Below w.heap.size w (V1.setCell ⟨w.heap.size, 2, none⟩ (.slice a1 s.cs.length c1))) := (HKB.out.trans (b1.mono HKB.out.size)).setCell (Nat.le_refl _) _
  have c12 := (scr_cells hp1).2.1.2.1
  clear hR1 b1 hp1 c2
  go_wp2_with fail
  refine (cloneBools_any _ s.tabs _ (HV.out.t.next HB1.out) HBK.out.f.bl).mono ?_
  rintro e V2 ⟨tv', rfl, ho2, b2⟩
  obtain ⟨a2, c2n, rfl⟩ := own_slice ho2
  have hp2 := Grd.carry HP1.out b2
  have f12 := (scr_cells hp2).2.2 12
  have c12' := (scr_cells hp2).2.1.2.1
  have HP2 : Hid ((V2.setCell ⟨w.heap.size, 12, none⟩ (.slice a2 s.tabs.length c2n)).heap[w.heap.size]? = some (.cells (scrA s (.slice a1 s.cs.length c1) (.slice a2 s.tabs.length c2n) (.slice ga s.gone.length gc)) 32 (0, 0))) := store_at hp2 rfl
  have HQ2 : Hid ((V2.setCell ⟨w.heap.size, 12, none⟩ (.slice a2 s.tabs.length c2n)).heap[w.heap.size + 1]? = _) := (store_off (by omega)).trans (Grd.carry HQ1.out b2)
  have HR2 : Hid (RowIn (V2.setCell ⟨w.heap.size, 12, none⟩ (.slice a2 s.tabs.length c2n)) w.heap.size (.slice a1 s.cs.length c1) s.cs) := (HR1.out.keep (Kept.of_below b2)).keep (Kept.store hp2 (by decide) (Nat.le_refl _))
  have HT2 : Hid ((V2.setCell ⟨w.heap.size, 12, none⟩ (.slice a2 s.tabs.length c2n)).ownsRow w.heap.size 4 1 (.slice a2 s.tabs.length c2n) s.tabs.length (s.tabs.map Value.bool)) := Grd.ownsRow_mono (own_off ho2 hp2 (by decide)) HB1.out.size
  have HB2 : Hid (Below w.heap.size w (V2.setCell ⟨w.heap.size, 12, none⟩ (.slice a2 s.tabs.length c2n))) := (HB1.out.trans (b2.mono HB1.out.size)).setCell (Nat.le_refl _) _
  have c21 := (scr_cells hp2).2.1.2.2.2.2.2.2.2.2.2.2
  clear ho2 b2 hp2 c12 c2' f2 HP1 HQ1 HR1 HB1
  go_wp2_with fail
  clear c21 c12' f12
  go_loopg [3, 19] s.gone.length (fun q v i wr => ∃ (k : Nat) (vs : List Value), i = .int .i64 (k : Int) ∧ k ≤ s.gone.length ∧ s.gone.length - k ≤ q ∧ wr.ownsRow (w.heap.size + 2) 22 1 v k vs ∧ RowsIn wr w.heap.size vs (s.gone.take k) ∧ Below w.heap.size w wr ∧ wr.heap[w.heap.size]? = some (.cells (scrA s (.slice a1 s.cs.length c1) (.slice a2 s.tabs.length c2n) (.slice ga s.gone.length gc)) 32 (0, 0)) ∧ wr.heap[w.heap.size + 1]? = some (.cells (scrA zScr (.slice none 0 0) (.slice none 0 0) (.slice none 0 0)) 32 (0, 0)) ∧ RowIn wr w.heap.size (.slice a1 s.cs.length c1) s.cs ∧ wr.ownsRow w.heap.size 4 1 (.slice a2 s.tabs.length c2n) s.tabs.length (s.tabs.map Value.bool))
  case atStart => exact ⟨0, [], rfl, by omega, by omega, World.ownsRow_nil _ _ _ _, ⟨by simp, fun i hi => absurd hi (by simp)⟩, HB2.out, HP2.out, HQ2.out, HR2.out, HT2.out⟩
  case round =>
    clear HB2 HP2 HQ2 HR2 HT2
    obtain ⟨k, vs, rfl, hk, hq, hown, hrows, hb, hp, hp1, hr, ht⟩ := hrel
    have HO : Hid (wr.ownsRow (w.heap.size + 2) 22 1 _ k vs) := hown
    have HRS : Hid (RowsIn wr w.heap.size vs (s.gone.take k)) := hrows
    have HB : Hid (Below w.heap.size w wr) := hb
    have HP : Hid _ := hp
    have HQ : Hid _ := hp1
    have HR : Hid (RowIn wr w.heap.size _ s.cs) := hr
    have HT : Hid (wr.ownsRow w.heap.size 4 1 _ s.tabs.length (s.tabs.map Value.bool)) := ht
    have hN := heap_lt hp1
    clear hown hrows hb hr ht
    by_cases hlt : k < s.gone.length
    · have lt1 : ((k : Int) < (s.gone.length : Int)) := by omega
      rcases HV.out.g with ⟨he, -⟩ | ⟨b, o, c, hvv, -, -, hc⟩
      · rw [he] at hlt
        exact absurd hlt (by simp)
      injection hvv with hvv1 hvv2 hvv3
      subst hvv1 hvv3
      obtain ⟨rv, hc1, hS⟩ := hc k hlt
      have q0 := cell_stay HB.out hc1
      obtain ⟨ra, rc, hrv⟩ := hS.shape
      subst hrv
      have HCL := cloneCells_any _ w.heap.size (s.gone.getD k []) wr (hS.below HB.out) (HBK.out.row k hlt)
      have HTK : Hid (s.gone.take (k + 1) = s.gone.take k ++ [s.gone.getD k []]) := take_next _ _ _ hlt
      clear hc hc1 hS hp hp1
      generalize s.gone.getD k [] = row at *
      have hsl := own_slice HO.out
      go_upto_region 7 with fail
      go_wp2_with (first | (go_at_call 115; refine HCL.mono ?_; rintro e W2 ⟨na, nc, rfl, hr2, b2⟩) | (at_builtin; refine Hid.out ?_))
      unfold Hid
      have HR2 : Hid (RowIn W2 w.heap.size (.slice na row.length nc) row) := hr2
      have hown2 : W2.ownsRow (w.heap.size + 2) 22 1 _ k vs := Grd.ownsRow_below HO.out b2
      have hgl := HBK.out.f.gl
      have hs2 := b2.size
      refine wpList_append_own _ rfl _ _ 30 rfl (w.heap.size + 2) 22 i0 (.slice none 0 0) 1 24 und_rows hi hz0 hz1 hz2 rfl (by decide) _ _ _ rfl (hown2.alloc _) ⟨W2.heap.size, 0, none⟩ 1 1 [.slice na row.length nc] rfl rfl (cell_one_new _ _ _) (by intro u hu; simp at hu; rw [hu]; rfl) (by unfold maxLen; omega) (by omega) (by simp; omega) ?_
      intro v3 W3 hown3 hgrow hnil
      go_wp2_with fail
      have kZ : Below W2.heap.size W2 (W2.alloc (.cells #[.slice na row.length nc] 22)) := (Below.refl _ _).alloc (Nat.le_refl _) _
      have hfrom := Grd.own_from HO.out
      have kb2 := HB.out.trans (b2.mono HB.out.size)
      have hN2 := b2.size
      have kk := Kept.grown (hown2.alloc (.cells #[.slice na row.length nc] 22)) (show w.heap.size ≤ w.heap.size + 2 by omega) hgrow
      have ka := Kept.of_below (N := w.heap.size) b2
      have kz := Kept.of_below (N := w.heap.size) kZ
      go_roundg (s.gone.length - (k + 1))
      case measure => omega
      case rel =>
        refine ⟨k + 1, vs ++ [.slice na row.length nc], rfl, by omega, by omega, hown3, ?_, ?_, ?_, ?_, ?_, ?_⟩
        · rw [HTK.out]
          exact (((HRS.out.keep ka).keep kz).keep kk).snoc ((HR2.out.keep kz).keep kk)
        · exact (kb2.alloc kb2.size _).grown hgrow (by simp; omega) (fun q hq => by have := hfrom q hq; omega)
        · rw [hgrow.block _ (by simp; omega) (fun e => by have := hfrom _ e.symm; omega)]
          exact Grd.carry (Grd.carry HP.out b2) kZ
        · rw [hgrow.block _ (by simp; omega) (fun e => by have := hfrom _ e.symm; omega)]
          exact Grd.carry (Grd.carry HQ.out b2) kZ
        · exact ((HR.out.keep ka).keep kz).keep kk
        · exact own_grown (own_next (own_next HT.out b2) kZ) (hown2.alloc _) (by decide) hgrow
    · have lt1 : ¬ ((k : Int) < (s.gone.length : Int)) := by omega
      have hkh : k = s.gone.length := by omega
      subst hkh
      rw [List.take_length] at HRS
      obtain ⟨na, nc, rfl⟩ := own_slice HO.out
      have f21 := (scr_cells hp).2.2 21
      have c21 := (scr_cells hp).2.1.2.2.2.2.2.2.2.2.2.2
      have HY0 : Hid ((wr.setCell ⟨w.heap.size, 21, none⟩ (.slice na s.gone.length nc)).heap[w.heap.size]? = some (.cells (scrA s (.slice a1 s.cs.length c1) (.slice a2 s.tabs.length c2n) (.slice na s.gone.length nc)) 32 (0, 0))) := store_at hp rfl
      have HY1 : Hid ((wr.setCell ⟨w.heap.size, 21, none⟩ (.slice na s.gone.length nc)).heap[w.heap.size + 1]? = _) := (store_off (by omega)).trans hp1
      have kk : Kept w.heap.size wr (wr.setCell ⟨w.heap.size, 21, none⟩ (.slice na s.gone.length nc)) := Kept.store hp (by decide) (Nat.le_refl _)
      have HRI : Hid (RowIn (wr.setCell ⟨w.heap.size, 21, none⟩ (.slice na s.gone.length nc)) w.heap.size (.slice a1 s.cs.length c1) s.cs) := HR.out.keep kk
      have HRG : Hid (RowsIn (wr.setCell ⟨w.heap.size, 21, none⟩ (.slice na s.gone.length nc)) w.heap.size vs s.gone) := HRS.out.keep kk
      have HTT : Hid ((wr.setCell ⟨w.heap.size, 21, none⟩ (.slice na s.gone.length nc)).ownsRow w.heap.size 4 1 (.slice a2 s.tabs.length c2n) s.tabs.length (s.tabs.map Value.bool)) := own_off HT.out hp (by decide)
      have HOO : Hid ((wr.setCell ⟨w.heap.size, 21, none⟩ (.slice na s.gone.length nc)).ownsRow (w.heap.size + 2) 22 1 (.slice na s.gone.length nc) s.gone.length vs) := own_off HO.out hp (by decide)
      have HBB : Hid (Below w.heap.size w (wr.setCell ⟨w.heap.size, 21, none⟩ (.slice na s.gone.length nc))) := HB.out.setCell (Nat.le_refl _) _
      clear hp hp1 kk
      go_wp2_with (first
        | (refine wpList_load_row rfl 32 (.tmp 1) rfl w.heap.size rfl _ _ _ _ HY0.out Tryz.underlying32 rfl (by kernel_rfl) ?_)
        | (refine wpList_store_row rfl 32 (.tmp 2) _ rfl (w.heap.size + 1) (scrA s (.slice a1 s.cs.length c1) (.slice a2 s.tabs.length c2n) (.slice na s.gone.length nc)) rfl rfl _ _ HY1.out (by kernel_rfl) rfl (scr_one _ _ _ _ _ _ _ _ _ _) ?_))
      (try simp only [Exit.inBlock, Exit.then])
      have ko : ∀ k, k ≠ w.heap.size + 1 → ((wr.setCell ⟨w.heap.size, 21, none⟩ (.slice na s.gone.length nc)).setRow (w.heap.size + 1) (scrA s (.slice a1 s.cs.length c1) (.slice a2 s.tabs.length c2n) (.slice na s.gone.length nc))).heap[k]? = (wr.setCell ⟨w.heap.size, 21, none⟩ (.slice na s.gone.length nc)).heap[k]? := fun k hk => setRow_other _ _ _ _ hk
      have kt : ∀ (k : Nat) (A : Array Value) (t : TypeId) (f : Nat × Nat), (wr.setCell ⟨w.heap.size, 21, none⟩ (.slice na s.gone.length nc)).heap[k]? = some (.cells A t f) → t ≠ 32 → k ≠ w.heap.size + 1 := fun k A t f hk ht e => by
        have h1 := HY1.out
        rw [← e, hk] at h1
        injection h1 with h1
        injection h1 with _ h1 _
        exact ht h1
      have kk : Kept w.heap.size (wr.setCell ⟨w.heap.size, 21, none⟩ (.slice na s.gone.length nc)) ((wr.setCell ⟨w.heap.size, 21, none⟩ (.slice na s.gone.length nc)).setRow (w.heap.size + 1) (scrA s (.slice a1 s.cs.length c1) (.slice a2 s.tabs.length c2n) (.slice na s.gone.length nc))) := fun k hk hS => ko k (by
        rcases hS with hS | ⟨A, f, hS⟩
        · omega
        · exact kt k A _ f hS (by decide))
      refine bodyPost_ret (v := .agg (scrA s (.slice a1 s.cs.length c1) (.slice a2 s.tabs.length c2n) (.slice na s.gone.length nc))) ?_ rfl ⟨_, _, _, rfl, ⟨(HRI.out.keep kk).cells, own_boolsV (owns_kept HTT.out fun g hg => ?_), own_rowsV (owns_kept HOO.out fun g hg => ?_) (HRG.out.keep kk).list⟩, below_setRow HBB.out (by omega) _⟩
      · exact results_cell_row rfl _ _ (w.heap.size + 1) _ _ _ _ rfl (setRow_heap _ _ _ _ _ _ HY1.out) Tryz.underlying32 rfl (by kernel_rfl)
      · obtain ⟨-, A, f, hA⟩ := owns_block HTT.out g hg
        exact ko g (kt g A _ f hA (by decide))
      · obtain ⟨-, A, f, hA⟩ := owns_block HOO.out g hg
        exact ko g (kt g A _ f hA (by decide))
end Put
end Go.Proofs.YtnkeahfcpbepjaaGreatDoor

/- A list of rows, anywhere in a block of such. -/
namespace Go.Proofs.YtnkeahfcpbepjaaGreatDoor
open Go.ChangeShapes Go.WideShapes Go.ChangeAt Go.RowKit
namespace Put
open Grd (C SliceAt CellsAt gridErr z0 nilV rowsL RowsAt RowB flat)
/-- The block that a slice speaks of. -/
def blkOf (v : Value) : Option Nat := match v with
  | .slice (some a) _ _ => some a.block
  | _ => none
/-- A list of rows' values, anywhere in a block of such: from N on. -/
def GoneV (W : World) (N : Nat) (v : Value) (n : Nat) (vs : List Value) : Prop :=
  vs.length = n ∧ ((n = 0 ∧ ∃ a c, v = .slice a 0 c) ∨ ∃ g o cap A, v = .slice (some ⟨g, o, none⟩) n cap ∧ N ≤ g ∧ n ≤ cap ∧ cap ≤ 9223372036854775807 ∧ W.heap[g]? = some (.cells A 22 (0, 0)) ∧ ∀ j, j < n → A[o + j]? = some (vs.getD j nilV))
theorem GoneV.of {W : World} {N : Nat} {v : Value} {n : Nat} {vs : List Value} (h : W.ownsRow N 22 1 v n vs) : GoneV W N v n vs := by
  obtain ⟨h0, ⟨rfl, rfl⟩ | ⟨g, cap, cur, rfl, hg, hh, hc, hm, hs, htk⟩⟩ := h
  · exact ⟨by simpa using h0, .inl ⟨rfl, none, 0, rfl⟩⟩
  · refine ⟨by simpa using h0, .inr ⟨g, 0, cap, cur, rfl, hg, hc, by unfold maxLen at hm; omega, hh, fun j hj => ?_⟩⟩
    have hl : vs.length = n := by simpa using h0
    rw [Nat.zero_add]
    have e : cur[j]? = vs[j]? := by rw [← htk, ← Array.getElem?_toList, List.getElem?_take_of_lt (by omega)]
    rw [e]
    simp [List.getD, List.getElem?_eq_getElem (show j < vs.length by omega)]
theorem GoneV.slice {W : World} {N : Nat} {v : Value} {n : Nat} {vs : List Value} (h : GoneV W N v n vs) : ∃ a c, v = .slice a n c := by
  obtain ⟨-, ⟨rfl, a, c, rfl⟩ | ⟨g, o, cap, A, rfl, -⟩⟩ := h
  · exact ⟨a, c, rfl⟩
  · exact ⟨_, cap, rfl⟩
theorem GoneV.kept {W W' : World} {N : Nat} {v : Value} {n : Nat} {vs : List Value} (h : GoneV W N v n vs) (hk : ∀ g, v.ownBlock = some g → W'.heap[g]? = W.heap[g]?) : GoneV W' N v n vs := by
  obtain ⟨h0, h | ⟨g, o, cap, A, hv, h1, h2, h3, h4, h5⟩⟩ := h
  · exact ⟨h0, .inl h⟩
  · exact ⟨h0, .inr ⟨g, o, cap, A, hv, h1, h2, h3, (hk g (by rw [hv]; rfl)).trans h4, h5⟩⟩
theorem GoneV.next {W W' : World} {N : Nat} {v : Value} {n : Nat} {vs : List Value} (h : GoneV W N v n vs) (hb : Below W.heap.size W W') : GoneV W' N v n vs := by
  obtain ⟨h0, h | ⟨g, o, cap, A, hv, h1, h2, h3, h4, h5⟩⟩ := h
  · exact ⟨h0, .inl h⟩
  · exact ⟨h0, .inr ⟨g, o, cap, A, hv, h1, h2, h3, Grd.carry h4 hb, h5⟩⟩
theorem GoneV.apart {W W' : World} {N p : Nat} {t : TypeId} {v : Value} {n : Nat} {vs : List Value} {A : Array Value} {f : Nat × Nat} (h : GoneV W N v n vs) (hp : W.heap[p]? = some (.cells A t f)) (ht : t ≠ 22) (ho : ∀ k, k ≠ p → W'.heap[k]? = W.heap[k]?) : GoneV W' N v n vs := by
  obtain ⟨h0, h | ⟨g, o, cap, B, hv, h1, h2, h3, h4, h5⟩⟩ := h
  · exact ⟨h0, .inl h⟩
  · refine ⟨h0, .inr ⟨g, o, cap, B, hv, h1, h2, h3, (ho g fun e => ?_).trans h4, h5⟩⟩
    rw [e, hp] at h4
    injection h4 with h4
    injection h4 with _ h4 _
    exact ht h4
theorem GoneV.rowsV {W : World} {N : Nat} {v : Value} {rows : List (List C)} {vs : List Value} (h : GoneV W N v rows.length vs) (hr : RowsL W vs rows) : RowsV W v rows := by
  obtain ⟨h0, ⟨hn, a, c, hv⟩ | ⟨g, o, cap, A, hv, h1, h2, h3, h4, h5⟩⟩ := h
  · exact .inl ⟨List.eq_nil_of_length_eq_zero hn, a, c, hv⟩
  · refine .inr ⟨g, o, cap, hv, h2, h3, fun j hj => ⟨vs.getD j nilV, ?_, hr.2 j hj⟩⟩
    simp only [World.cell?, h4]
    rw [h5 j hj]
    rfl
end Put
end Go.Proofs.YtnkeahfcpbepjaaGreatDoor

/- The reference's desk: a screen under way; Take, Give. -/
namespace Go.Proofs.YtnkeahfcpbepjaaGreatDoor
open Go.ChangeShapes Go.WideShapes Go.ChangeAt Go.RowKit
namespace Put
open Grd (C SliceAt CellsAt gridErr z0 nilV rowsL RowsAt RowB flat)
/-- A desk in memory: its block p, its rows in blocks of their own (gs), which nothing else speaks of. -/
structure DkA (W : World) (N p : Nat) (s : Scr) (rows : List (List C)) (cv tv gv rv : Value) (gvs vs : List Value) (gs : List Nat) : Prop where
  blk : W.heap[p]? = some (.cells (shA s cv tv gv rv) 50 (0, 0))
  lo : N ≤ p
  cvs : ∃ a n c, cv = .slice a n c
  tabs : W.ownsRow N 4 1 tv s.tabs.length (s.tabs.map Value.bool)
  gone : GoneV W N gv s.gone.length gvs
  gin : RowsIn W N gvs s.gone
  gof : ∀ i, i < s.gone.length → s.gone.getD i [] ≠ [] → ∀ g, blkOf (gvs.getD i nilV) = some g → g ∉ gs
  rws : W.ownsRow N 22 1 rv rows.length vs
  rin : RowsAt W N vs gs rows
  two : ∀ k, rv.ownBlock = some k → gv.ownBlock ≠ some k
def DkAt (W : World) (N p : Nat) (s : Scr) (rows : List (List C)) : Prop := ∃ cv tv gv rv gvs vs gs, DkA W N p s rows cv tv gv rv gvs vs gs
theorem DkA.next {W W' : World} {N p : Nat} {s : Scr} {rows : List (List C)} {cv tv gv rv : Value} {gvs vs : List Value} {gs : List Nat} (h : DkA W N p s rows cv tv gv rv gvs vs gs) (hb : Below W.heap.size W W') : DkA W' N p s rows cv tv gv rv gvs vs gs :=
  ⟨Grd.carry h.blk hb, h.lo, h.cvs, own_next h.tabs hb, h.gone.next hb, h.gin.keep (Kept.of_below hb), h.gof, own_next h.rws hb, h.rin.below hb, h.two⟩
theorem DkAt.next {W W' : World} {N p : Nat} {s : Scr} {rows : List (List C)} (h : DkAt W N p s rows) (hb : Below W.heap.size W W') : DkAt W' N p s rows := by
  obtain ⟨cv, tv, gv, rv, gvs, vs, gs, h⟩ := h
  exact ⟨_, _, _, _, _, _, _, h.next hb⟩
theorem DkAt.lo {W : World} {N p : Nat} {s : Scr} {rows : List (List C)} (h : DkAt W N p s rows) : N ≤ p := by
  obtain ⟨cv, tv, gv, rv, gvs, vs, gs, h⟩ := h
  exact h.lo
theorem rowB_type {W : World} {g : Nat} {v : Value} {row : List C} (h : RowB W g v row) : ∃ A, W.heap[g]? = some (.cells A 91 (0, 0)) := by
  obtain ⟨cap, rest, -, -, -, h⟩ := h
  exact ⟨_, h⟩
/-- A block that is none of the rows' keeps its number. -/
theorem RowsAt.apart {W W' : World} {N p : Nat} {vs : List Value} {gs : List Nat} {rows : List (List C)} {A : Array Value} {t : TypeId} {f : Nat × Nat} (h : RowsAt W N vs gs rows) (hp : W.heap[p]? = some (.cells A t f)) (ht : t ≠ 91) (ho : ∀ k, k ≠ p → W'.heap[k]? = W.heap[k]?) : RowsAt W' N vs gs rows :=
  h.kept fun i hi => ho _ fun e => by
    obtain ⟨B, hB⟩ := rowB_type (h.2.2.2 i hi).2
    rw [e, hp] at hB
    injection hB with hB
    injection hB with _ hB _
    exact ht hB
theorem own_apart {W W' : World} {N p : Nat} {e t : TypeId} {u : Value} {n : Nat} {xs : List Value} {A : Array Value} {f : Nat × Nat} (h : W.ownsRow N e 1 u n xs) (hp : W.heap[p]? = some (.cells A t f)) (ht : t ≠ e) (ho : ∀ k, k ≠ p → W'.heap[k]? = W.heap[k]?) : W'.ownsRow N e 1 u n xs :=
  owns_kept h fun g hg => ho g fun eq => by
    obtain ⟨-, B, f', hB⟩ := owns_block h g hg
    rw [eq, hp] at hB
    injection hB with hB
    injection hB with _ hB _
    exact ht hB
theorem Kept.apart {W W' : World} {N p : Nat} {t : TypeId} {A : Array Value} {f : Nat × Nat} (hp : W.heap[p]? = some (.cells A t f)) (ht : t ≠ 91) (hN : N ≤ p) (ho : ∀ k, k ≠ p → W'.heap[k]? = W.heap[k]?) : Kept N W W' := fun k _ hS => ho k fun e => by
  subst e
  rcases hS with hS | ⟨B, f', hS⟩
  · omega
  · rw [hp] at hS
    injection hS with hS
    injection hS with _ hS _
    exact ht hS
/-- Other words in the desk's own block, but for the tabs, the rows and what is gone. -/
theorem DkA.put {W W' : World} {N p : Nat} {s s' : Scr} {rows : List (List C)} {cv tv gv rv : Value} {gvs vs : List Value} {gs : List Nat} (h : DkA W N p s rows cv tv gv rv gvs vs gs)
    (hp : W'.heap[p]? = some (.cells (shA s' cv tv gv rv) 50 (0, 0))) (ho : ∀ k, k ≠ p → W'.heap[k]? = W.heap[k]?) (htabs : s'.tabs = s.tabs) (hgone : s'.gone = s.gone) : DkA W' N p s' rows cv tv gv rv gvs vs gs := by
  refine ⟨hp, h.lo, h.cvs, ?_, ?_, ?_, ?_, own_apart h.rws h.blk (by decide) ho, RowsAt.apart h.rin h.blk (by decide) ho, h.two⟩
  · rw [htabs]
    exact own_apart h.tabs h.blk (by decide) ho
  · rw [hgone]
    exact h.gone.apart h.blk (by decide) ho
  · rw [hgone]
    exact h.gin.keep (Kept.apart h.blk (by decide) h.lo ho)
  · rw [hgone]
    exact h.gof
theorem DkAt.set {W : World} {N p : Nat} {s s' : Scr} {rows : List (List C)} (h : DkAt W N p s rows) (i : Nat) (v : Value) (e : ∀ cv tv gv rv, (shA s cv tv gv rv).setIfInBounds i v = shA s' cv tv gv rv) (h1 : s'.tabs = s.tabs) (h2 : s'.gone = s.gone) : DkAt (W.setCell ⟨p, i, none⟩ v) N p s' rows := by
  obtain ⟨cv, tv, gv, rv, gvs, vs, gs, h⟩ := h
  exact ⟨_, _, _, _, _, _, _, h.put (store_at h.blk (e _ _ _ _)) (fun k hk => store_off hk) h1 h2⟩
/-- The words of a desk that stand for themselves. -/
theorem DkAt.words {W : World} {N p : Nat} {s : Scr} {rows : List (List C)} (h : DkAt W N p s rows) :
    W.cell? ⟨p, 0, none⟩ = some (.int .i64 s.w) ∧ W.cell? ⟨p, 1, none⟩ = some (.int .i64 s.h) ∧ W.cell? ⟨p, 3, none⟩ = some (.int .i64 s.x) ∧ W.cell? ⟨p, 4, none⟩ = some (.int .i64 s.y) ∧ W.cell? ⟨p, 5, none⟩ = some (.bool s.late) ∧ W.cell? ⟨p, 9, none⟩ = some (.int .i64 s.top) ∧ W.cell? ⟨p, 10, none⟩ = some (.int .i64 s.bot) ∧ W.cell? ⟨p, 11, none⟩ = some (.int .i64 s.modes) ∧ W.cell? ⟨p, 19, none⟩ = some (.int .i32 s.last) ∧ ∀ i, W.frozen? ⟨p, i, none⟩ = false := by
  obtain ⟨cv, tv, gv, rv, gvs, vs, gs, h⟩ := h
  obtain ⟨⟨c0, c1, -, c3, c4, c5, -, -, -, c9, c10⟩, ⟨c11, -, -, -, -, -, -, -, c19, -⟩, f⟩ := sh_cells h.blk
  exact ⟨c0, c1, c3, c4, c5, c9, c10, c11, c19, f⟩
theorem buildD_run (W : World) (s : Scr) (cv tv gv : Value) (a : Option Addr) (n c : Nat) : (Instr.build 50 #[(0, .agg (scrA s cv tv gv)), (1, .slice a n c)]).run Tryz.prog W = .ok (.agg (shA s cv tv gv (.slice a n c))) W := by
  kernel_rfl
theorem buildD_scr (a : Act) (dst : Option Tmp) (x y : Operand) (ty : TypeId) (pos : String) (after : Array Edge) (guard : Option (Nat × Bool)) (W : World) (h : IsScrV (a.eval x)) (hy : IsSliceV (a.eval y)) :
    (execOp a.eval { dst, op := .build 50 #[(0, x), (1, y)], type := ty, pos, after, guard }).run Tryz.prog W = .ok (.value (.agg (sheetOf (a.eval x) (a.eval y)))) W := by
  obtain ⟨s, cv, tv, gv, hx⟩ := h
  obtain ⟨p, n, c, hy⟩ := hy
  unfold execOp
  simp only [List.map_toArray, List.map_cons, List.map_nil, hx, hy, sheetOf_scr, Sem.run_bind, buildD_run, Sem.run_pure, Result.andThen_ok]
theorem rowsAt_ne {W : World} {N : Nat} {vs : List Value} {gs : List Nat} {rows : List (List C)} (h : RowsAt W N vs gs rows) (g : Nat) (hg : g ∈ gs) : N ≤ g ∧ g < W.heap.size := by
  obtain ⟨i, hi, rfl⟩ := List.mem_iff_getElem.1 hg
  have hi' : i < rows.length := by rw [← h.2.1]; exact hi
  have e : gs.getD i 0 = gs[i] := by simp [List.getD, hi]
  have h1 := (h.2.2.2 i hi').1
  have h2 := h.lt i hi'
  rw [e] at h1 h2
  exact ⟨h1, h2⟩
section
attribute [local go_sem ↓] load_scr buildD_scr
attribute [local go_sem] isScrV isSliceV sheetOf_scr
set_option maxHeartbeats 4000000 in
theorem take_any (n hh : Nat) (s : Scr) (cv tv gv : Value) (w0 w : World) (hV : ScrV w0 s cv tv gv) (hb0 : Below w0.heap.size w0 w) (hF : Fits s) (hw : s.w = n) (hh' : s.h = hh) (hz : gridErr n hh s.cs = 0) :
    Calls Tryz.prog 67 #[.agg (scrA s cv tv gv)] w fun e W' => ∃ p, e = .returned (.pointer (some ⟨p, 0, none⟩)) ∧ DkAt W' w.heap.size p s (rowsL n s.cs hh) ∧ Below w.heap.size w W' := by
  have hzz := (Grd.gridErr_zero n hh s.cs).1 hz
  obtain ⟨hsz, hL, -⟩ := hzz
  have hsz' : 1 ≤ (n : Int) ∧ (n : Int) ≤ 120 ∧ 1 ≤ (hh : Int) ∧ (hh : Int) ≤ 60 := by simpa [Grd.isSize] using hsz
  obtain ⟨w1, w2, w3, w4⟩ := hsz'
  have hne : s.cs ≠ [] := by
    intro e
    rw [e] at hL
    have : 1 ≤ n * hh := Nat.mul_pos (by omega) (by omega)
    simp at hL
    omega
  rcases hV.c with ⟨he, -⟩ | ⟨-, b, o, cap, rfl, hc1, hc2, hC⟩
  · exact absurd he hne
  have HL : Hid (s.cs.length = n * hh) := hL
  have HC : Hid (CellsAt w0 b o s.cs) := hC
  have HB00 : Hid (Below w0.heap.size w0 w) := hb0
  have HW : Hid (s.w = n ∧ s.h = hh) := ⟨hw, hh'⟩
  have HSZ : Hid (Grd.isSize n hh = true) := hsz
  clear hL hC hz hsz hne hw hh'
  have x0 := heap_alloc_new w (.cells (scrA s (.slice (some ⟨b, o, none⟩) s.cs.length cap) tv gv) 32)
  have kb : Below w.heap.size w (w.alloc (.cells (scrA s (.slice (some ⟨b, o, none⟩) s.cs.length cap) tv gv) 32)) := (Below.refl _ _).alloc (Nat.le_refl _) _
  have HX0 : Hid _ := x0
  have HB0 : Hid _ := kb
  have HV : Hid (ScrV w0 s _ tv gv) := hV
  have HF : Hid (Fits s) := hF
  clear x0 kb hV hF hb0
  have hl0 : w.heap.size < (w.alloc (.cells (scrA s (.slice (some ⟨b, o, none⟩) s.cs.length cap) tv gv) 32)).heap.size := by simp
  go_enter Tryz.func67, Tryz.ntmps67
  go_upto_region 1 with fail
  generalize w.alloc (.cells (scrA s (.slice (some ⟨b, o, none⟩) s.cs.length cap) tv gv) 32) = W1 at *
  go_cut [3] from 3 to 9 (fun c wx => ∃ p rv vs gs, c = .pointer (some ⟨p, 0, none⟩) ∧ w.heap.size ≤ p ∧ wx.heap[p]? = some (.cells (shA s (.slice (some ⟨b, o, none⟩) s.cs.length cap) tv gv rv) 50 (0, 0)) ∧ wx.ownsRow w.heap.size 22 1 rv hh vs ∧ RowsAt wx w.heap.size vs gs (rowsL n s.cs hh) ∧ Below W1.heap.size W1 wx)
  case first =>
    have SK : Hid (∀ w', Below W1.heap.size W1 w' → Below W1.heap.size W1 w' ∧ ScrPtr w' (.pointer (some ⟨w.heap.size, 0, none⟩)) ∧ blkAt w' (.pointer (some ⟨w.heap.size, 0, none⟩)) = scrA s (.slice (some ⟨b, o, none⟩) s.cs.length cap) tv gv ∧ w'.cell? ⟨w.heap.size, 0, none⟩ = some (.int .i64 (n : Int)) ∧ w'.cell? ⟨w.heap.size, 1, none⟩ = some (.int .i64 (hh : Int)) ∧ w'.cell? ⟨w.heap.size, 2, none⟩ = some (.slice (some ⟨b, o, none⟩) s.cs.length cap)) := fun w' hb => by
      have hx := Grd.carry HX0.out hb
      have q := scr_cells hx
      rw [HW.out.1, HW.out.2] at q
      exact ⟨hb, (scrPtr_of hx).1, (scrPtr_of hx).2, q.1.1, q.1.2.1, q.1.2.2.1⟩
    have b0 : Below W1.heap.size W1 W1.drew := (Below.refl _ _).drew
    have HC1 : Hid (s.cs.length ≤ cap) := hc1
    have hh1 : 0 < hh := by omega
    clear hc1
    go_region_held3 (fun w' => Below W1.heap.size W1 w' ∧ ScrPtr w' (.pointer (some ⟨w.heap.size, 0, none⟩)) ∧ blkAt w' (.pointer (some ⟨w.heap.size, 0, none⟩)) = scrA s (.slice (some ⟨b, o, none⟩) s.cs.length cap) tv gv ∧ w'.cell? ⟨w.heap.size, 0, none⟩ = some (.int .i64 (n : Int)) ∧ w'.cell? ⟨w.heap.size, 1, none⟩ = some (.int .i64 (hh : Int)) ∧ w'.cell? ⟨w.heap.size, 2, none⟩ = some (.slice (some ⟨b, o, none⟩) s.cs.length cap))
      (first | exact SK.out _ (c1.alloc c1.size _) | exact SK.out _ c1 | exact SK.out _ b0)
      (first | (go_at_call 125; refine (Grd.rows_any n hh b o cap s.cs W1.drew (HC.out.below (HB00.out.trans ((HB0.out.trans (b0.mono HB0.out.size)).mono HB00.out.size))) HSZ.out HL.out HC1.out).mono ?_; rintro e V1 ⟨v, vs, gs, rfl, ho, hra, b1⟩; have c1 := b0.trans (b1.mono b0.size); have HO : Hid (V1.ownsRow W1.heap.size 22 1 v hh vs) := ho; have HRA : Hid (RowsAt V1 W1.heap.size vs gs (rowsL n s.cs hh)) := hra; obtain ⟨g, cp, rfl⟩ := own_shape ho hh1; clear b1 ho hra))
    go_wp2_with fail
    go_meet
    refine ⟨V1.heap.size, _, vs, gs, rfl, Nat.le_trans (Nat.le_of_lt hl0) c1.size, heap_alloc_new _ _, Grd.ownsRow_mono (World.ownsRow.alloc HO.out _) (by omega), ?_, c1.alloc c1.size _⟩
    have h1 := HRA.out.below ((Below.refl V1.heap.size V1).alloc (Nat.le_refl _) (.cells (shA s (.slice (some ⟨b, o, none⟩) s.cs.length cap) tv gv (.slice (some ⟨g, 0, none⟩) hh cp)) 50))
    exact ⟨h1.1, h1.2.1, h1.2.2.1, fun i hi => ⟨by have := (h1.2.2.2 i hi).1; omega, (h1.2.2.2 i hi).2⟩⟩
  case rest =>
    obtain ⟨p, rv, vs, gs, rfl, hp, hblk, hown, hra, hb⟩ := hcut
    have hne : w.heap.size ≠ p := by
      intro e
      rw [← e, Grd.carry HX0.out hb] at hblk
      injection hblk with hblk
      injection hblk with _ hblk _
      exact absurd hblk (by decide)
    have HX1 : Hid _ := Grd.carry HX0.out hb
    have HP1 : Hid _ := hblk
    have HO1 : Hid _ := hown
    have HR1 : Hid (RowsAt wc w.heap.size vs gs (rowsL n s.cs hh)) := hra
    have HB1 : Hid (Below w.heap.size w wc) := HB0.out.trans (hb.mono HB0.out.size)
    have hlow : ∀ {V : World}, Below w.heap.size w V → Below w0.heap.size w0 V := fun h => HB00.out.trans (h.mono HB00.out.size)
    have HLOW : Hid (∀ {V : World}, Below w.heap.size w V → Below w0.heap.size w0 V) := hlow
    clear hblk hown hb hra hlow
    obtain ⟨-, ⟨-, c12, -⟩, -⟩ := scr_cells HX1.out
    go_wp2_with fail
    refine (cloneBools_any tv s.tabs wc (BoolsV.next HV.out.t (HLOW.out HB1.out)) HF.out.bl).mono ?_
    rintro e W2 ⟨tv', rfl, ho2, b2⟩
    obtain ⟨ta, tc, rfl⟩ := own_slice ho2
    have hp2 := Grd.carry HP1.out b2
    have f12 := (sh_cells hp2).2.2 12
    have c12' := (sh_cells hp2).2.1.2.1
    clear c12
    have HP2 : Hid _ := store_at (i := 12) (v := .slice ta s.tabs.length tc) hp2 rfl
    have HX2 : Hid _ := (store_off (i := 12) (v := .slice ta s.tabs.length tc) hne).trans (Grd.carry HX1.out b2)
    have HT2 : Hid _ := own_off (i := 12) (v := .slice ta s.tabs.length tc) ho2 hp2 (by decide)
    have HO2 : Hid _ := own_off (i := 12) (v := .slice ta s.tabs.length tc) (own_next HO1.out b2) hp2 (by decide)
    have HR2 : Hid (RowsAt (W2.setCell ⟨p, 12, none⟩ (.slice ta s.tabs.length tc)) w.heap.size vs gs (rowsL n s.cs hh)) := RowsAt.apart (HR1.out.below b2) hp2 (by decide) fun k hk => store_off hk
    have HB2 : Hid (Below w.heap.size w (W2.setCell ⟨p, 12, none⟩ (.slice ta s.tabs.length tc))) := (HB1.out.trans (b2.mono HB1.out.size)).setCell hp _
    have c21 := (scr_cells (Grd.carry HX1.out b2)).2.1.2.2.2.2.2.2.2.2.2.2
    clear ho2 b2 hp2
    go_wp2_with fail
    refine (cloneRows_any gv s.gone _ (RowsV.next HV.out.g (HLOW.out HB2.out)) HF.out.gl).mono ?_
    rintro e W6 ⟨gv', gvs, rfl, ho6, -, hr6, b6⟩
    have HR6 : Hid (RowsL w0 gvs s.gone) := hr6 w0 (HLOW.out HB2.out) HV.out.g
    obtain ⟨ga, gc, rfl⟩ := own_slice ho6
    have hp6 := Grd.carry HP2.out b6
    have f21 := (sh_cells hp6).2.2 21
    have c21' := (sh_cells hp6).2.1.2.2.2.2.2.2.2.2.2.2.1
    have HP6 : Hid _ := store_at (i := 21) (v := .slice ga s.gone.length gc) hp6 rfl
    have HT6 : Hid _ := own_off (i := 21) (v := .slice ga s.gone.length gc) (own_next HT2.out b6) hp6 (by decide)
    have HO6 : Hid _ := own_off (i := 21) (v := .slice ga s.gone.length gc) (own_next HO2.out b6) hp6 (by decide)
    have HG6 : Hid _ := own_off (i := 21) (v := .slice ga s.gone.length gc) ho6 hp6 (by decide)
    have HRA6 : Hid (RowsAt (W6.setCell ⟨p, 21, none⟩ (.slice ga s.gone.length gc)) w.heap.size vs gs (rowsL n s.cs hh)) := RowsAt.apart (HR2.out.below b6) hp6 (by decide) fun k hk => store_off hk
    have HB6 : Hid (Below w.heap.size w (W6.setCell ⟨p, 21, none⟩ (.slice ga s.gone.length gc))) := (HB2.out.trans (b6.mono HB2.out.size)).setCell hp _
    have HTW : Hid (∀ k, rv.ownBlock = some k → (Value.slice ga s.gone.length gc).ownBlock ≠ some k) := fun k h1 h2 => by
      obtain ⟨-, A, f, hA⟩ := owns_block HO2.out k h1
      obtain ⟨hB, -⟩ := owns_block ho6 k h2
      have := heap_lt hA
      omega
    clear ho6 b6 hp6 c21 c12' f12 hr6
    go_wp2_with fail
    go_ret
    have hg0 : ∀ i, i < s.gone.length → s.gone.getD i [] ≠ [] → ∀ g, blkOf (gvs.getD i nilV) = some g → g < w0.heap.size := fun i hi hne' g hg => by
      rcases HR6.out.2 i hi with ⟨he, -⟩ | ⟨-, b', o', c', hv, -, -, hC'⟩
      · exact absurd he hne'
      · rw [hv] at hg
        have e : b' = g := by simpa [blkOf] using hg
        rw [← e]
        exact lt_of_cells hC' hne'
    have hM := HB00.out.size
    have hM1 := HB1.out.size
    have hM2 := HB2.out.size
    refine ⟨p, rfl, ⟨_, _, _, rv, gvs, vs, gs, HP6.out, hp, ⟨_, _, _, rfl⟩, Grd.ownsRow_mono HT6.out hM1, GoneV.of (Grd.ownsRow_mono HG6.out hM2), ?_, fun i hi hne' g hg hm => ?_, ?_, HRA6.out, HTW.out⟩, HB6.out⟩
    · have h1 := (RowsIn.of HR6.out rfl).keep (Kept.of_below (HLOW.out HB6.out))
      refine ⟨h1.1, fun i hi => ?_⟩
      rcases h1.2 i hi with h | ⟨h2, b', o', c', h3, h4, h5, h6, h7⟩
      · exact .inl h
      · exact .inr ⟨h2, b', o', c', h3, h4, h5, h6, h7.imp (fun h => by omega) id⟩
    · have h1 := hg0 i hi hne' g hg
      have h2 := (rowsAt_ne HRA6.out g hm).1
      omega
    · rw [Grd.rowsL_len]
      exact HO6.out
end
end Put
end Go.Proofs.YtnkeahfcpbepjaaGreatDoor

/- (*sheet.Sheet).alter: a row is made anew. -/
namespace Go.Proofs.YtnkeahfcpbepjaaGreatDoor
open Go.ChangeShapes Go.WideShapes Go.ChangeAt Go.RowKit
namespace Put
open Grd (C SliceAt CellsAt gridErr z0 nilV flat rowsL OwnG RowB)
/-- Blocks of other types than those that a sheet writes to are kept. -/
def Other (t : TypeId) : Prop := t ≠ 64 ∧ t ≠ 4 ∧ t ≠ 22
def OtherO (o : Obj) : Prop := ∀ (A : Array Value) (t : TypeId) (f : Nat × Nat), o = .cells A t f → Other t
def Framed (W W' : World) : Prop := ∀ (k : Nat) (o : Obj), W.heap[k]? = some o → OtherO o → W'.heap[k]? = some o
theorem Framed.refl (W : World) : Framed W W := fun _ _ h _ => h
theorem Framed.trans {a b c : World} (h : Framed a b) (k : Framed b c) : Framed a c := fun i o hi ho => k i o (h i o hi ho) ho
theorem Framed.of_below {W W' : World} (h : Below W.heap.size W W') : Framed W W' := fun k _ hk _ => (h.block k (heap_lt hk)).trans hk
theorem Framed.store {W : World} {p i : Nat} {v : Value} {A : Array Value} {t : TypeId} (hp : W.heap[p]? = some (.cells A t (0, 0))) (ht : ¬ Other t) : Framed W (W.setCell ⟨p, i, none⟩ v) := fun k o hk ho => by
  have hne : k ≠ p := by
    intro e
    rw [e, hp] at hk
    injection hk with hk
    exact ht (ho A t (0, 0) hk.symm)
  exact (store_off hne).trans hk
theorem other_cells {A : Array Value} {t : TypeId} {f : Nat × Nat} (h : Other t) : OtherO (.cells A t f) := fun B u g e => by
  injection e with _ e _
  rw [← e]
  exact h
theorem not_other_sheet : ¬ Other 64 := fun h => h.1 rfl
theorem not_other_rows : ¬ Other 22 := fun h => h.2.2 rfl
theorem not_other_bool : ¬ Other 4 := fun h => h.2.1 rfl
theorem Framed.cell {W W' : World} (h : Framed W W') {k i : Nat} {A : Array Value} {t : TypeId} (hk : W.heap[k]? = some (.cells A t (0, 0))) (ho : Other t) : W'.cell? ⟨k, i, none⟩ = W.cell? ⟨k, i, none⟩ := by
  have h1 := h k _ hk (other_cells ho)
  simp only [World.cell?, h1, hk]
/-- What a sheet is behind a call that changes it. -/
def Ran (W : World) (M N p : Nat) (s' : Scr) (rows' : List (List C)) (e : Ending) (W' : World) : Prop := e = .returned (.tuple #[]) ∧ ShAt 64 W' M N p s' rows' ∧ Below N W W' ∧ Framed W W'
theorem own_rowB {W : World} {base : Nat} {v : Value} {row : List C} (h : OwnG W base v row) : ∃ g, base ≤ g ∧ RowB W g v row := by
  obtain ⟨g, cap, rest, ⟨t, rfl⟩, hv, hg, h1, h2, h3⟩ := h
  exact ⟨g, hg, cap, rest, hv, h1, h2, h3⟩
theorem ShA.storeRow {V : World} {M N p : Nat} {s : Scr} {rows : List (List C)} {cv tv gv rv : Value} {gvs vs : List Value} (h : ShA 64 V M N p s rows cv tv gv rv gvs vs) {rb rc y : Nat} (hrv : rv = .slice (some ⟨rb, 0, none⟩) rows.length rc) {v : Value} {row' : List C} (hr : RowIn V M v row') : ShA 64 (V.setCell ⟨rb, y, none⟩ v) M N p s (rows.set y row') cv tv gv rv gvs (vs.set y v) := by
  obtain ⟨hlo, A, f, hA⟩ := owns_block h.rws rb (by rw [hrv]; rfl)
  have hA0 : ∃ A, V.heap[rb]? = some (.cells A 22 (0, 0)) := by
    have h1 := h.rws
    rw [hrv] at h1
    obtain ⟨-, ⟨h1, -⟩ | ⟨g', cap, cur, hv, -, hh, -⟩⟩ := h1
    · injection h1 with h1
      cases h1
    · injection hv with hv1 _ _
      injection hv1 with hv1
      injection hv1 with hv1
      subst hv1
      exact ⟨cur, hh⟩
  obtain ⟨B, hB⟩ := hA0
  have hne : p ≠ rb := by
    intro e
    rw [← e, h.blk] at hB
    injection hB with hB
    injection hB with _ hB _
    exact absurd hB (by decide)
  have hK : Kept M V (V.setCell ⟨rb, y, none⟩ v) := Kept.store hB (by decide) (Nat.le_trans h.ml hlo)
  refine ⟨(store_off hne).trans h.blk, h.lo, h.ml, h.cvs, own_off h.tabs hB (by decide), owns_kept h.gone fun g hg => store_off fun e => h.two rb (by rw [hrv]; rfl) (by rw [hg, e]), h.gin.keep hK, ?_, (h.rin.set y v row' hr).keep hK, h.two⟩
  have h1 := h.rws
  rw [hrv] at h1 ⊢
  rw [List.length_set]
  exact own_set h1
end Put
end Go.Proofs.YtnkeahfcpbepjaaGreatDoor

/- The desk's Give and Go; noScreen. -/
namespace Go.Proofs.YtnkeahfcpbepjaaGreatDoor
open Go.ChangeShapes Go.WideShapes Go.ChangeAt Go.RowKit
namespace Put
open Grd (C SliceAt CellsAt gridErr z0 nilV rowsL RowsAt RowB flat)
theorem zScr_v (W : World) : ScrV W zScr (.slice none 0 0) (.slice none 0 0) (.slice none 0 0) := ⟨.inl ⟨rfl, none, 0, rfl⟩, .inl ⟨rfl, none, 0, rfl⟩, .inl ⟨rfl, none, 0, rfl⟩⟩
theorem zScr_small : Small zScr := ⟨by simp [zScr], by simp [zScr], by simp [zScr], by simp [zScr]⟩
set_option maxHeartbeats 2000000 in
set_option maxRecDepth 100000 in
theorem noScreen_any (cv tv gv : Value) (w : World) (hV : ScrV w zScr cv tv gv) : Calls Tryz.prog 66 #[.agg (scrA zScr cv tv gv)] w fun e w' => e = .returned (.bool true) ∧ Below w.heap.size w w' := by
  have x0 := heap_alloc_new w (.cells (scrA zScr cv tv gv) 32)
  have kb : Below w.heap.size w (w.alloc (.cells (scrA zScr cv tv gv) 32)) := (Below.refl _ _).alloc (Nat.le_refl _) _
  have HX0 : Hid _ := x0
  have HKB : Hid _ := kb
  have HS := sameScreen_any zScr cv tv gv (.slice none 0 0) (.slice none 0 0) (.slice none 0 0) _ (hV.next kb) (zScr_v _) zScr_small
  clear x0 kb hV
  go_enter Tryz.func66, Tryz.ntmps66
  go_wp2_with (refine wpList_load_row rfl 32 (.tmp 1) rfl w.heap.size rfl _ _ _ _ HX0.out Tryz.underlying32 rfl (by kernel_rfl) ?_)
  refine HS.mono ?_
  rintro e W1 ⟨rfl, b1⟩
  have HB1 : Hid (Below w.heap.size w W1) := HKB.out.trans (b1.mono HKB.out.size)
  clear b1 HS
  go_wp2_with fail
  go_ret
  exact ⟨rfl, HB1.out⟩
theorem one3v (a b : Int) (q : Option Addr) (n c : Nat) : (#[.int .i64 a, .int .i64 b, .slice q n c] : Array Value).all (·.oneCell') = true := by simp [Value.oneCell']
set_option maxHeartbeats 4000000 in
set_option maxRecDepth 100000 in
theorem give_any (W : World) (N p : Nat) (s : Scr) (rows : List (List C)) (h : DkAt W N p s rows) (n hh : Nat) (hn : 1 ≤ n) (hn' : n ≤ 120) (hh1 : 1 ≤ hh) (hh' : hh ≤ 60) (hrl : rows.length = hh) (hrn : ∀ i, i < rows.length → (rows.getD i []).length = n) (cs : List C) (hcs : rows.flatten = cs) :
    Calls Tryz.prog 68 #[.pointer (some ⟨p, 0, none⟩)] W fun e W' => ∃ cv' tv' gv', e = .returned (.agg (scrA { s with w := (n : Int), h := (hh : Int), cs := cs } cv' tv' gv')) ∧ ScrV W' { s with w := (n : Int), h := (hh : Int), cs := cs } cv' tv' gv' ∧ Below W.heap.size W W' := by
  obtain ⟨cv, tv, gv, rv, gvs, vs, gs, hS⟩ := h
  obtain ⟨ca, cn, cc, rfl⟩ := hS.cvs
  obtain ⟨ta, tc, rfl⟩ := own_slice hS.tabs
  obtain ⟨ga, gc, rfl⟩ := hS.gone.slice
  have hvl : vs.length = rows.length := hS.rin.1
  obtain ⟨G, rc, rest, rfl, hGN, hrc1, hrc2, hG⟩ := Grd.out_of_own (show W.ownsRow N 22 1 rv vs.length vs by rw [hvl]; exact hS.rws) (by omega)
  have kb : Below W.heap.size W ((W.alloc (.cells #[.int .i64 0, .int .i64 0, .slice none 0 0, .int .i64 0, .int .i64 0, .bool false, .int .i64 0, .int .i64 0, .int .i64 0, .int .i64 0, .int .i64 0, .int .i64 0, .slice none 0 0, .int .i64 0, .int .i64 0, .int .i64 0, .int .i64 0, .int .i64 0, .int .i64 0, .int .i32 0, .string ⟨#[]⟩, .slice none 0 0] 32)).alloc (.cells #[.int .i64 0, .int .i64 0, .slice none 0 0, .int .i64 0, .int .i64 0, .bool false, .int .i64 0, .int .i64 0, .int .i64 0, .int .i64 0, .int .i64 0, .int .i64 0, .slice none 0 0, .int .i64 0, .int .i64 0, .int .i64 0, .int .i64 0, .int .i64 0, .int .i64 0, .int .i32 0, .string ⟨#[]⟩, .slice none 0 0] 32)) := ((Below.refl _ _).alloc (Nat.le_refl _) _).alloc (by simp) _
  have x3 : ((W.alloc (.cells #[.int .i64 0, .int .i64 0, .slice none 0 0, .int .i64 0, .int .i64 0, .bool false, .int .i64 0, .int .i64 0, .int .i64 0, .int .i64 0, .int .i64 0, .int .i64 0, .slice none 0 0, .int .i64 0, .int .i64 0, .int .i64 0, .int .i64 0, .int .i64 0, .int .i64 0, .int .i32 0, .string ⟨#[]⟩, .slice none 0 0] 32)).alloc (.cells #[.int .i64 0, .int .i64 0, .slice none 0 0, .int .i64 0, .int .i64 0, .bool false, .int .i64 0, .int .i64 0, .int .i64 0, .int .i64 0, .int .i64 0, .int .i64 0, .slice none 0 0, .int .i64 0, .int .i64 0, .int .i64 0, .int .i64 0, .int .i64 0, .int .i64 0, .int .i32 0, .string ⟨#[]⟩, .slice none 0 0] 32)).heap[W.heap.size + 1]? = some (.cells #[.int .i64 0, .int .i64 0, .slice none 0 0, .int .i64 0, .int .i64 0, .bool false, .int .i64 0, .int .i64 0, .int .i64 0, .int .i64 0, .int .i64 0, .int .i64 0, .slice none 0 0, .int .i64 0, .int .i64 0, .int .i64 0, .int .i64 0, .int .i64 0, .int .i64 0, .int .i32 0, .string ⟨#[]⟩, .slice none 0 0] 32 (0, 0)) := heap_alloc2_new W _ _
  have HX1 : Hid ((((W.alloc (.cells #[.int .i64 0, .int .i64 0, .slice none 0 0, .int .i64 0, .int .i64 0, .bool false, .int .i64 0, .int .i64 0, .int .i64 0, .int .i64 0, .int .i64 0, .int .i64 0, .slice none 0 0, .int .i64 0, .int .i64 0, .int .i64 0, .int .i64 0, .int .i64 0, .int .i64 0, .int .i32 0, .string ⟨#[]⟩, .slice none 0 0] 32)).alloc (.cells #[.int .i64 0, .int .i64 0, .slice none 0 0, .int .i64 0, .int .i64 0, .bool false, .int .i64 0, .int .i64 0, .int .i64 0, .int .i64 0, .int .i64 0, .int .i64 0, .slice none 0 0, .int .i64 0, .int .i64 0, .int .i64 0, .int .i64 0, .int .i64 0, .int .i64 0, .int .i32 0, .string ⟨#[]⟩, .slice none 0 0] 32)).setRow (W.heap.size + 1) (scrA s (.slice ca cn cc) (.slice ta s.tabs.length tc) (.slice ga s.gone.length gc))).heap[W.heap.size + 1]? = some (.cells (scrA s (.slice ca cn cc) (.slice ta s.tabs.length tc) (.slice ga s.gone.length gc)) 32 (0, 0))) := setRow_heap _ _ _ _ _ _ x3
  have HX0 : Hid ((((W.alloc (.cells #[.int .i64 0, .int .i64 0, .slice none 0 0, .int .i64 0, .int .i64 0, .bool false, .int .i64 0, .int .i64 0, .int .i64 0, .int .i64 0, .int .i64 0, .int .i64 0, .slice none 0 0, .int .i64 0, .int .i64 0, .int .i64 0, .int .i64 0, .int .i64 0, .int .i64 0, .int .i32 0, .string ⟨#[]⟩, .slice none 0 0] 32)).alloc (.cells #[.int .i64 0, .int .i64 0, .slice none 0 0, .int .i64 0, .int .i64 0, .bool false, .int .i64 0, .int .i64 0, .int .i64 0, .int .i64 0, .int .i64 0, .int .i64 0, .slice none 0 0, .int .i64 0, .int .i64 0, .int .i64 0, .int .i64 0, .int .i64 0, .int .i64 0, .int .i32 0, .string ⟨#[]⟩, .slice none 0 0] 32)).setRow (W.heap.size + 1) (scrA s (.slice ca cn cc) (.slice ta s.tabs.length tc) (.slice ga s.gone.length gc))).heap[W.heap.size]? = some (.cells (scrA zScr (.slice none 0 0) (.slice none 0 0) (.slice none 0 0)) 32 (0, 0))) := by
    unfold Hid
    rw [setRow_other _ _ _ _ (by omega), Below.heap_alloc _ _ _ (by simp), heap_alloc_new]
    rfl
  have HB0 : Hid (Below W.heap.size W (((W.alloc (.cells #[.int .i64 0, .int .i64 0, .slice none 0 0, .int .i64 0, .int .i64 0, .bool false, .int .i64 0, .int .i64 0, .int .i64 0, .int .i64 0, .int .i64 0, .int .i64 0, .slice none 0 0, .int .i64 0, .int .i64 0, .int .i64 0, .int .i64 0, .int .i64 0, .int .i64 0, .int .i32 0, .string ⟨#[]⟩, .slice none 0 0] 32)).alloc (.cells #[.int .i64 0, .int .i64 0, .slice none 0 0, .int .i64 0, .int .i64 0, .bool false, .int .i64 0, .int .i64 0, .int .i64 0, .int .i64 0, .int .i64 0, .int .i64 0, .slice none 0 0, .int .i64 0, .int .i64 0, .int .i64 0, .int .i64 0, .int .i64 0, .int .i64 0, .int .i32 0, .string ⟨#[]⟩, .slice none 0 0] 32)).setRow (W.heap.size + 1) (scrA s (.slice ca cn cc) (.slice ta s.tabs.length tc) (.slice ga s.gone.length gc)))) := below_setRow kb (by omega) _
  have HX3 : Hid _ := x3
  have HRG : Hid _ := sh_range hS.blk
  have HS : Hid (DkA W N p s rows _ _ _ _ gvs vs gs) := hS
  have HG : Hid (W.heap[G]? = _) := hG
  clear x3 kb hS hG
  go_enter Tryz.func68, Tryz.ntmps68
  go_upto_region 2 with (first
    | (refine wpList_load_mid rfl 32 (.tmp 6) rfl p 0 rfl (scrA s (.slice ca cn cc) (.slice ta s.tabs.length tc) (.slice ga s.gone.length gc)).toList _ (fun j v hj => cell_stay ((Below.refl _ _).alloc (Nat.le_refl _) _) (HRG.out j v hj)) Tryz.underlying32 rfl (by kernel_rfl) ?_)
    | (refine wpList_store_row rfl 32 (.tmp 3) _ rfl (W.heap.size + 1) (scrA s (.slice ca cn cc) (.slice ta s.tabs.length tc) (.slice ga s.gone.length gc)) rfl rfl _ _ HX3.out (by kernel_rfl) rfl (scr_one _ _ _ _ _ _ _ _ _ _) ?_))
  clear HX3 HRG
  generalize (((W.alloc (.cells #[.int .i64 0, .int .i64 0, .slice none 0 0, .int .i64 0, .int .i64 0, .bool false, .int .i64 0, .int .i64 0, .int .i64 0, .int .i64 0, .int .i64 0, .int .i64 0, .slice none 0 0, .int .i64 0, .int .i64 0, .int .i64 0, .int .i64 0, .int .i64 0, .int .i64 0, .int .i32 0, .string ⟨#[]⟩, .slice none 0 0] 32)).alloc (.cells #[.int .i64 0, .int .i64 0, .slice none 0 0, .int .i64 0, .int .i64 0, .bool false, .int .i64 0, .int .i64 0, .int .i64 0, .int .i64 0, .int .i64 0, .int .i64 0, .slice none 0 0, .int .i64 0, .int .i64 0, .int .i64 0, .int .i64 0, .int .i64 0, .int .i64 0, .int .i32 0, .string ⟨#[]⟩, .slice none 0 0] 32)).setRow (W.heap.size + 1) (scrA s (.slice ca cn cc) (.slice ta s.tabs.length tc) (.slice ga s.gone.length gc))) = X at *
  have hgl1 : W.heap.size + 1 < X.heap.size := heap_lt HX1.out
  have c22 := (sh_cells (Grd.carry HS.out.blk HB0.out)).2.1.2.2.2.2.2.2.2.2.2.2.2
  have HGO := Grd.gridOf_any n hh G rc N vs rest gs rows X hn hn' hh1 hh' (Grd.carry HG.out HB0.out) (HS.out.rin.below HB0.out) hrl hrn
  rw [hcs] at HGO
  have hvh : vs.length = hh := by omega
  rw [hvh] at c22
  clear hvl hvh hrl hrn hcs
  go_wp2_with (first | (go_at_call 127; refine HGO.mono ?_; rintro e V ⟨v, rfl, hv, b1⟩; refine Hid.out ?_))
  unfold Hid
  obtain ⟨g, hg1, hR⟩ := own_rowB hv
  obtain ⟨cap, rst, rfl, hcap1, hcap2, hgh⟩ := hR
  have hA1 := Grd.carry HX1.out b1
  have hA0 := Grd.carry HX0.out b1
  have hgV : W.heap.size + 1 < V.heap.size := heap_lt hA1
  obtain ⟨⟨c0, c1, c2, -⟩, -, fr⟩ := scr_cells hA1
  have HTH : Hid (V.there (W.heap.size + 1) 0 3) := fun j hj => by
    match j, hj with
    | 0, _ => exact ⟨by rw [c0]; rfl, fr _⟩
    | 1, _ => exact ⟨by rw [c1]; rfl, fr _⟩
    | 2, _ => exact ⟨by rw [c2]; rfl, fr _⟩
  have HY1 : Hid ((V.setCells (W.heap.size + 1) 0 [.int .i64 (n : Int), .int .i64 (hh : Int), .slice (some ⟨g, 0, none⟩) cs.length cap]).heap[W.heap.size + 1]? = some (.cells (scrA { s with w := (n : Int), h := (hh : Int), cs := cs } (.slice (some ⟨g, 0, none⟩) cs.length cap) (.slice ta s.tabs.length tc) (.slice ga s.gone.length gc)) 32 (0, 0))) := store_at (store_at (store_at hA1 rfl) rfl) rfl
  have ho : ∀ k, k ≠ W.heap.size + 1 → (V.setCells (W.heap.size + 1) 0 [.int .i64 (n : Int), .int .i64 (hh : Int), .slice (some ⟨g, 0, none⟩) cs.length cap]).heap[k]? = V.heap[k]? := fun k hk => Grd.heap_setCells_ne _ k hk _ _ _
  have HY0 : Hid ((V.setCells (W.heap.size + 1) 0 [.int .i64 (n : Int), .int .i64 (hh : Int), .slice (some ⟨g, 0, none⟩) cs.length cap]).heap[W.heap.size]? = _) := (ho _ (by omega)).trans hA0
  have HYG : Hid ((V.setCells (W.heap.size + 1) 0 [.int .i64 (n : Int), .int .i64 (hh : Int), .slice (some ⟨g, 0, none⟩) cs.length cap]).heap[g]? = _) := (ho _ (by omega)).trans hgh
  have HB3 : Hid (Below W.heap.size W (V.setCells (W.heap.size + 1) 0 [.int .i64 (n : Int), .int .i64 (hh : Int), .slice (some ⟨g, 0, none⟩) cs.length cap])) := Grd.below_cells (by omega) _ _ _ (HB0.out.trans (b1.mono HB0.out.size))
  clear HGO hv b1 hA1 hA0 c0 c1 c2 fr ho hgh c22
  go_wp2_with (refine wpList_store_mid rfl 24 (.tmp 13) (.tmp 12) rfl (W.heap.size + 1) 0 #[.int .i64 (n : Int), .int .i64 (hh : Int), .slice (some ⟨g, 0, none⟩) cs.length cap] rfl rfl HTH.out (by kernel_rfl) (one3v _ _ _ _ _) ?_; refine Hid.out ?_)
  unfold Hid
  generalize (V.setCells (W.heap.size + 1) 0 [.int .i64 (n : Int), .int .i64 (hh : Int), .slice (some ⟨g, 0, none⟩) cs.length cap]) = Y at *
  go_wp2_with (first
    | (refine wpList_load_row rfl 32 (.tmp 3) rfl (W.heap.size + 1) rfl _ _ _ _ HY1.out Tryz.underlying32 rfl (by kernel_rfl) ?_)
    | (refine wpList_store_row rfl 32 (.tmp 2) _ rfl W.heap.size (scrA { s with w := (n : Int), h := (hh : Int), cs := cs } (.slice (some ⟨g, 0, none⟩) cs.length cap) (.slice ta s.tabs.length tc) (.slice ga s.gone.length gc)) rfl rfl _ _ HY0.out (by kernel_rfl) rfl (scr_one _ _ _ _ _ _ _ _ _ _) ?_))
  (try simp only [Exit.inBlock, Exit.then])
  have hbF := below_setRow HB3.out (Nat.le_refl W.heap.size) (scrA { s with w := (n : Int), h := (hh : Int), cs := cs } (.slice (some ⟨g, 0, none⟩) cs.length cap) (.slice ta s.tabs.length tc) (.slice ga s.gone.length gc))
  have hD := HS.out.next hbF
  refine bodyPost_ret (v := .agg (scrA { s with w := (n : Int), h := (hh : Int), cs := cs } (.slice (some ⟨g, 0, none⟩) cs.length cap) (.slice ta s.tabs.length tc) (.slice ga s.gone.length gc))) ?_ rfl ⟨_, _, _, rfl, ⟨?_, own_boolsV hD.tabs, hD.gone.rowsV hD.gin.list⟩, hbF⟩
  · exact results_cell_row rfl _ _ W.heap.size _ _ _ _ rfl (setRow_heap _ _ _ _ _ _ HY0.out) Tryz.underlying32 rfl (by kernel_rfl)
  · refine (rowIn_rowB (N := 0) (g := g) ⟨cap, rst, rfl, hcap1, hcap2, ?_⟩).cells
    rw [setRow_other _ _ _ _ (by omega)]
    exact HYG.out
end Put
end Go.Proofs.YtnkeahfcpbepjaaGreatDoor

/- The desk's Go, often, rowOf. -/
namespace Go.Proofs.YtnkeahfcpbepjaaGreatDoor
open Go.ChangeShapes Go.WideShapes Go.ChangeAt Go.RowKit
namespace Put
open Grd (C SliceAt CellsAt gridErr z0 nilV rowsL RowsAt RowB flat)
theorem below_drewN (W : World) (k : Nat) : Below W.heap.size W (W.drewN k) := ⟨rfl, rfl, rfl, Nat.le_refl _, fun _ _ => rfl⟩
def oft (n : Int) : Int := max 1 (min n 9999)
theorem oft_cnt (n : Int) : oft n = cnt n := by unfold oft cnt withinI; omega
theorem often_any (n : Int) (w : World) : Calls Tryz.prog 92 #[.int .i64 n] w fun e w' => e = .returned (.int .i64 (cnt n)) ∧ w = w' := by
  have h1 := Grd.min2 n 9999
  have h2 := Grd.max2 1 (min n 9999)
  have HE : Hid (max 1 (min n 9999) = cnt n) := oft_cnt n
  go_enter Tryz.func92, Tryz.ntmps92
  go_wp2_with fail
  go_ret
  exact ⟨ret_int HE.out, rfl⟩
/-- A place within the screen. -/
def goS (s : Scr) (x y : Int) : Scr := { s with x := max 0 (min x (s.w - 1)), y := max 0 (min y (s.h - 1)), late := false }
theorem DkAt.three {W : World} {N p : Nat} {s : Scr} {rows : List (List C)} (h : DkAt W N p s rows) (x y : Int) : DkAt (((W.setCell ⟨p, 3, none⟩ (.int .i64 x)).setCell ⟨p, 4, none⟩ (.int .i64 y)).setCell ⟨p, 5, none⟩ (.bool false)) N p { s with x := x, y := y, late := false } rows ∧ Below N W (((W.setCell ⟨p, 3, none⟩ (.int .i64 x)).setCell ⟨p, 4, none⟩ (.int .i64 y)).setCell ⟨p, 5, none⟩ (.bool false)) := by
  have h1 : DkAt (W.setCell ⟨p, 3, none⟩ (.int .i64 x)) N p { s with x := x } rows := h.set 3 _ (fun _ _ _ _ => rfl) rfl rfl
  have h2 : DkAt ((W.setCell ⟨p, 3, none⟩ (.int .i64 x)).setCell ⟨p, 4, none⟩ (.int .i64 y)) N p { s with x := x, y := y } rows := h1.set 4 _ (fun _ _ _ _ => rfl) rfl rfl
  refine ⟨h2.set 5 _ (fun _ _ _ _ => rfl) rfl rfl, (((Below.refl _ _).setCell h.lo _).setCell h.lo _).setCell h.lo _⟩
theorem DkAt.drew {W : World} {N p : Nat} {s : Scr} {rows : List (List C)} (h : DkAt W N p s rows) : DkAt W.drew N p s rows := h.next ((Below.refl _ _).drew)
set_option maxHeartbeats 4000000 in
theorem go_any {N p : Nat} {s : Scr} {rows : List (List C)} (x y : Int) (W : World) (h : DkAt W N p s rows) (w1 : 1 ≤ s.w) (w2 : s.w ≤ 120) (w3 : 1 ≤ s.h) (w4 : s.h ≤ 60) :
    Calls Tryz.prog 91 #[.pointer (some ⟨p, 0, none⟩), .int .i64 x, .int .i64 y] W fun e W' => e = .returned (.tuple #[]) ∧ DkAt W' N p (goS s x y) rows ∧ Below N W W' := by
  obtain ⟨c0, c1, c3, c4, c5, c9, c10, c11, c19, f⟩ := h.words
  have f3 := f 3
  have f4 := f 4
  have f5 := f 5
  have m1 := Grd.min2 x (s.w - 1)
  have m2 := Grd.max2 0 (min x (s.w - 1))
  have m3 := Grd.min2 y (s.h - 1)
  have m4 := Grd.max2 0 (min y (s.h - 1))
  have h3 := h.three (max 0 (min x (s.w - 1))) (max 0 (min y (s.h - 1)))
  have HE : Hid _ := And.intro h3.1.drew h3.2.drew
  clear h h3 c9 c10 c11 c19 f
  go_enter Tryz.func91, Tryz.ntmps91
  go_upto_region 0 with fail
  go_region
  all_goals go_end0
  all_goals exact ⟨rfl, HE.out⟩
theorem has_bits (m : Int) (h0 : 0 ≤ m) (h1 : m ≤ 63) : hasB m 1 = !(bits .and .i64 m 1 == 0) ∧ hasB m 2 = !(bits .and .i64 m 2 == 0) ∧ hasB m 4 = !(bits .and .i64 m 4 == 0) := by
  have key : ∀ k : Fin 64, hasB (k.val : Int) 1 = !(bits .and .i64 (k.val : Int) 1 == 0) ∧ hasB (k.val : Int) 2 = !(bits .and .i64 (k.val : Int) 2 == 0) ∧ hasB (k.val : Int) 4 = !(bits .and .i64 (k.val : Int) 4 == 0) := by decide +kernel
  have h := key ⟨m.toNat, by omega⟩
  have e : ((m.toNat : Nat) : Int) = m := by omega
  simp only [e] at h
  exact h
theorem RightS.modes {s : Scr} {n hh : Nat} (h : RightS s n hh) : 0 ≤ s.modes ∧ s.modes ≤ 63 := by
  have := h.looks
  simp only [looksOk, Bool.and_eq_true, decide_eq_true_eq] at this
  exact this.2.2.1
set_option maxHeartbeats 4000000 in
theorem rowOf_any {N p : Nat} {s : Scr} {rows : List (List C)} (n : Int) (W : World) (h : DkAt W N p s rows) (t0 : 0 ≤ s.top) (t1 : s.top ≤ 60) (hb : hasB s.modes 2 = !(bits .and .i64 s.modes 2 == 0)) :
    Calls Tryz.prog 93 #[.pointer (some ⟨p, 0, none⟩), .int .i64 n] W fun e W' => e = .returned (.int .i64 (if hasB s.modes 2 then min (s.top + (cnt n - 1)) s.bot else cnt n - 1)) ∧ Below W.heap.size W W' := by
  obtain ⟨c0, c1, c3, c4, c5, c9, c10, c11, c19, f⟩ := h.words
  have hc := cnt_range n
  have HO : Hid (∀ W, Calls Tryz.prog 92 #[.int .i64 n] W fun e w' => e = .returned (.int .i64 (cnt n)) ∧ W = w') := fun W => often_any n W
  clear h c0 c1 c3 c4 c5 c19 f
  cases hq : (bits .and .i64 s.modes 2 == 0) with
  | true =>
    rw [hq] at hb
    rw [hb, if_neg (by simp)]
    clear hb
    generalize cnt n = k at *
    go_enter Tryz.func93, Tryz.ntmps93
    go_wp2_with fail
    refine (HO.out _).mono ?_
    rintro e V ⟨rfl, hv⟩
    subst hv
    go_wp2_with fail
    go_ret
    exact ⟨rfl, Below.refl _ _⟩
  | false =>
    rw [hq] at hb
    rw [hb, if_pos (by simp)]
    clear hb
    generalize cnt n = k at *
    have hw1 : IntKind.i64.wrap (s.top + k) = s.top + k := wrap_id _ (by omega) (by omega)
    have hw2 : IntKind.i64.wrap (s.top + k - 1) = s.top + k - 1 := wrap_id _ (by omega) (by omega)
    have HM : Hid (min (s.top + k - 1) s.bot = min (s.top + (k - 1)) s.bot) := by unfold Hid; omega
    go_enter Tryz.func93, Tryz.ntmps93
    go_upto_region 3 with fail
    go_region_held3 (fun w' => w'.cell? ⟨p, 9, none⟩ = some (.int .i64 s.top) ∧ w'.cell? ⟨p, 10, none⟩ = some (.int .i64 s.bot)) (go_keep) (first | (go_at_call 92; refine (HO.out _).mono ?_; rintro e V ⟨rfl, hv⟩; subst hv))
    all_goals go_wp2_with fail
    all_goals go_ret
    all_goals exact ⟨ret_int HM.out, (Below.refl _ _).drew⟩
end Put
end Go.Proofs.YtnkeahfcpbepjaaGreatDoor
