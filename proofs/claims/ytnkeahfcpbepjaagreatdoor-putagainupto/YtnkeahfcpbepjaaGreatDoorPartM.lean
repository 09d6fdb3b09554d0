/- trellislaw.ownScreen, noScreen. -/
import Derived.Test.YtnkeahfcpbepjaaGreatDoorPartL
import Derived.Test.YtnkeahfcpbepjaaGreatDoorPartH
import Derived.Test.YtnkeahfcpbepjaaGreatDoorPartI
import Derived.Deep.Cut
import Derived.Deep.CutRange
import Derived.Test.YtnkeahfcpbepjaaGreatDoorPartG
import Derived.Test.YtnkeahfcpbepjaaGreatDoorPartK
import Derived.Deep.RegionHeld3
import Derived.Deep.RegionWith
namespace Go.Proofs.YtnkeahfcpbepjaaGreatDoor
open Go.ChangeShapes Go.WideShapes Go.ChangeAt Go.RowKit
namespace Put
open Grd (C SliceAt CellsAt gridErr z0 nilV)
/-- A screen that a machine holds. -/
structure Bulk (s : Scr) : Prop where
  f : Fits s
  c : s.cs.length ≤ 1048576
  r : ∀ row, row ∈ s.gone → row.length ≤ 1048576
theorem Bulk.small {s : Scr} (h : Bulk s) : Small s := ⟨by have := h.c; omega, by have := h.f.bl; omega, by have := h.f.gl; omega, fun row hr => by have := h.r row hr; omega⟩
theorem Bulk.row {s : Scr} (h : Bulk s) (k : Nat) (hk : k < s.gone.length) : (s.gone.getD k []).length ≤ 1048576 := by
  have e : s.gone.getD k [] = s.gone[k] := by simp [List.getD, hk]
  rw [e]
  exact h.r _ (List.getElem_mem hk)
theorem cloneCells_any (v : Value) (N : Nat) (row : List C) (w : World) (h : SliceAt w v row) (hbig : row.length ≤ 1048576) :
    Calls Tryz.prog 115 #[v] w fun e w' => ∃ a c, e = .returned (.slice a row.length c) ∧ RowIn w' N (.slice a row.length c) row ∧ Below w.heap.size w w' := by
  rcases h with ⟨rfl, a, c, rfl⟩ | ⟨hr, b, o, c, rfl, h1, h2, h3⟩
  · refine (Grd.clone_empty a c w).mono ?_
    rintro e W ⟨a', c', rfl, hb⟩
    exact ⟨a', c', rfl, .inl ⟨rfl, a', c', rfl⟩, hb⟩
  · refine (Grd.clone_row b o c row w h3 (by omega)).mono ?_
    rintro e W ⟨v', g, rfl, hg, hR, hb⟩
    obtain ⟨a', c', hv⟩ := (rowIn_rowB (N := N) hR).shape
    subst hv
    exact ⟨a', c', rfl, rowIn_rowB hR, hb⟩
theorem Kept.grown {W W' : World} {N base : Nat} {v : Value} {n : Nat} {xs : List Value} (ho : W.ownsRow base 22 1 v n xs) (hb : N ≤ base) (hg : W.grownBy W' v.ownBlock) : Kept N W W' := fun k hk hS => hg.block k hk fun e => by
  obtain ⟨h1, A, f, hA⟩ := owns_block ho k e.symm
  rcases hS with hS | ⟨B, f', hS⟩
  · omega
  · rw [hA] at hS
    injection hS with hS
    injection hS with _ hS _
    exact absurd hS (by decide)
theorem own_grown {W W' : World} {N base : Nat} {e : TypeId} {u v : Value} {n m : Nat} {xs ys : List Value} (h : W.ownsRow N e 1 u m ys) (ho : W.ownsRow base 22 1 v n xs) (he : 22 ≠ e) (hg : W.grownBy W' v.ownBlock) : W'.ownsRow N e 1 u m ys :=
  owns_kept h fun k hk => by
    obtain ⟨-, B, f', hB⟩ := owns_block h k hk
    refine hg.block k (heap_lt hB) fun e' => ?_
    obtain ⟨h1, A, f, hA⟩ := owns_block ho k e'.symm
    rw [hA] at hB
    injection hB with hB
    injection hB with _ hB _
    exact he hB
theorem RowsIn.snoc {W : World} {N : Nat} {vs : List Value} {rows : List (List C)} (h : RowsIn W N vs rows) {v : Value} {row : List C} (hr : RowIn W N v row) : RowsIn W N (vs ++ [v]) (rows ++ [row]) := by
  refine ⟨by simp [h.1], fun i hi => ?_⟩
  rw [List.length_append, List.length_singleton] at hi
  by_cases e : i < rows.length
  · rw [Grd.getD_snoc_lt _ _ _ _ e, Grd.getD_snoc_lt _ _ _ _ (by rw [h.1]; exact e)]
    exact h.2 i e
  · have e1 : i = rows.length := by omega
    have e2 : (vs ++ [v]).getD i nilV = v := by rw [e1, ← h.1]; exact Grd.getD_snoc_eq _ _ _
    rw [e2, e1, Grd.getD_snoc_eq]
    exact hr
theorem take_next {α : Type} (l : List α) (k : Nat) (d : α) (h : k < l.length) : l.take (k + 1) = l.take k ++ [l.getD k d] := by
  rw [List.take_succ_eq_append_getElem h]
  simp [List.getD, h]
set_option maxHeartbeats 4000000 in
set_option maxRecDepth 100000 in
theorem ownScreen_any (s : Scr) (cv tv gv : Value) (w : World) (hV : ScrV w s cv tv gv) (hB : Bulk s) :
    Calls Tryz.prog 62 #[.agg (scrA s cv tv gv)] w fun e W' => ∃ cv' tv' gv', e = .returned (.agg (scrA s cv' tv' gv')) ∧ ScrV W' s cv' tv' gv' ∧ Below w.heap.size w W' := by
  obtain ⟨ca, cc, rfl⟩ := hV.c.shape
  obtain ⟨ta, tc, rfl⟩ := hV.t.slice
  obtain ⟨ga, gc, rfl⟩ := hV.g.slice
  obtain ⟨i0, hi, hzz⟩ := Option.map_eq_some_iff.1 info_rows
  simp only [Prod.mk.injEq] at hzz
  obtain ⟨hz0, hz1, hz2⟩ := hzz
  have hkb : Below w.heap.size w ((w.alloc (.cells (scrA s (.slice ca s.cs.length cc) (.slice ta s.tabs.length tc) (.slice ga s.gone.length gc)) 32)).alloc (.cells #[.int .i64 0, .int .i64 0, .slice none 0 0, .int .i64 0, .int .i64 0, .bool false, .int .i64 0, .int .i64 0, .int .i64 0, .int .i64 0, .int .i64 0, .int .i64 0, .slice none 0 0, .int .i64 0, .int .i64 0, .int .i64 0, .int .i64 0, .int .i64 0, .int .i64 0, .int .i32 0, .string ⟨#[]⟩, .slice none 0 0] 32)) := ((Below.refl _ _).alloc (Nat.le_refl _) _).alloc (by simp) _
  have hx0 : ((w.alloc (.cells (scrA s (.slice ca s.cs.length cc) (.slice ta s.tabs.length tc) (.slice ga s.gone.length gc)) 32)).alloc (.cells #[.int .i64 0, .int .i64 0, .slice none 0 0, .int .i64 0, .int .i64 0, .bool false, .int .i64 0, .int .i64 0, .int .i64 0, .int .i64 0, .int .i64 0, .int .i64 0, .slice none 0 0, .int .i64 0, .int .i64 0, .int .i64 0, .int .i64 0, .int .i64 0, .int .i64 0, .int .i32 0, .string ⟨#[]⟩, .slice none 0 0] 32)).heap[w.heap.size]? = some (.cells (scrA s (.slice ca s.cs.length cc) (.slice ta s.tabs.length tc) (.slice ga s.gone.length gc)) 32 (0, 0)) := (Below.heap_alloc _ _ _ (by simp)).trans (heap_alloc_new _ _)
  have hx1 : ((w.alloc (.cells (scrA s (.slice ca s.cs.length cc) (.slice ta s.tabs.length tc) (.slice ga s.gone.length gc)) 32)).alloc (.cells #[.int .i64 0, .int .i64 0, .slice none 0 0, .int .i64 0, .int .i64 0, .bool false, .int .i64 0, .int .i64 0, .int .i64 0, .int .i64 0, .int .i64 0, .int .i64 0, .slice none 0 0, .int .i64 0, .int .i64 0, .int .i64 0, .int .i64 0, .int .i64 0, .int .i64 0, .int .i32 0, .string ⟨#[]⟩, .slice none 0 0] 32)).heap[w.heap.size + 1]? = some (.cells (scrA zScr (.slice none 0 0) (.slice none 0 0) (.slice none 0 0)) 32 (0, 0)) := heap_alloc2_new w _ _
  have HX0 : Hid _ := hx0
  have HX1 : Hid _ := hx1
  have HKB : Hid _ := hkb
  have HV : Hid (ScrV w s _ _ _) := hV
  have HBK : Hid (Bulk s) := hB
  have hlt1 := heap_lt hx1
  clear hx0 hx1 hkb hV hB
  go_enter Tryz.func62, Tryz.ntmps62
  go_upto_region 1 with fail
  generalize ((w.alloc (.cells (scrA s (.slice ca s.cs.length cc) (.slice ta s.tabs.length tc) (.slice ga s.gone.length gc)) 32)).alloc (.cells #[.int .i64 0, .int .i64 0, .slice none 0 0, .int .i64 0, .int .i64 0, .bool false, .int .i64 0, .int .i64 0, .int .i64 0, .int .i64 0, .int .i64 0, .int .i64 0, .slice none 0 0, .int .i64 0, .int .i64 0, .int .i64 0, .int .i64 0, .int .i64 0, .int .i64 0, .int .i32 0, .string ⟨#[]⟩, .slice none 0 0] 32)) = X at *
  obtain ⟨⟨-, -, c2, -⟩, -, -⟩ := scr_cells HX0.out
  go_wp2_with fail
  refine (cloneCells_any _ w.heap.size s.cs X (HV.out.c.below HKB.out) HBK.out.c).mono ?_
  rintro e V1 ⟨a1, c1, rfl, hR1, b1⟩
  have hp1 := Grd.carry HX0.out b1
  have f2 := (scr_cells hp1).2.2 2
  have c2' := (scr_cells hp1).1.2.2.1
  have HP1 : Hid ((V1.setCell ⟨w.heap.size, 2, none⟩ (.slice a1 s.cs.length c1)).heap[w.heap.size]? = some (.cells (scrA s (.slice a1 s.cs.length c1) (.slice ta s.tabs.length tc) (.slice ga s.gone.length gc)) 32 (0, 0))) := store_at hp1 rfl
  have HQ1 : Hid ((V1.setCell ⟨w.heap.size, 2, none⟩ (.slice a1 s.cs.length c1)).heap[w.heap.size + 1]? = _) := (store_off (by omega)).trans (Grd.carry HX1.out b1)
  have HR1 : Hid (RowIn (V1.setCell ⟨w.heap.size, 2, none⟩ (.slice a1 s.cs.length c1)) w.heap.size (.slice a1 s.cs.length c1) s.cs) := hR1.keep (Kept.store hp1 (by decide) (Nat.le_refl _))
  have HB1 : Hid (Below w.heap.size w (V1.setCell ⟨w.heap.size, 2, none⟩ (.slice a1 s.cs.length c1))) := (HKB.out.trans (b1.mono HKB.out.size)).setCell (Nat.le_refl _) _
  have c12 := (scr_cells hp1).2.1.2.1
  clear hR1 b1 hp1 c2
  go_wp2_with fail
  refine (cloneBools_any _ s.tabs _ (HV.out.t.next HB1.out) HBK.out.f.bl).mono ?_
  rintro e V2 ⟨tv', rfl, ho2, b2⟩
  obtain ⟨a2, c2n, rfl⟩ := own_slice ho2
  have hp2 := Grd.carry HP1.out b2
  have f12 := (scr_cells hp2).2.2 12
  have c12' := (scr_cells hp2).2.1.2.1
  have HP2 : Hid ((V2.setCell ⟨w.heap.size, 12, none⟩ (.slice a2 s.tabs.length c2n)).heap[w.heap.size]? = some (.cells (scrA s (.slice a1 s.cs.length c1) (.slice a2 s.tabs.length c2n) (.slice ga s.gone.length gc)) 32 (0, 0))) := store_at hp2 rfl
  have HQ2 : Hid ((V2.setCell ⟨w.heap.size, 12, none⟩ (.slice a2 s.tabs.length c2n)).heap[w.heap.size + 1]? = _) := (store_off (by omega)).trans (Grd.carry HQ1.out b2)
  have HR2 : Hid (RowIn (V2.setCell ⟨w.heap.size, 12, none⟩ (.slice a2 s.tabs.length c2n)) w.heap.size (.slice a1 s.cs.length c1) s.cs) := (HR1.out.keep (Kept.of_below b2)).keep (Kept.store hp2 (by decide) (Nat.le_refl _))
  have HT2 : Hid ((V2.setCell ⟨w.heap.size, 12, none⟩ (.slice a2 s.tabs.length c2n)).ownsRow w.heap.size 4 1 (.slice a2 s.tabs.length c2n) s.tabs.length (s.tabs.map Value.bool)) := Grd.ownsRow_mono (own_off ho2 hp2 (by decide)) HB1.out.size
  have HB2 : Hid (Below w.heap.size w (V2.setCell ⟨w.heap.size, 12, none⟩ (.slice a2 s.tabs.length c2n))) := (HB1.out.trans (b2.mono HB1.out.size)).setCell (Nat.le_refl _) _
  have c21 := (scr_cells hp2).2.1.2.2.2.2.2.2.2.2.2.2
  clear ho2 b2 hp2 c12 c2' f2 HP1 HQ1 HR1 HB1
  go_wp2_with fail
  clear c21 c12' f12
  go_loopg [3, 19] s.gone.length (fun q v i wr => ∃ (k : Nat) (vs : List Value), i = .int .i64 (k : Int) ∧ k ≤ s.gone.length ∧ s.gone.length - k ≤ q ∧ wr.ownsRow (w.heap.size + 2) 22 1 v k vs ∧ RowsIn wr w.heap.size vs (s.gone.take k) ∧ Below w.heap.size w wr ∧ wr.heap[w.heap.size]? = some (.cells (scrA s (.slice a1 s.cs.length c1) (.slice a2 s.tabs.length c2n) (.slice ga s.gone.length gc)) 32 (0, 0)) ∧ wr.heap[w.heap.size + 1]? = some (.cells (scrA zScr (.slice none 0 0) (.slice none 0 0) (.slice none 0 0)) 32 (0, 0)) ∧ RowIn wr w.heap.size (.slice a1 s.cs.length c1) s.cs ∧ wr.ownsRow w.heap.size 4 1 (.slice a2 s.tabs.length c2n) s.tabs.length (s.tabs.map Value.bool))
  case atStart => exact ⟨0, [], rfl, by omega, by omega, World.ownsRow_nil _ _ _ _, ⟨by simp, fun i hi => absurd hi (by simp)⟩, HB2.out, HP2.out, HQ2.out, HR2.out, HT2.out⟩
  case round =>
    clear HB2 HP2 HQ2 HR2 HT2
    obtain ⟨k, vs, rfl, hk, hq, hown, hrows, hb, hp, hp1, hr, ht⟩ := hrel
    have HO : Hid (wr.ownsRow (w.heap.size + 2) 22 1 _ k vs) := hown
    have HRS : Hid (RowsIn wr w.heap.size vs (s.gone.take k)) := hrows
    have HB : Hid (Below w.heap.size w wr) := hb
    have HP : Hid _ := hp
    have HQ : Hid _ := hp1
    have HR : Hid (RowIn wr w.heap.size _ s.cs) := hr
    have HT : Hid (wr.ownsRow w.heap.size 4 1 _ s.tabs.length (s.tabs.map Value.bool)) := ht
    have hN := heap_lt hp1
    clear hown hrows hb hr ht
    by_cases hlt : k < s.gone.length
    · have lt1 : ((k : Int) < (s.gone.length : Int)) := by omega
      rcases HV.out.g with ⟨he, -⟩ | ⟨b, o, c, hvv, -, -, hc⟩
      · rw [he] at hlt
        exact absurd hlt (by simp)
      injection hvv with hvv1 hvv2 hvv3
      subst hvv1 hvv3
      obtain ⟨rv, hc1, hS⟩ := hc k hlt
      have q0 := cell_stay HB.out hc1
      obtain ⟨ra, rc, hrv⟩ := hS.shape
      subst hrv
      have HCL := cloneCells_any _ w.heap.size (s.gone.getD k []) wr (hS.below HB.out) (HBK.out.row k hlt)
      have HTK : Hid (s.gone.take (k + 1) = s.gone.take k ++ [s.gone.getD k []]) := take_next _ _ _ hlt
      clear hc hc1 hS hp hp1
      generalize s.gone.getD k [] = row at *
      have hsl := own_slice HO.out
      go_upto_region 7 with fail
      go_wp2_with (first | (go_at_call 115; refine HCL.mono ?_; rintro e W2 ⟨na, nc, rfl, hr2, b2⟩) | (at_builtin; refine Hid.out ?_))
      unfold Hid
      have HR2 : Hid (RowIn W2 w.heap.size (.slice na row.length nc) row) := hr2
      have hown2 : W2.ownsRow (w.heap.size + 2) 22 1 _ k vs := Grd.ownsRow_below HO.out b2
      have hgl := HBK.out.f.gl
      have hs2 := b2.size
      refine wpList_append_own _ rfl _ _ 30 rfl (w.heap.size + 2) 22 i0 (.slice none 0 0) 1 24 und_rows hi hz0 hz1 hz2 rfl (by decide) _ _ _ rfl (hown2.alloc _) ⟨W2.heap.size, 0, none⟩ 1 1 [.slice na row.length nc] rfl rfl (cell_one_new _ _ _) (by intro u hu; simp at hu; rw [hu]; rfl) (by unfold maxLen; omega) (by omega) (by simp; omega) ?_
      intro v3 W3 hown3 hgrow hnil
      go_wp2_with fail
      have kZ : Below W2.heap.size W2 (W2.alloc (.cells #[.slice na row.length nc] 22)) := (Below.refl _ _).alloc (Nat.le_refl _) _
      have hfrom := Grd.own_from HO.out
      have kb2 := HB.out.trans (b2.mono HB.out.size)
      have hN2 := b2.size
      have kk := Kept.grown (hown2.alloc (.cells #[.slice na row.length nc] 22)) (show w.heap.size ≤ w.heap.size + 2 by omega) hgrow
      have ka := Kept.of_below (N := w.heap.size) b2
      have kz := Kept.of_below (N := w.heap.size) kZ
      go_roundg (s.gone.length - (k + 1))
      case measure => omega
      case rel =>
        refine ⟨k + 1, vs ++ [.slice na row.length nc], rfl, by omega, by omega, hown3, ?_, ?_, ?_, ?_, ?_, ?_⟩
        · rw [HTK.out]
          exact (((HRS.out.keep ka).keep kz).keep kk).snoc ((HR2.out.keep kz).keep kk)
        · exact (kb2.alloc kb2.size _).grown hgrow (by simp; omega) (fun q hq => by have := hfrom q hq; omega)
        · rw [hgrow.block _ (by simp; omega) (fun e => by have := hfrom _ e.symm; omega)]
          exact Grd.carry (Grd.carry HP.out b2) kZ
        · rw [hgrow.block _ (by simp; omega) (fun e => by have := hfrom _ e.symm; omega)]
          exact Grd.carry (Grd.carry HQ.out b2) kZ
        · exact ((HR.out.keep ka).keep kz).keep kk
        · exact own_grown (own_next (own_next HT.out b2) kZ) (hown2.alloc _) (by decide) hgrow
    · have lt1 : ¬ ((k : Int) < (s.gone.length : Int)) := by omega
      have hkh : k = s.gone.length := by omega
      subst hkh
      rw [List.take_length] at HRS
      obtain ⟨na, nc, rfl⟩ := own_slice HO.out
      have f21 := (scr_cells hp).2.2 21
      have c21 := (scr_cells hp).2.1.2.2.2.2.2.2.2.2.2.2
      have HY0 : Hid ((wr.setCell ⟨w.heap.size, 21, none⟩ (.slice na s.gone.length nc)).heap[w.heap.size]? = some (.cells (scrA s (.slice a1 s.cs.length c1) (.slice a2 s.tabs.length c2n) (.slice na s.gone.length nc)) 32 (0, 0))) := store_at hp rfl
      have HY1 : Hid ((wr.setCell ⟨w.heap.size, 21, none⟩ (.slice na s.gone.length nc)).heap[w.heap.size + 1]? = _) := (store_off (by omega)).trans hp1
      have kk : Kept w.heap.size wr (wr.setCell ⟨w.heap.size, 21, none⟩ (.slice na s.gone.length nc)) := Kept.store hp (by decide) (Nat.le_refl _)
      have HRI : Hid (RowIn (wr.setCell ⟨w.heap.size, 21, none⟩ (.slice na s.gone.length nc)) w.heap.size (.slice a1 s.cs.length c1) s.cs) := HR.out.keep kk
      have HRG : Hid (RowsIn (wr.setCell ⟨w.heap.size, 21, none⟩ (.slice na s.gone.length nc)) w.heap.size vs s.gone) := HRS.out.keep kk
      have HTT : Hid ((wr.setCell ⟨w.heap.size, 21, none⟩ (.slice na s.gone.length nc)).ownsRow w.heap.size 4 1 (.slice a2 s.tabs.length c2n) s.tabs.length (s.tabs.map Value.bool)) := own_off HT.out hp (by decide)
      have HOO : Hid ((wr.setCell ⟨w.heap.size, 21, none⟩ (.slice na s.gone.length nc)).ownsRow (w.heap.size + 2) 22 1 (.slice na s.gone.length nc) s.gone.length vs) := own_off HO.out hp (by decide)
      have HBB : Hid (Below w.heap.size w (wr.setCell ⟨w.heap.size, 21, none⟩ (.slice na s.gone.length nc))) := HB.out.setCell (Nat.le_refl _) _
      clear hp hp1 kk
      go_wp2_with (first
        | (refine wpList_load_row rfl 32 (.tmp 1) rfl w.heap.size rfl _ _ _ _ HY0.out Tryz.underlying32 rfl (by kernel_rfl) ?_)
        | (refine wpList_store_row rfl 32 (.tmp 2) _ rfl (w.heap.size + 1) (scrA s (.slice a1 s.cs.length c1) (.slice a2 s.tabs.length c2n) (.slice na s.gone.length nc)) rfl rfl _ _ HY1.out (by kernel_rfl) rfl (scr_one _ _ _ _ _ _ _ _ _ _) ?_))
      (try simp only [Exit.inBlock, Exit.then])
      have ko : ∀ k, k ≠ w.heap.size + 1 → ((wr.setCell ⟨w.heap.size, 21, none⟩ (.slice na s.gone.length nc)).setRow (w.heap.size + 1) (scrA s (.slice a1 s.cs.length c1) (.slice a2 s.tabs.length c2n) (.slice na s.gone.length nc))).heap[k]? = (wr.setCell ⟨w.heap.size, 21, none⟩ (.slice na s.gone.length nc)).heap[k]? := fun k hk => setRow_other _ _ _ _ hk
      have kt : ∀ (k : Nat) (A : Array Value) (t : TypeId) (f : Nat × Nat), (wr.setCell ⟨w.heap.size, 21, none⟩ (.slice na s.gone.length nc)).heap[k]? = some (.cells A t f) → t ≠ 32 → k ≠ w.heap.size + 1 := fun k A t f hk ht e => by
        have h1 := HY1.out
        rw [← e, hk] at h1
        injection h1 with h1
        injection h1 with _ h1 _
        exact ht h1
      have kk : Kept w.heap.size (wr.setCell ⟨w.heap.size, 21, none⟩ (.slice na s.gone.length nc)) ((wr.setCell ⟨w.heap.size, 21, none⟩ (.slice na s.gone.length nc)).setRow (w.heap.size + 1) (scrA s (.slice a1 s.cs.length c1) (.slice a2 s.tabs.length c2n) (.slice na s.gone.length nc))) := fun k hk hS => ko k (by
        rcases hS with hS | ⟨A, f, hS⟩
        · omega
        · exact kt k A _ f hS (by decide))
      refine bodyPost_ret (v := .agg (scrA s (.slice a1 s.cs.length c1) (.slice a2 s.tabs.length c2n) (.slice na s.gone.length nc))) ?_ rfl ⟨_, _, _, rfl, ⟨(HRI.out.keep kk).cells, own_boolsV (owns_kept HTT.out fun g hg => ?_), own_rowsV (owns_kept HOO.out fun g hg => ?_) (HRG.out.keep kk).list⟩, below_setRow HBB.out (by omega) _⟩
      · exact results_cell_row rfl _ _ (w.heap.size + 1) _ _ _ _ rfl (setRow_heap _ _ _ _ _ _ HY1.out) Tryz.underlying32 rfl (by kernel_rfl)
      · obtain ⟨-, A, f, hA⟩ := owns_block HTT.out g hg
        exact ko g (kt g A _ f hA (by decide))
      · obtain ⟨-, A, f, hA⟩ := owns_block HOO.out g hg
        exact ko g (kt g A _ f hA (by decide))
end Put
end Go.Proofs.YtnkeahfcpbepjaaGreatDoor

/- A list of rows, anywhere in a block of such. -/
namespace Go.Proofs.YtnkeahfcpbepjaaGreatDoor
open Go.ChangeShapes Go.WideShapes Go.ChangeAt Go.RowKit
namespace Put
open Grd (C SliceAt CellsAt gridErr z0 nilV rowsL RowsAt RowB flat)
/-- The block that a slice speaks of. -/
def blkOf (v : Value) : Option Nat := match v with
  | .slice (some a) _ _ => some a.block
  | _ => none
/-- A list of rows' values, anywhere in a block of such: from N on. -/
def GoneV (W : World) (N : Nat) (v : Value) (n : Nat) (vs : List Value) : Prop :=
  vs.length = n ∧ ((n = 0 ∧ ∃ a c, v = .slice a 0 c) ∨ ∃ g o cap A, v = .slice (some ⟨g, o, none⟩) n cap ∧ N ≤ g ∧ n ≤ cap ∧ cap ≤ 9223372036854775807 ∧ W.heap[g]? = some (.cells A 22 (0, 0)) ∧ ∀ j, j < n → A[o + j]? = some (vs.getD j nilV))
theorem GoneV.of {W : World} {N : Nat} {v : Value} {n : Nat} {vs : List Value} (h : W.ownsRow N 22 1 v n vs) : GoneV W N v n vs := by
  obtain ⟨h0, ⟨rfl, rfl⟩ | ⟨g, cap, cur, rfl, hg, hh, hc, hm, hs, htk⟩⟩ := h
  · exact ⟨by simpa using h0, .inl ⟨rfl, none, 0, rfl⟩⟩
  · refine ⟨by simpa using h0, .inr ⟨g, 0, cap, cur, rfl, hg, hc, by unfold maxLen at hm; omega, hh, fun j hj => ?_⟩⟩
    have hl : vs.length = n := by simpa using h0
    rw [Nat.zero_add]
    have e : cur[j]? = vs[j]? := by rw [← htk, ← Array.getElem?_toList, List.getElem?_take_of_lt (by omega)]
    rw [e]
    simp [List.getD, List.getElem?_eq_getElem (show j < vs.length by omega)]
theorem GoneV.slice {W : World} {N : Nat} {v : Value} {n : Nat} {vs : List Value} (h : GoneV W N v n vs) : ∃ a c, v = .slice a n c := by
  obtain ⟨-, ⟨rfl, a, c, rfl⟩ | ⟨g, o, cap, A, rfl, -⟩⟩ := h
  · exact ⟨a, c, rfl⟩
  · exact ⟨_, cap, rfl⟩
theorem GoneV.kept {W W' : World} {N : Nat} {v : Value} {n : Nat} {vs : List Value} (h : GoneV W N v n vs) (hk : ∀ g, v.ownBlock = some g → W'.heap[g]? = W.heap[g]?) : GoneV W' N v n vs := by
  obtain ⟨h0, h | ⟨g, o, cap, A, hv, h1, h2, h3, h4, h5⟩⟩ := h
  · exact ⟨h0, .inl h⟩
  · exact ⟨h0, .inr ⟨g, o, cap, A, hv, h1, h2, h3, (hk g (by rw [hv]; rfl)).trans h4, h5⟩⟩
theorem GoneV.next {W W' : World} {N : Nat} {v : Value} {n : Nat} {vs : List Value} (h : GoneV W N v n vs) (hb : Below W.heap.size W W') : GoneV W' N v n vs := by
  obtain ⟨h0, h | ⟨g, o, cap, A, hv, h1, h2, h3, h4, h5⟩⟩ := h
  · exact ⟨h0, .inl h⟩
  · exact ⟨h0, .inr ⟨g, o, cap, A, hv, h1, h2, h3, Grd.carry h4 hb, h5⟩⟩
theorem GoneV.apart {W W' : World} {N p : Nat} {t : TypeId} {v : Value} {n : Nat} {vs : List Value} {A : Array Value} {f : Nat × Nat} (h : GoneV W N v n vs) (hp : W.heap[p]? = some (.cells A t f)) (ht : t ≠ 22) (ho : ∀ k, k ≠ p → W'.heap[k]? = W.heap[k]?) : GoneV W' N v n vs := by
  obtain ⟨h0, h | ⟨g, o, cap, B, hv, h1, h2, h3, h4, h5⟩⟩ := h
  · exact ⟨h0, .inl h⟩
  · refine ⟨h0, .inr ⟨g, o, cap, B, hv, h1, h2, h3, (ho g fun e => ?_).trans h4, h5⟩⟩
    rw [e, hp] at h4
    injection h4 with h4
    injection h4 with _ h4 _
    exact ht h4
theorem GoneV.rowsV {W : World} {N : Nat} {v : Value} {rows : List (List C)} {vs : List Value} (h : GoneV W N v rows.length vs) (hr : RowsL W vs rows) : RowsV W v rows := by
  obtain ⟨h0, ⟨hn, a, c, hv⟩ | ⟨g, o, cap, A, hv, h1, h2, h3, h4, h5⟩⟩ := h
  · exact .inl ⟨List.eq_nil_of_length_eq_zero hn, a, c, hv⟩
  · refine .inr ⟨g, o, cap, hv, h2, h3, fun j hj => ⟨vs.getD j nilV, ?_, hr.2 j hj⟩⟩
    simp only [World.cell?, h4]
    rw [h5 j hj]
    rfl
end Put
end Go.Proofs.YtnkeahfcpbepjaaGreatDoor

/- The reference's desk: a screen under way; Take, Give. -/
namespace Go.Proofs.YtnkeahfcpbepjaaGreatDoor
open Go.ChangeShapes Go.WideShapes Go.ChangeAt Go.RowKit
namespace Put
open Grd (C SliceAt CellsAt gridErr z0 nilV rowsL RowsAt RowB flat)
/-- A desk in memory: its block p, its rows in blocks of their own (gs), which nothing else speaks of. -/
structure DkA (W : World) (N p : Nat) (s : Scr) (rows : List (List C)) (cv tv gv rv : Value) (gvs vs : List Value) (gs : List Nat) : Prop where
  blk : W.heap[p]? = some (.cells (shA s cv tv gv rv) 50 (0, 0))
  lo : N ≤ p
  cvs : ∃ a n c, cv = .slice a n c
  tabs : W.ownsRow N 4 1 tv s.tabs.length (s.tabs.map Value.bool)
  gone : GoneV W N gv s.gone.length gvs
  gin : RowsIn W N gvs s.gone
  gof : ∀ i, i < s.gone.length → s.gone.getD i [] ≠ [] → ∀ g, blkOf (gvs.getD i nilV) = some g → g ∉ gs
  rws : W.ownsRow N 22 1 rv rows.length vs
  rin : RowsAt W N vs gs rows
  two : ∀ k, rv.ownBlock = some k → gv.ownBlock ≠ some k
def DkAt (W : World) (N p : Nat) (s : Scr) (rows : List (List C)) : Prop := ∃ cv tv gv rv gvs vs gs, DkA W N p s rows cv tv gv rv gvs vs gs
theorem DkA.next {W W' : World} {N p : Nat} {s : Scr} {rows : List (List C)} {cv tv gv rv : Value} {gvs vs : List Value} {gs : List Nat} (h : DkA W N p s rows cv tv gv rv gvs vs gs) (hb : Below W.heap.size W W') : DkA W' N p s rows cv tv gv rv gvs vs gs :=
  ⟨Grd.carry h.blk hb, h.lo, h.cvs, own_next h.tabs hb, h.gone.next hb, h.gin.keep (Kept.of_below hb), h.gof, own_next h.rws hb, h.rin.below hb, h.two⟩
theorem DkAt.next {W W' : World} {N p : Nat} {s : Scr} {rows : List (List C)} (h : DkAt W N p s rows) (hb : Below W.heap.size W W') : DkAt W' N p s rows := by
  obtain ⟨cv, tv, gv, rv, gvs, vs, gs, h⟩ := h
  exact ⟨_, _, _, _, _, _, _, h.next hb⟩
theorem DkAt.lo {W : World} {N p : Nat} {s : Scr} {rows : List (List C)} (h : DkAt W N p s rows) : N ≤ p := by
  obtain ⟨cv, tv, gv, rv, gvs, vs, gs, h⟩ := h
  exact h.lo
theorem rowB_type {W : World} {g : Nat} {v : Value} {row : List C} (h : RowB W g v row) : ∃ A, W.heap[g]? = some (.cells A 91 (0, 0)) := by
  obtain ⟨cap, rest, -, -, -, h⟩ := h
  exact ⟨_, h⟩
/-- A block that is none of the rows' keeps its number. -/
theorem RowsAt.apart {W W' : World} {N p : Nat} {vs : List Value} {gs : List Nat} {rows : List (List C)} {A : Array Value} {t : TypeId} {f : Nat × Nat} (h : RowsAt W N vs gs rows) (hp : W.heap[p]? = some (.cells A t f)) (ht : t ≠ 91) (ho : ∀ k, k ≠ p → W'.heap[k]? = W.heap[k]?) : RowsAt W' N vs gs rows :=
  h.kept fun i hi => ho _ fun e => by
    obtain ⟨B, hB⟩ := rowB_type (h.2.2.2 i hi).2
    rw [e, hp] at hB
    injection hB with hB
    injection hB with _ hB _
    exact ht hB
theorem own_apart {W W' : World} {N p : Nat} {e t : TypeId} {u : Value} {n : Nat} {xs : List Value} {A : Array Value} {f : Nat × Nat} (h : W.ownsRow N e 1 u n xs) (hp : W.heap[p]? = some (.cells A t f)) (ht : t ≠ e) (ho : ∀ k, k ≠ p → W'.heap[k]? = W.heap[k]?) : W'.ownsRow N e 1 u n xs :=
  owns_kept h fun g hg => ho g fun eq => by
    obtain ⟨-, B, f', hB⟩ := owns_block h g hg
    rw [eq, hp] at hB
    injection hB with hB
    injection hB with _ hB _
    exact ht hB
theorem Kept.apart {W W' : World} {N p : Nat} {t : TypeId} {A : Array Value} {f : Nat × Nat} (hp : W.heap[p]? = some (.cells A t f)) (ht : t ≠ 91) (hN : N ≤ p) (ho : ∀ k, k ≠ p → W'.heap[k]? = W.heap[k]?) : Kept N W W' := fun k _ hS => ho k fun e => by
  subst e
  rcases hS with hS | ⟨B, f', hS⟩
  · omega
  · rw [hp] at hS
    injection hS with hS
    injection hS with _ hS _
    exact ht hS
/-- Other words in the desk's own block, but for the tabs, the rows and what is gone. -/
theorem DkA.put {W W' : World} {N p : Nat} {s s' : Scr} {rows : List (List C)} {cv tv gv rv : Value} {gvs vs : List Value} {gs : List Nat} (h : DkA W N p s rows cv tv gv rv gvs vs gs)
    (hp : W'.heap[p]? = some (.cells (shA s' cv tv gv rv) 50 (0, 0))) (ho : ∀ k, k ≠ p → W'.heap[k]? = W.heap[k]?) (htabs : s'.tabs = s.tabs) (hgone : s'.gone = s.gone) : DkA W' N p s' rows cv tv gv rv gvs vs gs := by
  refine ⟨hp, h.lo, h.cvs, ?_, ?_, ?_, ?_, own_apart h.rws h.blk (by decide) ho, RowsAt.apart h.rin h.blk (by decide) ho, h.two⟩
  · rw [htabs]
    exact own_apart h.tabs h.blk (by decide) ho
  · rw [hgone]
    exact h.gone.apart h.blk (by decide) ho
  · rw [hgone]
    exact h.gin.keep (Kept.apart h.blk (by decide) h.lo ho)
  · rw [hgone]
    exact h.gof
theorem DkAt.set {W : World} {N p : Nat} {s s' : Scr} {rows : List (List C)} (h : DkAt W N p s rows) (i : Nat) (v : Value) (e : ∀ cv tv gv rv, (shA s cv tv gv rv).setIfInBounds i v = shA s' cv tv gv rv) (h1 : s'.tabs = s.tabs) (h2 : s'.gone = s.gone) : DkAt (W.setCell ⟨p, i, none⟩ v) N p s' rows := by
  obtain ⟨cv, tv, gv, rv, gvs, vs, gs, h⟩ := h
  exact ⟨_, _, _, _, _, _, _, h.put (store_at h.blk (e _ _ _ _)) (fun k hk => store_off hk) h1 h2⟩
/-- The words of a desk that stand for themselves. -/
theorem DkAt.words {W : World} {N p : Nat} {s : Scr} {rows : List (List C)} (h : DkAt W N p s rows) :
    W.cell? ⟨p, 0, none⟩ = some (.int .i64 s.w) ∧ W.cell? ⟨p, 1, none⟩ = some (.int .i64 s.h) ∧ W.cell? ⟨p, 3, none⟩ = some (.int .i64 s.x) ∧ W.cell? ⟨p, 4, none⟩ = some (.int .i64 s.y) ∧ W.cell? ⟨p, 5, none⟩ = some (.bool s.late) ∧ W.cell? ⟨p, 9, none⟩ = some (.int .i64 s.top) ∧ W.cell? ⟨p, 10, none⟩ = some (.int .i64 s.bot) ∧ W.cell? ⟨p, 11, none⟩ = some (.int .i64 s.modes) ∧ W.cell? ⟨p, 19, none⟩ = some (.int .i32 s.last) ∧ ∀ i, W.frozen? ⟨p, i, none⟩ = false := by
  obtain ⟨cv, tv, gv, rv, gvs, vs, gs, h⟩ := h
  obtain ⟨⟨c0, c1, -, c3, c4, c5, -, -, -, c9, c10⟩, ⟨c11, -, -, -, -, -, -, -, c19, -⟩, f⟩ := sh_cells h.blk
  exact ⟨c0, c1, c3, c4, c5, c9, c10, c11, c19, f⟩
theorem buildD_run (W : World) (s : Scr) (cv tv gv : Value) (a : Option Addr) (n c : Nat) : (Instr.build 50 #[(0, .agg (scrA s cv tv gv)), (1, .slice a n c)]).run Tryz.prog W = .ok (.agg (shA s cv tv gv (.slice a n c))) W := by
  kernel_rfl
theorem buildD_scr (a : Act) (dst : Option Tmp) (x y : Operand) (ty : TypeId) (pos : String) (after : Array Edge) (guard : Option (Nat × Bool)) (W : World) (h : IsScrV (a.eval x)) (hy : IsSliceV (a.eval y)) :
    (execOp a.eval { dst, op := .build 50 #[(0, x), (1, y)], type := ty, pos, after, guard }).run Tryz.prog W = .ok (.value (.agg (sheetOf (a.eval x) (a.eval y)))) W := by
  obtain ⟨s, cv, tv, gv, hx⟩ := h
  obtain ⟨p, n, c, hy⟩ := hy
  unfold execOp
  simp only [List.map_toArray, List.map_cons, List.map_nil, hx, hy, sheetOf_scr, Sem.run_bind, buildD_run, Sem.run_pure, Result.andThen_ok]
theorem rowsAt_ne {W : World} {N : Nat} {vs : List Value} {gs : List Nat} {rows : List (List C)} (h : RowsAt W N vs gs rows) (g : Nat) (hg : g ∈ gs) : N ≤ g ∧ g < W.heap.size := by
  obtain ⟨i, hi, rfl⟩ := List.mem_iff_getElem.1 hg
  have hi' : i < rows.length := by rw [← h.2.1]; exact hi
  have e : gs.getD i 0 = gs[i] := by simp [List.getD, hi]
  have h1 := (h.2.2.2 i hi').1
  have h2 := h.lt i hi'
  rw [e] at h1 h2
  exact ⟨h1, h2⟩
section
attribute [local go_sem ↓] load_scr buildD_scr
attribute [local go_sem] isScrV isSliceV sheetOf_scr
set_option maxHeartbeats 4000000 in
theorem take_any (n hh : Nat) (s : Scr) (cv tv gv : Value) (w0 w : World) (hV : ScrV w0 s cv tv gv) (hb0 : Below w0.heap.size w0 w) (hF : Fits s) (hw : s.w = n) (hh' : s.h = hh) (hz : gridErr n hh s.cs = 0) :
    Calls Tryz.prog 67 #[.agg (scrA s cv tv gv)] w fun e W' => ∃ p, e = .returned (.pointer (some ⟨p, 0, none⟩)) ∧ DkAt W' w.heap.size p s (rowsL n s.cs hh) ∧ Below w.heap.size w W' := by
  have hzz := (Grd.gridErr_zero n hh s.cs).1 hz
  obtain ⟨hsz, hL, -⟩ := hzz
  have hsz' : 1 ≤ (n : Int) ∧ (n : Int) ≤ 120 ∧ 1 ≤ (hh : Int) ∧ (hh : Int) ≤ 60 := by simpa [Grd.isSize] using hsz
  obtain ⟨w1, w2, w3, w4⟩ := hsz'
  have hne : s.cs ≠ [] := by
    intro e
    rw [e] at hL
    have : 1 ≤ n * hh := Nat.mul_pos (by omega) (by omega)
    simp at hL
    omega
  rcases hV.c with ⟨he, -⟩ | ⟨-, b, o, cap, rfl, hc1, hc2, hC⟩
  · exact absurd he hne
  have HL : Hid (s.cs.length = n * hh) := hL
  have HC : Hid (CellsAt w0 b o s.cs) := hC
  have HB00 : Hid (Below w0.heap.size w0 w) := hb0
  have HW : Hid (s.w = n ∧ s.h = hh) := ⟨hw, hh'⟩
  have HSZ : Hid (Grd.isSize n hh = true) := hsz
  clear hL hC hz hsz hne hw hh'
  have x0 := heap_alloc_new w (.cells (scrA s (.slice (some ⟨b, o, none⟩) s.cs.length cap) tv gv) 32)
  have kb : Below w.heap.size w (w.alloc (.cells (scrA s (.slice (some ⟨b, o, none⟩) s.cs.length cap) tv gv) 32)) := (Below.refl _ _).alloc (Nat.le_refl _) _
  have HX0 : Hid _ := x0
  have HB0 : Hid _ := kb
  have HV : Hid (ScrV w0 s _ tv gv) := hV
  have HF : Hid (Fits s) := hF
  clear x0 kb hV hF hb0
  have hl0 : w.heap.size < (w.alloc (.cells (scrA s (.slice (some ⟨b, o, none⟩) s.cs.length cap) tv gv) 32)).heap.size := by simp
  go_enter Tryz.func67, Tryz.ntmps67
  go_upto_region 1 with fail
  generalize w.alloc (.cells (scrA s (.slice (some ⟨b, o, none⟩) s.cs.length cap) tv gv) 32) = W1 at *
  go_cut [3] from 3 to 9 (fun c wx => ∃ p rv vs gs, c = .pointer (some ⟨p, 0, none⟩) ∧ w.heap.size ≤ p ∧ wx.heap[p]? = some (.cells (shA s (.slice (some ⟨b, o, none⟩) s.cs.length cap) tv gv rv) 50 (0, 0)) ∧ wx.ownsRow w.heap.size 22 1 rv hh vs ∧ RowsAt wx w.heap.size vs gs (rowsL n s.cs hh) ∧ Below W1.heap.size W1 wx)
  case first =>
    have SK : Hid (∀ w', Below W1.heap.size W1 w' → Below W1.heap.size W1 w' ∧ ScrPtr w' (.pointer (some ⟨w.heap.size, 0, none⟩)) ∧ blkAt w' (.pointer (some ⟨w.heap.size, 0, none⟩)) = scrA s (.slice (some ⟨b, o, none⟩) s.cs.length cap) tv gv ∧ w'.cell? ⟨w.heap.size, 0, none⟩ = some (.int .i64 (n : Int)) ∧ w'.cell? ⟨w.heap.size, 1, none⟩ = some (.int .i64 (hh : Int)) ∧ w'.cell? ⟨w.heap.size, 2, none⟩ = some (.slice (some ⟨b, o, none⟩) s.cs.length cap)) := fun w' hb => by
      have hx := Grd.carry HX0.out hb
      have q := scr_cells hx
      rw [HW.out.1, HW.out.2] at q
      exact ⟨hb, (scrPtr_of hx).1, (scrPtr_of hx).2, q.1.1, q.1.2.1, q.1.2.2.1⟩
    have b0 : Below W1.heap.size W1 W1.drew := (Below.refl _ _).drew
    have HC1 : Hid (s.cs.length ≤ cap) := hc1
    have hh1 : 0 < hh := by omega
    clear hc1
    go_region_held3 (fun w' => Below W1.heap.size W1 w' ∧ ScrPtr w' (.pointer (some ⟨w.heap.size, 0, none⟩)) ∧ blkAt w' (.pointer (some ⟨w.heap.size, 0, none⟩)) = scrA s (.slice (some ⟨b, o, none⟩) s.cs.length cap) tv gv ∧ w'.cell? ⟨w.heap.size, 0, none⟩ = some (.int .i64 (n : Int)) ∧ w'.cell? ⟨w.heap.size, 1, none⟩ = some (.int .i64 (hh : Int)) ∧ w'.cell? ⟨w.heap.size, 2, none⟩ = some (.slice (some ⟨b, o, none⟩) s.cs.length cap))
      (first | exact SK.out _ (c1.alloc c1.size _) | exact SK.out _ c1 | exact SK.out _ b0)
      (first | (go_at_call 125; refine (Grd.rows_any n hh b o cap s.cs W1.drew (HC.out.below (HB00.out.trans ((HB0.out.trans (b0.mono HB0.out.size)).mono HB00.out.size))) HSZ.out HL.out HC1.out).mono ?_; rintro e V1 ⟨v, vs, gs, rfl, ho, hra, b1⟩; have c1 := b0.trans (b1.mono b0.size); have HO : Hid (V1.ownsRow W1.heap.size 22 1 v hh vs) := ho; have HRA : Hid (RowsAt V1 W1.heap.size vs gs (rowsL n s.cs hh)) := hra; obtain ⟨g, cp, rfl⟩ := own_shape ho hh1; clear b1 ho hra))
    go_wp2_with fail
    go_meet
    refine ⟨V1.heap.size, _, vs, gs, rfl, Nat.le_trans (Nat.le_of_lt hl0) c1.size, heap_alloc_new _ _, Grd.ownsRow_mono (World.ownsRow.alloc HO.out _) (by omega), ?_, c1.alloc c1.size _⟩
    have h1 := HRA.out.below ((Below.refl V1.heap.size V1).alloc (Nat.le_refl _) (.cells (shA s (.slice (some ⟨b, o, none⟩) s.cs.length cap) tv gv (.slice (some ⟨g, 0, none⟩) hh cp)) 50))
    exact ⟨h1.1, h1.2.1, h1.2.2.1, fun i hi => ⟨by have := (h1.2.2.2 i hi).1; omega, (h1.2.2.2 i hi).2⟩⟩
  case rest =>
    obtain ⟨p, rv, vs, gs, rfl, hp, hblk, hown, hra, hb⟩ := hcut
    have hne : w.heap.size ≠ p := by
      intro e
      rw [← e, Grd.carry HX0.out hb] at hblk
      injection hblk with hblk
      injection hblk with _ hblk _
      exact absurd hblk (by decide)
    have HX1 : Hid _ := Grd.carry HX0.out hb
    have HP1 : Hid _ := hblk
    have HO1 : Hid _ := hown
    have HR1 : Hid (RowsAt wc w.heap.size vs gs (rowsL n s.cs hh)) := hra
    have HB1 : Hid (Below w.heap.size w wc) := HB0.out.trans (hb.mono HB0.out.size)
    have hlow : ∀ {V : World}, Below w.heap.size w V → Below w0.heap.size w0 V := fun h => HB00.out.trans (h.mono HB00.out.size)
    have HLOW : Hid (∀ {V : World}, Below w.heap.size w V → Below w0.heap.size w0 V) := hlow
    clear hblk hown hb hra hlow
    obtain ⟨-, ⟨-, c12, -⟩, -⟩ := scr_cells HX1.out
    go_wp2_with fail
    refine (cloneBools_any tv s.tabs wc (BoolsV.next HV.out.t (HLOW.out HB1.out)) HF.out.bl).mono ?_
    rintro e W2 ⟨tv', rfl, ho2, b2⟩
    obtain ⟨ta, tc, rfl⟩ := own_slice ho2
    have hp2 := Grd.carry HP1.out b2
    have f12 := (sh_cells hp2).2.2 12
    have c12' := (sh_cells hp2).2.1.2.1
    clear c12
    have HP2 : Hid _ := store_at (i := 12) (v := .slice ta s.tabs.length tc) hp2 rfl
    have HX2 : Hid _ := (store_off (i := 12) (v := .slice ta s.tabs.length tc) hne).trans (Grd.carry HX1.out b2)
    have HT2 : Hid _ := own_off (i := 12) (v := .slice ta s.tabs.length tc) ho2 hp2 (by decide)
    have HO2 : Hid _ := own_off (i := 12) (v := .slice ta s.tabs.length tc) (own_next HO1.out b2) hp2 (by decide)
    have HR2 : Hid (RowsAt (W2.setCell ⟨p, 12, none⟩ (.slice ta s.tabs.length tc)) w.heap.size vs gs (rowsL n s.cs hh)) := RowsAt.apart (HR1.out.below b2) hp2 (by decide) fun k hk => store_off hk
    have HB2 : Hid (Below w.heap.size w (W2.setCell ⟨p, 12, none⟩ (.slice ta s.tabs.length tc))) := (HB1.out.trans (b2.mono HB1.out.size)).setCell hp _
    have c21 := (scr_cells (Grd.carry HX1.out b2)).2.1.2.2.2.2.2.2.2.2.2.2
    clear ho2 b2 hp2
    go_wp2_with fail
    refine (cloneRows_any gv s.gone _ (RowsV.next HV.out.g (HLOW.out HB2.out)) HF.out.gl).mono ?_
    rintro e W6 ⟨gv', gvs, rfl, ho6, -, hr6, b6⟩
    have HR6 : Hid (RowsL w0 gvs s.gone) := hr6 w0 (HLOW.out HB2.out) HV.out.g
    obtain ⟨ga, gc, rfl⟩ := own_slice ho6
    have hp6 := Grd.carry HP2.out b6
    have f21 := (sh_cells hp6).2.2 21
    have c21' := (sh_cells hp6).2.1.2.2.2.2.2.2.2.2.2.2.1
    have HP6 : Hid _ := store_at (i := 21) (v := .slice ga s.gone.length gc) hp6 rfl
    have HT6 : Hid _ := own_off (i := 21) (v := .slice ga s.gone.length gc) (own_next HT2.out b6) hp6 (by decide)
    have HO6 : Hid _ := own_off (i := 21) (v := .slice ga s.gone.length gc) (own_next HO2.out b6) hp6 (by decide)
    have HG6 : Hid _ := own_off (i := 21) (v := .slice ga s.gone.length gc) ho6 hp6 (by decide)
    have HRA6 : Hid (RowsAt (W6.setCell ⟨p, 21, none⟩ (.slice ga s.gone.length gc)) w.heap.size vs gs (rowsL n s.cs hh)) := RowsAt.apart (HR2.out.below b6) hp6 (by decide) fun k hk => store_off hk
    have HB6 : Hid (Below w.heap.size w (W6.setCell ⟨p, 21, none⟩ (.slice ga s.gone.length gc))) := (HB2.out.trans (b6.mono HB2.out.size)).setCell hp _
    have HTW : Hid (∀ k, rv.ownBlock = some k → (Value.slice ga s.gone.length gc).ownBlock ≠ some k) := fun k h1 h2 => by
      obtain ⟨-, A, f, hA⟩ := owns_block HO2.out k h1
      obtain ⟨hB, -⟩ := owns_block ho6 k h2
      have := heap_lt hA
      omega
    clear ho6 b6 hp6 c21 c12' f12 hr6
    go_wp2_with fail
    go_ret
    have hg0 : ∀ i, i < s.gone.length → s.gone.getD i [] ≠ [] → ∀ g, blkOf (gvs.getD i nilV) = some g → g < w0.heap.size := fun i hi hne' g hg => by
      rcases HR6.out.2 i hi with ⟨he, -⟩ | ⟨-, b', o', c', hv, -, -, hC'⟩
      · exact absurd he hne'
      · rw [hv] at hg
        have e : b' = g := by simpa [blkOf] using hg
        rw [← e]
        exact lt_of_cells hC' hne'
    have hM := HB00.out.size
    have hM1 := HB1.out.size
    have hM2 := HB2.out.size
    refine ⟨p, rfl, ⟨_, _, _, rv, gvs, vs, gs, HP6.out, hp, ⟨_, _, _, rfl⟩, Grd.ownsRow_mono HT6.out hM1, GoneV.of (Grd.ownsRow_mono HG6.out hM2), ?_, fun i hi hne' g hg hm => ?_, ?_, HRA6.out, HTW.out⟩, HB6.out⟩
    · have h1 := (RowsIn.of HR6.out rfl).keep (Kept.of_below (HLOW.out HB6.out))
      refine ⟨h1.1, fun i hi => ?_⟩
      rcases h1.2 i hi with h | ⟨h2, b', o', c', h3, h4, h5, h6, h7⟩
      · exact .inl h
      · exact .inr ⟨h2, b', o', c', h3, h4, h5, h6, h7.imp (fun h => by omega) id⟩
    · have h1 := hg0 i hi hne' g hg
      have h2 := (rowsAt_ne HRA6.out g hm).1
      omega
    · rw [Grd.rowsL_len]
      exact HO6.out
end
end Put
end Go.Proofs.YtnkeahfcpbepjaaGreatDoor

/- The reference's desk: other rows, other rows that are gone; empty. -/
namespace Go.Proofs.YtnkeahfcpbepjaaGreatDoor
open Go.ChangeShapes Go.WideShapes Go.ChangeAt Go.RowKit
namespace Put
open Grd (C SliceAt CellsAt gridErr z0 nilV flat rowsL OwnG RowB RowsAt)
theorem RowsAt.erase {W : World} {N : Nat} {vs : List Value} {gs : List Nat} {rows : List (List C)} (h : RowsAt W N vs gs rows) (i : Nat) (hi : i < rows.length) : RowsAt W N (vs.eraseIdx i) (gs.eraseIdx i) (rows.eraseIdx i) := by
  obtain ⟨h1, h2, h3, h4⟩ := h
  refine ⟨by rw [List.length_eraseIdx_of_lt (by omega), List.length_eraseIdx_of_lt hi, h1], by rw [List.length_eraseIdx_of_lt (by omega), List.length_eraseIdx_of_lt hi, h2], h3.sublist (List.eraseIdx_sublist _ _), fun j hj => ?_⟩
  rw [List.length_eraseIdx_of_lt hi] at hj
  rw [getD_erase, getD_erase, getD_erase]
  split
  · exact h4 j (by omega)
  · exact h4 (j + 1) (by omega)
theorem mem_insert {l : List Nat} {i x g : Nat} (hi : i ≤ l.length) (h : g ∈ l.insertIdx i x) : g = x ∨ g ∈ l := by
  rw [List.mem_insertIdx hi] at h
  exact h
theorem nodup_insert {l : List Nat} {i x : Nat} (h : l.Nodup) (hx : x ∉ l) (hi : i ≤ l.length) : (l.insertIdx i x).Nodup := by
  have hp := List.perm_insertIdx x l hi
  rw [hp.nodup_iff, List.nodup_cons]
  exact ⟨hx, h⟩
theorem RowsAt.insert {W : World} {N : Nat} {vs : List Value} {gs : List Nat} {rows : List (List C)} (h : RowsAt W N vs gs rows) (i : Nat) (hi : i ≤ rows.length) (v : Value) (g : Nat) (row : List C) (hg : N ≤ g) (hn : g ∉ gs) (hr : RowB W g v row) : RowsAt W N (vs.insertIdx i v) (gs.insertIdx i g) (rows.insertIdx i row) := by
  obtain ⟨h1, h2, h3, h4⟩ := h
  refine ⟨by rw [List.length_insertIdx_of_le_length (by omega), List.length_insertIdx_of_le_length hi, h1], by rw [List.length_insertIdx_of_le_length (by omega), List.length_insertIdx_of_le_length hi, h2], nodup_insert h3 hn (by omega), fun j hj => ?_⟩
  rw [List.length_insertIdx_of_le_length hi] at hj
  rw [getD_insert _ _ _ _ _ (by omega), getD_insert _ _ _ _ _ (by omega), getD_insert _ _ _ _ _ hi]
  split
  · exact h4 j (by omega)
  · split
    · exact ⟨hg, hr⟩
    · exact h4 (j - 1) (by omega)
theorem RowsAt.sls {W : World} {N : Nat} {vs : List Value} {gs : List Nat} {rows : List (List C)} (h : RowsAt W N vs gs rows) : ∀ v, v ∈ vs → IsSl v := by
  intro v hv
  obtain ⟨i, hi, rfl⟩ := List.mem_iff_getElem.1 hv
  obtain ⟨cap, rest, e, -⟩ := (h.2.2.2 i (by rw [← h.1]; exact hi)).2
  have e2 : vs.getD i nilV = vs[i] := by simp [List.getD, hi]
  rw [e2] at e
  exact ⟨(_, _, cap), e⟩
/-- The blocks of rows are kept where one block of another kind changes. -/
theorem RowsAt.off {W V : World} {N rb : Nat} {vs : List Value} {gs : List Nat} {rows : List (List C)} {A : Array Value} {t : TypeId} {f : Nat × Nat} (h : RowsAt W N vs gs rows) (hA : W.heap[rb]? = some (.cells A t f)) (ht : t ≠ 91) (ho : ∀ k, k < W.heap.size → k ≠ rb → V.heap[k]? = W.heap[k]?) : RowsAt V N vs gs rows :=
  h.kept fun i hi => ho _ (h.lt i hi) fun e => by
    obtain ⟨B, hB⟩ := rowB_type (h.2.2.2 i hi).2
    rw [e, hA] at hB
    injection hB with hB
    injection hB with _ hB _
    exact ht hB
/-- A desk, where a row that is gone may be one of the rows still. -/
structure DkX (W : World) (N p : Nat) (s : Scr) (rows : List (List C)) (cv tv gv rv : Value) (gvs vs : List Value) (gs : List Nat) : Prop where
  blk : W.heap[p]? = some (.cells (shA s cv tv gv rv) 50 (0, 0))
  lo : N ≤ p
  cvs : ∃ a n c, cv = .slice a n c
  tabs : W.ownsRow N 4 1 tv s.tabs.length (s.tabs.map Value.bool)
  gone : GoneV W N gv s.gone.length gvs
  gin : RowsIn W N gvs s.gone
  rws : W.ownsRow N 22 1 rv rows.length vs
  rin : RowsAt W N vs gs rows
  two : ∀ k, rv.ownBlock = some k → gv.ownBlock ≠ some k
theorem DkA.x {W : World} {N p : Nat} {s : Scr} {rows : List (List C)} {cv tv gv rv : Value} {gvs vs : List Value} {gs : List Nat} (h : DkA W N p s rows cv tv gv rv gvs vs gs) : DkX W N p s rows cv tv gv rv gvs vs gs := ⟨h.blk, h.lo, h.cvs, h.tabs, h.gone, h.gin, h.rws, h.rin, h.two⟩
theorem DkX.next {W W' : World} {N p : Nat} {s : Scr} {rows : List (List C)} {cv tv gv rv : Value} {gvs vs : List Value} {gs : List Nat} (h : DkX W N p s rows cv tv gv rv gvs vs gs) (hb : Below W.heap.size W W') : DkX W' N p s rows cv tv gv rv gvs vs gs :=
  ⟨Grd.carry h.blk hb, h.lo, h.cvs, own_next h.tabs hb, h.gone.next hb, h.gin.keep (Kept.of_below hb), own_next h.rws hb, h.rin.below hb, h.two⟩
/-- Other rows in the same block. -/
theorem DkX.rowsNew {W V : World} {N p : Nat} {s : Scr} {rows rows' : List (List C)} {cv tv gv rv rv' : Value} {gvs vs vs' : List Value} {gs gs' : List Nat} {rb : Nat} (h : DkX W N p s rows cv tv gv rv gvs vs gs) (hrb : rv.ownBlock = some rb) (hrb' : rv'.ownBlock = some rb)
    (ho : ∀ k, k < W.heap.size → k ≠ rb → V.heap[k]? = W.heap[k]?) (hw : V.ownsRow N 22 1 rv' rows'.length vs') (hr : RowsAt V N vs' gs' rows') (hgf : ∀ i, i < s.gone.length → s.gone.getD i [] ≠ [] → ∀ g, blkOf (gvs.getD i nilV) = some g → g ∉ gs') :
    DkA (V.setCell ⟨p, 22, none⟩ rv') N p s rows' cv tv gv rv' gvs vs' gs' := by
  obtain ⟨hlo, A, f, hA⟩ := owns_block h.rws rb hrb
  have hpr : p ≠ rb := by
    intro e
    rw [← e, h.blk] at hA
    injection hA with hA
    injection hA with _ hA _
    exact absurd hA (by decide)
  have hp : V.heap[p]? = some (.cells (shA s cv tv gv rv) 50 (0, 0)) := (ho p (heap_lt h.blk) hpr).trans h.blk
  have hk1 : Kept N W V := fun k hk hS => ho k hk fun e => by
    subst e
    rcases hS with hS | ⟨B, f', hS⟩
    · omega
    · rw [hA] at hS
      injection hS with hS
      injection hS with _ hS _
      exact absurd hS (by decide)
  have hoff : ∀ k, k ≠ p → (V.setCell ⟨p, 22, none⟩ rv').heap[k]? = V.heap[k]? := fun k hk => store_off hk
  have hk2 : Kept N V (V.setCell ⟨p, 22, none⟩ rv') := Kept.apart hp (by decide) h.lo hoff
  refine ⟨store_at hp rfl, h.lo, h.cvs, ?_, ?_, (h.gin.keep hk1).keep hk2, hgf, own_apart hw hp (by decide) hoff, RowsAt.apart hr hp (by decide) hoff, fun k hk e => ?_⟩
  · refine own_apart (owns_kept h.tabs fun k hk => ?_) hp (by decide) hoff
    obtain ⟨-, B, f', hB⟩ := owns_block h.tabs k hk
    refine ho k (heap_lt hB) fun e => ?_
    rw [e, hA] at hB
    injection hB with hB
    injection hB with _ hB _
    exact absurd hB (by decide)
  · refine GoneV.apart (W := V) ?_ hp (by decide) hoff
    obtain ⟨q0, q | ⟨g, o, cap, B, hv, q1, q2, q3, q4, q5⟩⟩ := h.gone
    · exact ⟨q0, .inl q⟩
    · refine ⟨q0, .inr ⟨g, o, cap, B, hv, q1, q2, q3, (ho g (heap_lt q4) fun e => ?_).trans q4, q5⟩⟩
      exact h.two rb hrb (by rw [hv, e]; rfl)
  · rw [hrb'] at hk
    exact h.two k (by rw [hrb]; exact hk) e
/-- Another list of what is gone, in a block of its own that is new. -/
theorem DkX.goneNew {W V : World} {N p : Nat} {s s' : Scr} {rows : List (List C)} {cv tv gv gv' rv : Value} {gvs gvs' vs : List Value} {gs : List Nat} (h : DkX W N p s rows cv tv gv rv gvs vs gs) (hs' : { s with gone := s'.gone } = s')
    (hb : Below W.heap.size W V) (hw : GoneV V N gv' s'.gone.length gvs') (hr : RowsIn V N gvs' s'.gone) (hat : ∀ k, gv'.ownBlock = some k → rv.ownBlock ≠ some k) :
    DkX (V.setCell ⟨p, 21, none⟩ gv') N p s' rows cv tv gv' rv gvs' vs gs := by
  have h2 := h.next hb
  have hoff : ∀ k, k ≠ p → (V.setCell ⟨p, 21, none⟩ gv').heap[k]? = V.heap[k]? := fun k hk => store_off hk
  have htb : s'.tabs = s.tabs := by rw [← hs']
  refine ⟨store_at h2.blk ?_, h.lo, h.cvs, ?_, hw.apart h2.blk (by decide) hoff, hr.keep (Kept.apart h2.blk (by decide) h.lo hoff), own_apart h2.rws h2.blk (by decide) hoff, RowsAt.apart h2.rin h2.blk (by decide) hoff, fun k hk e => hat k e hk⟩
  · rw [← hs']
    rfl
  · rw [htb]
    exact own_apart h2.tabs h2.blk (by decide) hoff
end Put
end Go.Proofs.YtnkeahfcpbepjaaGreatDoor

/- Clones of rows of values. (Cut out of RefEmpty.) -/
namespace Go.Proofs.YtnkeahfcpbepjaaGreatDoor
open Go.ChangeShapes Go.WideShapes Go.ChangeAt Go.RowKit
namespace Put
open Grd (C SliceAt CellsAt gridErr z0 nilV flat rowsL OwnG RowB RowsAt)
set_option maxHeartbeats 2000000 in
/-- A list of rows is cloned: the same values in a block of their own. -/
theorem cloneVals {N : Nat} (v : Value) (n : Nat) (vs : List Value) (w : World) (hV : GoneV w N v n vs) (hs : ∀ u, u ∈ vs → IsSl u) (hl : n ≤ 1048576) :
    Calls Tryz.prog 126 #[v] w fun e w' => ∃ a c, e = .returned (.slice a n c) ∧ w'.ownsRow w.heap.size 22 1 (.slice a n c) n vs ∧ Below w.heap.size w w' := by
  obtain ⟨i0, hi, hzz⟩ := Option.map_eq_some_iff.1 info_rows
  simp only [Prod.mk.injEq] at hzz
  obtain ⟨hz0, hz1, hz2⟩ := hzz
  have qn : ∀ (w : World) (a : Option Addr) (n c n' c' : Nat), (binOp .eql 30 (.slice a n c) (.slice none n' c')).run Tryz.prog w = .ok (.bool a.isNone) w := fun w a n c n' c' => Lib.run_eql_slice_nil w _ _ a n c n' c' und_rows
  have kb : Below w.heap.size w (w.alloc (.cells #[] 22)) := (Below.refl _ _).alloc (Nat.le_refl _) _
  obtain ⟨hvl, ⟨rfl, p, c, rfl⟩ | ⟨b, o, c, A, rfl, hN, hc, hm, hA, hC⟩⟩ := hV
  · have hnil : vs = [] := List.eq_nil_of_length_eq_zero hvl
    subst hnil
    cases p with
    | none =>
      go_enter Tryz.func126, Tryz.ntmps126
      go_wp2_with fail
      go_ret
      exact ⟨_, _, rfl, World.ownsRow_nil _ _ _ _, Below.refl _ _⟩
    | some ad =>
      go_enter Tryz.func126, Tryz.ntmps126
      go_wp2_with (at_builtin; refine wpList_append_own _ rfl _ _ 30 rfl w.heap.size 22 i0 (.slice none 0 0) 1 24 und_rows hi hz0 hz1 hz2 rfl (by decide) _ _ _ rfl (World.ownsRow_made w #[] 0 (Nat.le_refl _) (Nat.zero_le _) rfl) ad 0 c [] rfl rfl (by simp) (by simp) (by unfold maxLen; omega) (by omega) (by simp) ?_)
      intro v' w1 hown hgrow hnil
      obtain ⟨va, vc, rfl⟩ := own_slice hown
      go_wp2_with fail
      go_ret
      exact ⟨va, vc, rfl, hown, ((Below.refl _ w).alloc (Nat.le_refl _) _).grown hgrow (by simp) (by intro k hk; simp [Value.ownBlock] at hk; omega)⟩
  · have HF : Hid (vs.length = n * 1) := by rw [Nat.mul_one]; exact hvl
    have HO : Hid (∀ u ∈ vs, u.oneCell' = true) := fun u hu => by obtain ⟨x, rfl⟩ := hs u hu; rfl
    have HS : Hid (∀ j u, vs[j]? = some u → (w.alloc (.cells #[] 22)).cell? ((⟨b, o, none⟩ : Addr).add j) = some u) := fun j u hj => by
      rw [Addr.add_lit]
      refine cell_stay kb ?_
      have hlt := (List.getElem?_eq_some_iff.1 hj).1
      have e := hC j (by omega)
      have e2 : vs.getD j nilV = u := by simp [List.getD, hj]
      simp only [World.cell?, hA]
      rw [e2] at e
      simp only [Option.isSome_none, Bool.false_eq_true, if_false]
      exact e
    clear hC hA hs
    go_enter Tryz.func126, Tryz.ntmps126
    go_wp2_with (at_builtin; refine wpList_append_own _ rfl _ _ 30 rfl w.heap.size 22 i0 (.slice none 0 0) 1 24 und_rows hi hz0 hz1 hz2 rfl (by decide) _ _ _ rfl (World.ownsRow_made w #[] 0 (Nat.le_refl _) (Nat.zero_le _) rfl) ⟨b, o, none⟩ n c vs rfl HF.out HS.out HO.out (by unfold maxLen; omega) (by omega) (by simp) ?_)
    intro v' w1 hown hgrow hnil
    obtain ⟨va, vc, rfl⟩ := own_slice hown
    go_wp2_with fail
    go_ret
    exact ⟨va, vc, rfl, hown, ((Below.refl _ w).alloc (Nat.le_refl _) _).grown hgrow (by simp) (by intro k hk; simp [Value.ownBlock] at hk; omega)⟩
end Put
end Go.Proofs.YtnkeahfcpbepjaaGreatDoor

/- The reference's desk: blank, empty; rows that are cloned, value by value. -/
namespace Go.Proofs.YtnkeahfcpbepjaaGreatDoor
open Go.ChangeShapes Go.WideShapes Go.ChangeAt Go.RowKit
namespace Put
open Grd (C SliceAt CellsAt gridErr z0 nilV flat rowsL OwnG RowB RowsAt)
theorem rowB_shapeS {W : World} {g : Nat} {v : Value} {row : List C} (h : RowB W g v row) : ∃ a c, v = .slice a row.length c := by
  obtain ⟨cap, rest, hv, -⟩ := h
  exact ⟨_, cap, hv⟩
set_option maxHeartbeats 2000000 in
theorem dblankS_any (p : Nat) (bk : Int) (V : World) (h : V.cell? ⟨p, 7, none⟩ = some (.int .i64 bk)) : Calls Tryz.prog 99 #[.pointer (some ⟨p, 0, none⟩)] V fun e V' => e = .returned (.agg #[.int .i32 32, .int .i64 0, .int .i64 bk, .int .i64 0]) ∧ Below V.heap.size V V' := by
  have x0 := heap_alloc_new V (.cells #[.int .i32 0, .int .i64 0, .int .i64 0, .int .i64 0] 91)
  have kb : Below V.heap.size V (V.alloc (.cells #[.int .i32 0, .int .i64 0, .int .i64 0, .int .i64 0] 91)) := (Below.refl _ _).alloc (Nat.le_refl _) _
  have h1 := cell_stay kb h
  have HX0 : Hid _ := x0
  have HKB : Hid _ := kb
  clear x0 kb h
  go_enter Tryz.func99, Tryz.ntmps99
  go_upto_region 1 with fail
  generalize V.alloc (.cells #[.int .i32 0, .int .i64 0, .int .i64 0, .int .i64 0] 91) = Y at *
  go_wp2_with (refine wpList_store_row rfl 91 (.tmp 2) _ rfl V.heap.size #[.int .i32 32, .int .i64 0, .int .i64 bk, .int .i64 0] rfl rfl _ _ HX0.out (by kernel_rfl) rfl (one4w _ _ _ _) ?_)
  (try simp only [Exit.inBlock, Exit.then])
  refine bodyPost_ret (v := .agg #[.int .i32 32, .int .i64 0, .int .i64 bk, .int .i64 0]) ?_ rfl ⟨rfl, below_setRow HKB.out (Nat.le_refl _) _⟩
  exact results_cell_row rfl _ _ V.heap.size _ _ _ _ rfl (setRow_heap _ _ _ _ _ _ HX0.out) Tryz.underlying91 rfl (by kernel_rfl)
set_option maxHeartbeats 4000000 in
theorem emptyS_any (p n : Nat) (bk : Int) (W : World) (h0 : W.cell? ⟨p, 0, none⟩ = some (.int .i64 (n : Int))) (h7 : W.cell? ⟨p, 7, none⟩ = some (.int .i64 bk)) (hn1 : 1 ≤ n) (hn2 : n ≤ 120) :
    Calls Tryz.prog 95 #[.pointer (some ⟨p, 0, none⟩)] W fun e W' => ∃ v g, e = .returned v ∧ W.heap.size ≤ g ∧ RowB W' g v (List.replicate n (32, 0, bk, 0)) ∧ Below W.heap.size W W' := by
  have b0 : Below W.heap.size W W.drew := (Below.refl _ _).drew
  have s0 := cell_stay b0 h0
  have HB : Hid (∀ V, Below W.heap.size W V → Calls Tryz.prog 99 #[.pointer (some ⟨p, 0, none⟩)] V fun e V' => e = .returned (.agg #[.int .i32 32, .int .i64 0, .int .i64 bk, .int .i64 0]) ∧ Below V.heap.size V V') := fun V hV => dblankS_any p bk V (cell_stay hV h7)
  have H0 : Hid (W.cell? ⟨p, 0, none⟩ = some (.int .i64 (n : Int))) := h0
  have HRP : Hid (∀ V : World, Calls Tryz.prog 98 #[.slice (some ⟨V.heap.size, 0, none⟩) 1 1, .int .i64 (n : Int)] (V.alloc (.cells #[.int .i32 32, .int .i64 0, .int .i64 bk, .int .i64 0] 91)) fun e w' => ∃ v', e = .returned v' ∧ OwnG w' (V.alloc (.cells #[.int .i32 32, .int .i64 0, .int .i64 bk, .int .i64 0] 91)).heap.size v' (List.replicate n (32, 0, bk, 0)) ∧ Below (V.alloc (.cells #[.int .i32 32, .int .i64 0, .int .i64 bk, .int .i64 0] 91)).heap.size (V.alloc (.cells #[.int .i32 32, .int .i64 0, .int .i64 bk, .int .i64 0] 91)) w') := fun V => Grd.repeat_one V.heap.size 0 1 n (32, 0, bk, 0) _ (Grd.cellsAt_flat (rest := []) (t := 91) (heap_alloc_new V _)) hn1 (by omega)
  clear h0 h7
  go_enter Tryz.func95, Tryz.ntmps95
  go_upto_region 1 with fail
  go_region_held3 (fun w' => w'.cell? ⟨p, 0, none⟩ = some (.int .i64 (n : Int)))
    (first | exact s3 | exact s2 | exact s1 | exact s0)
    (first
      | (go_at_call 98; refine (HRP.out V1).mono ?_; rintro e V2 ⟨v2, rfl, ho, b2⟩; have q3 := q2.trans (b2.mono q2.size); have s3 := cell_stay q3 H0.out; obtain ⟨g, hg1, hr⟩ := own_rowB ho; obtain ⟨na, nc, rfl⟩ := rowB_shapeS hr; have HR : Hid _ := hr; have hg2 : W.heap.size ≤ g := (by have := q2.size; omega); clear b2 ho hr hg1)
      | (go_at_call 99; refine (HB.out _ b0).mono ?_; rintro e V1 ⟨rfl, b1⟩; have q1 := b0.trans (b1.mono b0.size); have s1 := cell_stay q1 H0.out; have q2 := q1.alloc q1.size (.cells #[.int .i32 32, .int .i64 0, .int .i64 bk, .int .i64 0] 91); have s2 := cell_stay q2 H0.out; clear b1))
  go_wp2_with fail
  go_ret
  have h : RowB V2 g (.slice na (List.replicate n ((32, 0, bk, 0) : C)).length nc) (List.replicate n (32, 0, bk, 0)) := HR.out
  rw [List.length_replicate] at h
  exact ⟨.slice na n nc, g, rfl, hg2, h, q3⟩
end Put
end Go.Proofs.YtnkeahfcpbepjaaGreatDoor

/- What a call on a desk leaves as it was: all below it, and where iterators stand. -/
namespace Go.Proofs.YtnkeahfcpbepjaaGreatDoor
open Go.ChangeShapes Go.WideShapes Go.ChangeAt Go.RowKit
namespace Put
/-- Iterators stand where they stood. -/
def ItK (W W' : World) : Prop := ∀ (k : Nat) (t : ByteArray) (pos : Nat), W.heap[k]? = some (Obj.stringIter t pos) → W'.heap[k]? = some (Obj.stringIter t pos)
theorem ItK.refl (W : World) : ItK W W := fun _ _ _ h => h
theorem ItK.trans {W X Y : World} (h : ItK W X) (k : ItK X Y) : ItK W Y := fun a t pos e => k a t pos (h a t pos e)
theorem ItK.below {W W' : World} (h : Below W.heap.size W W') : ItK W W' := fun a t pos e => (h.block a (by
  by_cases hq : a < W.heap.size
  · exact hq
  · rw [Array.getElem?_eq_none (by omega)] at e
    cases e)).trans e
theorem ItK.one {W W' : World} {rb : Nat} {A : Array Value} {t : TypeId} {f : Nat × Nat} (hA : W.heap[rb]? = some (.cells A t f)) (ho : ∀ k, k < W.heap.size → k ≠ rb → W'.heap[k]? = W.heap[k]?) : ItK W W' := fun a u pos e => by
  have hlt : a < W.heap.size := by
    by_cases hq : a < W.heap.size
    · exact hq
    · rw [Array.getElem?_eq_none (by omega)] at e
      cases e
  have hne : a ≠ rb := fun eq => by
    rw [eq, hA] at e
    cases e
  exact (ho a hlt hne).trans e
theorem ItK.set (W : World) (a : Addr) (v : Value) : ItK W (W.setCell a v) := fun k t pos e => by
  unfold World.setCell
  dsimp only
  rw [Array.getElem?_modify]
  split
  · rw [e]
    rfl
  · exact e
/-- All below N as it was, and iterators. -/
structure Bel (N : Nat) (W W' : World) : Prop where
  b : Below N W W'
  i : ItK W W'
theorem Bel.refl (N : Nat) (W : World) : Bel N W W := ⟨Below.refl _ _, ItK.refl _⟩
theorem Bel.trans {N : Nat} {W X Y : World} (h : Bel N W X) (k : Bel N X Y) : Bel N W Y := ⟨h.b.trans k.b, h.i.trans k.i⟩
theorem Bel.next {N : Nat} {W X Y : World} (h : Bel N W X) (hN : N ≤ X.heap.size) (hb : Below X.heap.size X Y) : Bel N W Y := ⟨h.b.trans (hb.mono hN), h.i.trans (ItK.below hb)⟩
theorem Bel.setCell {N : Nat} {W X : World} (h : Bel N W X) {p i : Nat} (hp : N ≤ p) (v : Value) : Bel N W (X.setCell ⟨p, i, none⟩ v) := ⟨h.b.setCell hp v, h.i.trans (ItK.set _ _ _)⟩
theorem Bel.drew {N : Nat} {W X : World} (h : Bel N W X) : Bel N W X.drew := ⟨h.b.drew, h.i.trans (ItK.below ((Below.refl _ _).drew))⟩
end Put
end Go.Proofs.YtnkeahfcpbepjaaGreatDoor

/- The reference's desk: Roll, up. -/
namespace Go.Proofs.YtnkeahfcpbepjaaGreatDoor
open Go.ChangeShapes Go.WideShapes Go.ChangeAt Go.RowKit
namespace Put
open Grd (C SliceAt CellsAt gridErr z0 nilV flat rowsL OwnG RowB RowsAt)
theorem blk_sl {W : World} {g : Nat} {v : Value} {row : List C} (h : RowB W g v row) : blkOf v = some g := by
  obtain ⟨cap, rest, rfl, -⟩ := h
  rfl
/-- What Insert leaves, of rows of which one went. -/
theorem roll_insI {X : World} {N p n rb rc gone fresh bot : Nat} {s : Scr} {rows : List (List C)} {cv tv gv : Value} {gvs vs : List Value} {gs : List Nat} (hD : DkX X N p s rows cv tv gv (.slice (some ⟨rb, 0, none⟩) rows.length rc) gvs vs gs) (hgof : ∀ i, i < s.gone.length → s.gone.getD i [] ≠ [] → ∀ g, blkOf (gvs.getD i nilV) = some g → g ∉ gs.eraseIdx gone) (hbot : s.bot = bot) (hrc : rows.length ≤ rc) (hg : gone < rows.length) (hf : fresh < rows.length)
    (V1 V2 : World) (a : Option Addr) (c g : Nat) (hO1 : V1.ownsRow N 22 1 (.slice (some ⟨rb, 0, none⟩) (rows.length - 1) rc) (rows.length - 1) (vs.eraseIdx gone)) (hk1 : ∀ k, k ≠ rb → V1.heap[k]? = X.heap[k]?) (hb1 : Below rb X V1) (b2 : Below V1.heap.size V1 V2) (hg1 : V1.heap.size ≤ g) (hR : RowB V2 g (.slice a n c) (List.replicate n (32, 0, s.sb, 0))) :
    Calls Tryz.prog 144 #[.slice (some ⟨rb, 0, none⟩) (rows.length - 1) rc, .int .i64 (fresh : Int), .slice (some ⟨V2.heap.size, 0, none⟩) 1 1] (V2.alloc (.cells #[.slice a n c] 22)) fun e V3 => e = .returned (.slice (some ⟨rb, 0, none⟩) rows.length rc) ∧ V3.cell? ⟨p, 10, none⟩ = some (.int .i64 (bot : Int)) ∧ V3.cell? ⟨p, 22, none⟩ = some (.slice (some ⟨rb, 0, none⟩) rows.length rc) ∧ V3.frozen? ⟨p, 22, none⟩ = false ∧ Hid (((V3.setCell ⟨p, 22, none⟩ (.slice (some ⟨rb, 0, none⟩) rows.length rc)).cell? ⟨p, 10, none⟩ = some (.int .i64 (bot : Int)) ∧ (V3.setCell ⟨p, 22, none⟩ (.slice (some ⟨rb, 0, none⟩) rows.length rc)).cell? ⟨p, 22, none⟩ = some (.slice (some ⟨rb, 0, none⟩) rows.length rc)) ∧ DkAt (V3.setCell ⟨p, 22, none⟩ (.slice (some ⟨rb, 0, none⟩) rows.length rc)) N p s (replR rows n s.sb gone fresh) ∧ Bel N X (V3.setCell ⟨p, 22, none⟩ (.slice (some ⟨rb, 0, none⟩) rows.length rc))) := by
  obtain ⟨hNr, B, f', hB⟩ := owns_block hD.rws rb rfl
  have hs1 : X.heap.size ≤ V1.heap.size := hb1.size
  have q2 : Below V1.heap.size V1 (V2.alloc (.cells #[.slice a n c] 22)) := b2.alloc b2.size _
  have hrb := heap_lt hB
  have hne : V2.heap.size ≠ rb := by have h2 := b2.size; omega
  have hal := heap_alloc_new V2 (.cells #[.slice a n c] 22)
  have hle : (rows.eraseIdx gone).length = rows.length - 1 := List.length_eraseIdx_of_lt hg
  have hsl : IsSl (.slice a n c) := ⟨(a, n, c), rfl⟩
  have hgr : g ≠ rb := by omega
  have hgs : ∀ q, q ∈ gs → q < X.heap.size := fun q hq => (rowsAt_ne hD.rin q hq).2
  have key := insert_own N rb (rows.length - 1) rc fresh V2.heap.size 1 (vs.eraseIdx gone) (.slice a n c) _ (own_next hO1 q2) (fun u hu => RowsAt.sls hD.rin u (List.mem_of_mem_eraseIdx hu)) hsl (by omega) (by omega) hal hne
  rw [show rows.length - 1 + 1 = rows.length by omega] at key
  refine Calls.mono key ?_
  rintro e V3 ⟨rfl, hO3, hk3, hb3⟩
  have hpr : p ≠ rb := by
    intro e
    rw [← e, hD.blk] at hB
    injection hB with hB
    injection hB with _ hB _
    exact absurd hB (by decide)
  have hall : ∀ k, k < X.heap.size → k ≠ rb → V3.heap[k]? = X.heap[k]? := fun k hk hn => (hk3 k hn).trans ((q2.block k (by omega)).trans (hk1 k hn))
  have hp3 : V3.heap[p]? = _ := (hall p (heap_lt hD.blk) hpr).trans hD.blk
  have hR3 : RowB V3 g (.slice a n c) (List.replicate n (32, 0, s.sb, 0)) := by
    obtain ⟨cap, rest, q0, q1, q3, q4⟩ := hR
    exact ⟨cap, rest, q0, q1, q3, (hk3 g hgr).trans ((Below.heap_alloc _ _ _ (heap_lt q4)).trans q4)⟩
  have hrows := RowsAt.insert (RowsAt.erase (RowsAt.off hD.rin hB (by decide) hall) gone hg) fresh (by omega) (.slice a n c) g (List.replicate n (32, 0, s.sb, 0)) (by have := hD.lo; have := heap_lt hD.blk; omega) (fun hm => by have := hgs g (List.mem_of_mem_eraseIdx hm); omega) hR3
  have hgl : gs.length = rows.length := hD.rin.2.1
  have hfin := hD.rowsNew (V := V3) (rb := rb) (rv' := .slice (some ⟨rb, 0, none⟩) rows.length rc) (rows' := replR rows n s.sb gone fresh) (vs' := (vs.eraseIdx gone).insertIdx fresh (.slice a n c)) (gs' := (gs.eraseIdx gone).insertIdx fresh g) rfl rfl hall (by rw [replR_len rows n s.sb gone fresh hg hf]; exact hO3) hrows (fun i hi hn q hq hm => by
    rcases mem_insert (by rw [List.length_eraseIdx_of_lt (by omega)]; omega) hm with e | hm
    · subst e
      rcases hD.gin.2 i hi with ⟨he, -⟩ | ⟨-, b', o', c', hv, -, -, hC', -⟩
      · exact hn he
      · rw [hv] at hq
        have e : b' = q := by simpa [blkOf] using hq
        have := lt_of_cells hC' hn
        omega
    · exact hgof i hi hn q hq hm)
  have q10 := (sh_cells hp3).1.2.2.2.2.2.2.2.2.2.2
  have r10 := (sh_cells hfin.blk).1.2.2.2.2.2.2.2.2.2.2
  rw [hbot] at q10 r10
  refine ⟨rfl, q10, (sh_cells hp3).2.1.2.2.2.2.2.2.2.2.2.2.2, (sh_cells hp3).2.2 22, ⟨r10, (sh_cells hfin.blk).2.1.2.2.2.2.2.2.2.2.2.2.2⟩, ⟨_, _, _, _, _, _, _, hfin⟩, ?_⟩
  have hNV : N ≤ V1.heap.size := by omega
  exact ⟨(((hb1.mono hNr).trans (q2.mono hNV)).trans (hb3.mono hNr)).setCell hD.lo _, (ItK.one hB hall).trans (ItK.set _ _ _)⟩
theorem roll_ins {X : World} {N p n rb rc gone fresh bot : Nat} {s : Scr} {rows : List (List C)} {cv tv gv : Value} {gvs vs : List Value} {gs : List Nat} (hD : DkX X N p s rows cv tv gv (.slice (some ⟨rb, 0, none⟩) rows.length rc) gvs vs gs) (hgof : ∀ i, i < s.gone.length → s.gone.getD i [] ≠ [] → ∀ g, blkOf (gvs.getD i nilV) = some g → g ∉ gs.eraseIdx gone) (hbot : s.bot = bot) (hrc : rows.length ≤ rc) (hg : gone < rows.length) (hf : fresh < rows.length)
    (V1 V2 : World) (a : Option Addr) (c g : Nat) (hO1 : V1.ownsRow N 22 1 (.slice (some ⟨rb, 0, none⟩) (rows.length - 1) rc) (rows.length - 1) (vs.eraseIdx gone)) (hk1 : ∀ k, k ≠ rb → V1.heap[k]? = X.heap[k]?) (hb1 : Below rb X V1) (b2 : Below V1.heap.size V1 V2) (hg1 : V1.heap.size ≤ g) (hR : RowB V2 g (.slice a n c) (List.replicate n (32, 0, s.sb, 0))) :
    Calls Tryz.prog 144 #[.slice (some ⟨rb, 0, none⟩) (rows.length - 1) rc, .int .i64 (fresh : Int), .slice (some ⟨V2.heap.size, 0, none⟩) 1 1] (V2.alloc (.cells #[.slice a n c] 22)) fun e V3 => e = .returned (.slice (some ⟨rb, 0, none⟩) rows.length rc) ∧ V3.cell? ⟨p, 10, none⟩ = some (.int .i64 (bot : Int)) ∧ V3.cell? ⟨p, 22, none⟩ = some (.slice (some ⟨rb, 0, none⟩) rows.length rc) ∧ V3.frozen? ⟨p, 22, none⟩ = false ∧ Hid (((V3.setCell ⟨p, 22, none⟩ (.slice (some ⟨rb, 0, none⟩) rows.length rc)).cell? ⟨p, 10, none⟩ = some (.int .i64 (bot : Int)) ∧ (V3.setCell ⟨p, 22, none⟩ (.slice (some ⟨rb, 0, none⟩) rows.length rc)).cell? ⟨p, 22, none⟩ = some (.slice (some ⟨rb, 0, none⟩) rows.length rc)) ∧ DkAt (V3.setCell ⟨p, 22, none⟩ (.slice (some ⟨rb, 0, none⟩) rows.length rc)) N p s (replR rows n s.sb gone fresh) ∧ Below N X (V3.setCell ⟨p, 22, none⟩ (.slice (some ⟨rb, 0, none⟩) rows.length rc))) :=
  (roll_insI hD hgof hbot hrc hg hf V1 V2 a c g hO1 hk1 hb1 b2 hg1 hR).mono fun _ _ h => ⟨h.1, h.2.1, h.2.2.1, h.2.2.2.1, h.2.2.2.2.out.1, h.2.2.2.2.out.2.1, h.2.2.2.2.out.2.2.b⟩
end Put
end Go.Proofs.YtnkeahfcpbepjaaGreatDoor
