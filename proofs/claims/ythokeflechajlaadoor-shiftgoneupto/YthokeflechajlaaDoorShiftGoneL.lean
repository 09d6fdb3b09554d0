/- The law ShiftGone. (Written by gen_shiftgone.py.) -/
import Derived.Test.YthokeflechajlaaDoorPartJ
import Derived.Test.YthokeflechajlaaDoorPartK
import Derived.Test.YthokeflechajlaaDoorPartL
import Derived.Deep.RegionHeld3
import Derived.BigRegion
import Derived.BigQuiet
namespace Go.Proofs.YthokeflechajlaaDoor
open Go.ChangeShapes Go.WideShapes Go.ChangeAt Go.RowKit
namespace Put
open Grd (C SliceAt CellsAt gridErr z0 nilV rowsL RowsAt RowB flat)
set_option maxHeartbeats 8000000 in
set_option maxRecDepth 100000 in
theorem gone_bad (s : Scr) (cv tv gv : Value) (k : Int) (w : World) (hT : Txt.Tab w) (hV : ScrV w s cv tv gv) (hF : Fits s) (hz : scrErr s ≠ 0) :
    Calls Tryd.prog 4 #[.agg (scrA s cv tv gv), .int .i64 k] w fun e w' => e = .returned (.bool true) ∧ Below w.heap.size w w' := by
  have x0 := heap_alloc_new w (.cells (scrA s cv tv gv) 32)
  have kb : Below w.heap.size w (w.alloc (.cells (scrA s cv tv gv) 32)) := (Below.refl _ _).alloc (Nat.le_refl _) _
  have HP : Hid (∀ W, Below w.heap.size w W → Calls Tryd.prog 6 #[] W fun e w' => e = .returned (.bool true) ∧ Below W.heap.size W w') := fun W h => printed_any W (Grd.Tab.next hT h)
  have HCK : Hid (∀ W, Below w.heap.size w W → Calls Tryd.prog 7 #[.agg (scrA s cv tv gv)] W fun e w' => e = .returned (.int .i64 (scrErr s)) ∧ Below W.heap.size W w') := fun W h => putCheck_any s _ _ _ W (Grd.Tab.next hT h) (hV.next h) hF
  have HX0 : Hid _ := x0
  have HKB : Hid _ := kb
  have hzb : (scrErr s != 0) = true := by simp [bne, hz]
  clear hz
  clear x0 kb hT hV hF
  generalize scrErr s = er at *
  go_enter Tryd.func4, Tryd.ntmps4
  go_wp2_with fail
  refine (HP.out _ HKB.out).mono ?_
  rintro e V1 ⟨rfl, b1⟩
  have HB1 : Hid (Below w.heap.size w V1) := HKB.out.trans (b1.mono HKB.out.size)
  have HX1 : Hid (V1.heap[w.heap.size]? = _) := Grd.carry HX0.out b1
  clear b1 HX0 HKB
  go_wp2_with (refine BigFrame.wpList_want rfl fun K hK => wp_load_row 32 (.tmp 2) rfl w.heap.size rfl _ _ _ _ HX1.out Tryd.underlying32 rfl (by kernel_rfl) (hK _ _ ?_))
  refine (HCK.out _ HB1.out).mono ?_
  rintro e V2 ⟨rfl, b2⟩
  have HB2 : Hid (Below w.heap.size w V2) := HB1.out.trans (b2.mono HB1.out.size)
  have HX2 : Hid (V2.heap[w.heap.size]? = _) := Grd.carry HX1.out b2
  obtain ⟨⟨-, -, -, -, -, -, -, -, -, c9, c10⟩, -, -⟩ := scr_cells HX2.out
  clear b2 HX1 HB1 HCK
  go_wp2_with fail
  refine (HP.out _ HB2.out).mono ?_
  rintro e V3 ⟨rfl, b3⟩
  have HB3 : Hid (Below w.heap.size w V3) := HB2.out.trans (b3.mono HB2.out.size)
  clear b3
  go_wp2_with fail
  go_ret
  exact ⟨rfl, HB3.out⟩
set_option maxHeartbeats 8000000 in
set_option maxRecDepth 100000 in
theorem gone_top (s : Scr) (cv tv gv : Value) (k : Int) (w : World) (hT : Txt.Tab w) (hV : ScrV w s cv tv gv) (hF : Fits s) (hz : scrErr s = 0) (ht : s.top ≠ 0) :
    Calls Tryd.prog 4 #[.agg (scrA s cv tv gv), .int .i64 k] w fun e w' => e = .returned (.bool true) ∧ Below w.heap.size w w' := by
  have x0 := heap_alloc_new w (.cells (scrA s cv tv gv) 32)
  have kb : Below w.heap.size w (w.alloc (.cells (scrA s cv tv gv) 32)) := (Below.refl _ _).alloc (Nat.le_refl _) _
  have HP : Hid (∀ W, Below w.heap.size w W → Calls Tryd.prog 6 #[] W fun e w' => e = .returned (.bool true) ∧ Below W.heap.size W w') := fun W h => printed_any W (Grd.Tab.next hT h)
  have HCK : Hid (∀ W, Below w.heap.size w W → Calls Tryd.prog 7 #[.agg (scrA s cv tv gv)] W fun e w' => e = .returned (.int .i64 (scrErr s)) ∧ Below W.heap.size W w') := fun W h => putCheck_any s _ _ _ W (Grd.Tab.next hT h) (hV.next h) hF
  have HX0 : Hid _ := x0
  have HKB : Hid _ := kb
  rw [hz] at HCK
  clear hz
  have htb : (s.top != 0) = true := by simp [bne, ht]
  clear ht
  clear x0 kb hT hV hF
  go_enter Tryd.func4, Tryd.ntmps4
  go_wp2_with fail
  refine (HP.out _ HKB.out).mono ?_
  rintro e V1 ⟨rfl, b1⟩
  have HB1 : Hid (Below w.heap.size w V1) := HKB.out.trans (b1.mono HKB.out.size)
  have HX1 : Hid (V1.heap[w.heap.size]? = _) := Grd.carry HX0.out b1
  clear b1 HX0 HKB
  go_wp2_with (refine BigFrame.wpList_want rfl fun K hK => wp_load_row 32 (.tmp 2) rfl w.heap.size rfl _ _ _ _ HX1.out Tryd.underlying32 rfl (by kernel_rfl) (hK _ _ ?_))
  refine (HCK.out _ HB1.out).mono ?_
  rintro e V2 ⟨rfl, b2⟩
  have HB2 : Hid (Below w.heap.size w V2) := HB1.out.trans (b2.mono HB1.out.size)
  have HX2 : Hid (V2.heap[w.heap.size]? = _) := Grd.carry HX1.out b2
  obtain ⟨⟨-, -, -, -, -, -, -, -, -, c9, c10⟩, -, -⟩ := scr_cells HX2.out
  clear b2 HX1 HB1 HCK
  go_wp2_with fail
  refine (HP.out _ HB2.out).mono ?_
  rintro e V3 ⟨rfl, b3⟩
  have HB3 : Hid (Below w.heap.size w V3) := HB2.out.trans (b3.mono HB2.out.size)
  clear b3
  go_wp2_with fail
  go_ret
  exact ⟨rfl, HB3.out⟩
set_option maxHeartbeats 8000000 in
set_option maxRecDepth 100000 in
theorem gone_low (s : Scr) (cv tv gv : Value) (k : Int) (w : World) (hT : Txt.Tab w) (hV : ScrV w s cv tv gv) (hF : Fits s) (hz : scrErr s = 0) (ht : s.top = 0) (hk : k < 1) :
    Calls Tryd.prog 4 #[.agg (scrA s cv tv gv), .int .i64 k] w fun e w' => e = .returned (.bool true) ∧ Below w.heap.size w w' := by
  have x0 := heap_alloc_new w (.cells (scrA s cv tv gv) 32)
  have kb : Below w.heap.size w (w.alloc (.cells (scrA s cv tv gv) 32)) := (Below.refl _ _).alloc (Nat.le_refl _) _
  have HP : Hid (∀ W, Below w.heap.size w W → Calls Tryd.prog 6 #[] W fun e w' => e = .returned (.bool true) ∧ Below W.heap.size W w') := fun W h => printed_any W (Grd.Tab.next hT h)
  have HCK : Hid (∀ W, Below w.heap.size w W → Calls Tryd.prog 7 #[.agg (scrA s cv tv gv)] W fun e w' => e = .returned (.int .i64 (scrErr s)) ∧ Below W.heap.size W w') := fun W h => putCheck_any s _ _ _ W (Grd.Tab.next hT h) (hV.next h) hF
  have HX0 : Hid _ := x0
  have HKB : Hid _ := kb
  rw [hz] at HCK
  clear hz
  have htb : (s.top != 0) = false := by simp [ht]
  clear ht
  clear x0 kb hT hV hF
  generalize scrErr s = er at *
  go_enter Tryd.func4, Tryd.ntmps4
  go_wp2_with fail
  refine (HP.out _ HKB.out).mono ?_
  rintro e V1 ⟨rfl, b1⟩
  have HB1 : Hid (Below w.heap.size w V1) := HKB.out.trans (b1.mono HKB.out.size)
  have HX1 : Hid (V1.heap[w.heap.size]? = _) := Grd.carry HX0.out b1
  clear b1 HX0 HKB
  go_wp2_with (refine BigFrame.wpList_want rfl fun K hK => wp_load_row 32 (.tmp 2) rfl w.heap.size rfl _ _ _ _ HX1.out Tryd.underlying32 rfl (by kernel_rfl) (hK _ _ ?_))
  refine (HCK.out _ HB1.out).mono ?_
  rintro e V2 ⟨rfl, b2⟩
  have HB2 : Hid (Below w.heap.size w V2) := HB1.out.trans (b2.mono HB1.out.size)
  have HX2 : Hid (V2.heap[w.heap.size]? = _) := Grd.carry HX1.out b2
  obtain ⟨⟨-, -, -, -, -, -, -, -, -, c9, c10⟩, -, -⟩ := scr_cells HX2.out
  clear b2 HX1 HB1 HCK
  go_wp2_with fail
  refine (HP.out _ HB2.out).mono ?_
  rintro e V3 ⟨rfl, b3⟩
  have HB3 : Hid (Below w.heap.size w V3) := HB2.out.trans (b3.mono HB2.out.size)
  clear b3
  go_wp2_with fail
  go_ret
  exact ⟨rfl, HB3.out⟩
set_option maxHeartbeats 8000000 in
set_option maxRecDepth 100000 in
theorem gone_high (s : Scr) (cv tv gv : Value) (k : Int) (w : World) (hT : Txt.Tab w) (hV : ScrV w s cv tv gv) (hF : Fits s) (hz : scrErr s = 0) (ht : s.top = 0) (hk : ¬ k < 1) (hb0 : 0 ≤ s.bot) (hb1 : s.bot ≤ 59) (hk2 : s.bot + 1 < k) :
    Calls Tryd.prog 4 #[.agg (scrA s cv tv gv), .int .i64 k] w fun e w' => e = .returned (.bool true) ∧ Below w.heap.size w w' := by
  have x0 := heap_alloc_new w (.cells (scrA s cv tv gv) 32)
  have kb : Below w.heap.size w (w.alloc (.cells (scrA s cv tv gv) 32)) := (Below.refl _ _).alloc (Nat.le_refl _) _
  have HP : Hid (∀ W, Below w.heap.size w W → Calls Tryd.prog 6 #[] W fun e w' => e = .returned (.bool true) ∧ Below W.heap.size W w') := fun W h => printed_any W (Grd.Tab.next hT h)
  have HCK : Hid (∀ W, Below w.heap.size w W → Calls Tryd.prog 7 #[.agg (scrA s cv tv gv)] W fun e w' => e = .returned (.int .i64 (scrErr s)) ∧ Below W.heap.size W w') := fun W h => putCheck_any s _ _ _ W (Grd.Tab.next hT h) (hV.next h) hF
  have HX0 : Hid _ := x0
  have HKB : Hid _ := kb
  rw [hz] at HCK
  clear hz
  have htb : (s.top != 0) = false := by simp [ht]
  have hwb : IntKind.i64.wrap (s.bot + 1) = s.bot + 1 := wrap_id _ (by omega) (by omega)
  clear ht
  clear x0 kb hT hV hF
  generalize scrErr s = er at *
  go_enter Tryd.func4, Tryd.ntmps4
  go_wp2_with fail
  refine (HP.out _ HKB.out).mono ?_
  rintro e V1 ⟨rfl, b1⟩
  have HB1 : Hid (Below w.heap.size w V1) := HKB.out.trans (b1.mono HKB.out.size)
  have HX1 : Hid (V1.heap[w.heap.size]? = _) := Grd.carry HX0.out b1
  clear b1 HX0 HKB
  go_wp2_with (refine BigFrame.wpList_want rfl fun K hK => wp_load_row 32 (.tmp 2) rfl w.heap.size rfl _ _ _ _ HX1.out Tryd.underlying32 rfl (by kernel_rfl) (hK _ _ ?_))
  refine (HCK.out _ HB1.out).mono ?_
  rintro e V2 ⟨rfl, b2⟩
  have HB2 : Hid (Below w.heap.size w V2) := HB1.out.trans (b2.mono HB1.out.size)
  have HX2 : Hid (V2.heap[w.heap.size]? = _) := Grd.carry HX1.out b2
  obtain ⟨⟨-, -, -, -, -, -, -, -, -, c9, c10⟩, -, -⟩ := scr_cells HX2.out
  clear b2 HX1 HB1 HCK
  go_wp2_with fail
  refine (HP.out _ HB2.out).mono ?_
  rintro e V3 ⟨rfl, b3⟩
  have HB3 : Hid (Below w.heap.size w V3) := HB2.out.trans (b3.mono HB2.out.size)
  clear b3
  go_wp2_with fail
  go_ret
  exact ⟨rfl, HB3.out⟩
theorem grown_belowG {W V : World} {N : Nat} {row : Option Nat} (h : W.grownBy V row) (hr : ∀ k, row = some k → N ≤ k) (hN : N ≤ W.heap.size) : Below N W V := ⟨h.os, h.tape, h.output, h.size, fun k hk => h.block k (by omega) fun e => by have := hr k e.symm; omega⟩
section
attribute [local go_sem ↓] load_grd
set_option maxHeartbeats 8000000 in
set_option maxRecDepth 100000 in
theorem gone_good (s : Scr) (cv tv gv : Value) (k : Nat) (w : World) (hT : Txt.Tab w) (hV : ScrV w s cv tv gv) (hF : Fits s) (n hh bot : Nat) (hR : RightS s n hh) (ht : s.top = 0) (hbt : s.bot = bot) (hk1 : 1 ≤ k) (hk2 : k ≤ bot + 1) :
    Calls Tryd.prog 4 #[.agg (scrA s cv tv gv), .int .i64 (k : Int)] w fun e w' => e = .returned (.bool true) ∧ Below w.heap.size w w' := by
  have hz := rightErr hR
  have hb59 : bot < hh := by have := hR.t2; have := hR.h; omega
  have hh60 := hR.h2
  have hKK : oftK (k : Int) 0 bot = k := by unfold oftK cnt withinI; omega
  have x0 := heap_alloc_new w (.cells (scrA s cv tv gv) 32)
  have kb : Below w.heap.size w (w.alloc (.cells (scrA s cv tv gv) 32)) := (Below.refl _ _).alloc (Nat.le_refl _) _
  have HP : Hid (∀ W, Below w.heap.size w W → Calls Tryd.prog 6 #[] W fun e w' => e = .returned (.bool true) ∧ Below W.heap.size W w') := fun W h => printed_any W (Grd.Tab.next hT h)
  have HCK : Hid (∀ W, Below w.heap.size w W → Calls Tryd.prog 7 #[.agg (scrA s cv tv gv)] W fun e w' => e = .returned (.int .i64 (scrErr s)) ∧ Below W.heap.size W w') := fun W h => putCheck_any s _ _ _ W (Grd.Tab.next hT h) (hV.next h) hF
  have HX0 : Hid _ := x0
  have HKB : Hid _ := kb
  rw [hz] at HCK
  obtain ⟨s1, hs1⟩ : ∃ s1 : Scr, s1 = { (iterN (rUp n 0 bot true) k (s, rowsL n s.cs hh)).1 with cs := (iterN (rUp n 0 bot true) k (s, rowsL n s.cs hh)).2.flatten } := ⟨_, rfl⟩
  have HUP : Hid (∀ W, Below w.heap.size w W → Calls Tryd.prog 8 #[.agg (scrA s cv tv gv), .int .i64 (k : Int)] W (Made w W s1 0)) := fun W h => by
    have h2 := sup_any (w0 := w) ⟨Grd.Tab.next hT h, hV, h, hF⟩ hR 0 bot ht hbt (k : Int)
    rw [hKK, ← hs1] at h2
    exact h2
  have hrl := Grd.rowsL_len n s.cs hh
  have HSG : Hid (s1.gone = last50 (s.gone ++ (rowsL n s.cs hh).take k)) := by
    have h2 := iterUp_gone n bot (s, rowsL n s.cs hh) (by show bot < (rowsL n s.cs hh).length; omega) hR.gl k hk2
    unfold Hid
    rw [hs1]
    exact h2
  obtain ⟨L, hL⟩ : ∃ L, L = s.gone.length + k := ⟨_, rfl⟩
  have hgl := hR.gl
  have hcl := hR.cl
  have hsize : Grd.isSize n hh = true := ((Grd.gridErr_zero n hh s.cs).1 hR.gz).1
  have hne : s.cs ≠ [] := by
    intro e
    rw [e] at hcl
    have := Nat.mul_pos hR.n1 hR.h1
    simp at hcl
    omega
  have hcv := hV.c
  rcases hcv with ⟨he, -⟩ | ⟨-, cb, co, cc, rfl, hcc1, hcc2, hCC⟩
  · exact absurd he hne
  obtain ⟨ga, gc, hgs⟩ := hV.g.slice
  subst hgs
  have hw1 := hR.w
  have hh1 := hR.h
  have HV : Hid (ScrV w s (.slice (some ⟨cb, co, none⟩) s.cs.length cc) tv (.slice ga s.gone.length gc)) := hV
  have HCL : Hid (∀ V, Below w.heap.size w V → Calls Tryd.prog 12 #[.slice ga s.gone.length gc] V fun e w' => ∃ a c vs, e = .returned (.slice a s.gone.length c) ∧ w'.ownsRow V.heap.size 22 1 (.slice a s.gone.length c) s.gone.length vs ∧ RowsL w vs s.gone ∧ Below V.heap.size V w') := fun V h => by
    refine (cloneRows_any _ s.gone V (hV.next h).g (by omega)).mono ?_
    rintro e w' ⟨v', vs, rfl, h1, h2, h3, h4⟩
    obtain ⟨a, c, rfl⟩ := own_slice h1
    exact ⟨a, c, vs, rfl, h1, h3 w h hV.g, h4⟩
  have HRW : Hid (∀ V, Below w.heap.size w V → Calls Tryd.prog 10 #[.agg #[.int .i64 (n : Int), .int .i64 (hh : Int), .slice (some ⟨cb, co, none⟩) s.cs.length cc]] V fun e w' => ∃ G rc vs gs, e = .returned (.slice (some ⟨G, 0, none⟩) hh rc) ∧ k ≤ rc ∧ w'.ownsRow V.heap.size 22 1 (.slice (some ⟨G, 0, none⟩) hh rc) hh vs ∧ (∀ j u, (vs.take k)[j]? = some u → w'.cell? ((⟨G, 0, none⟩ : Addr).add j) = some u) ∧ (∀ u, u ∈ vs.take k → u.oneCell' = true) ∧ (vs.take k).length = k * 1 ∧ RowsAt w' V.heap.size vs gs (rowsL n s.cs hh) ∧ Below V.heap.size V w') := fun V h => by
    refine (Grd.rows_any n hh cb co cc s.cs V (hCC.below h) hsize hcl hcc1).mono ?_
    rintro e w' ⟨v, vs, gs, rfl, h1, h2, h3⟩
    have hvl : vs.length = hh := by rw [h2.1, hrl]
    have hh0 := hR.h1
    obtain ⟨G, rc, hv, hG1, hG2, hG3, hG4, hG5, -⟩ := own_cells h1 (by omega)
    subst hv
    refine ⟨G, rc, vs, gs, rfl, by omega, h1, fun j u hj => ?_, fun u hu => ?_, by rw [List.length_take]; omega, h2, h3⟩
    · have hjk : j < k := by
        have := (List.getElem?_eq_some_iff.1 hj).1
        rw [List.length_take] at this
        omega
      rw [List.getElem?_take_of_lt hjk] at hj
      have := hG5 j (by omega)
      rw [Addr.add_mid, Nat.zero_add, this]
      simp [List.getD, hj]
    · obtain ⟨i, hi, rfl⟩ := List.getElem_of_mem (List.mem_of_mem_take hu)
      have := (h2.2.2.2 i (by rw [← h2.1]; exact hi)).2.one
      simpa [List.getD, hi] using this
  have hwb : IntKind.i64.wrap (s.bot + 1) = s.bot + 1 := wrap_id _ (by omega) (by omega)
  have hnk1 : ¬ ((k : Int) < 1) := by omega
  have hnk2 : ¬ (s.bot + 1 < (k : Int)) := by omega
  have htb : (s.top != 0) = false := by simp [ht]
  obtain ⟨i0, hi, hzz⟩ := Option.map_eq_some_iff.1 info_rows
  simp only [Prod.mk.injEq] at hzz
  obtain ⟨hz0, hz1, hz2⟩ := hzz
  have HRL : Hid ((rowsL n s.cs hh).length = hh) := hrl
  have HROW : Hid (∀ row, row ∈ last50 (s.gone ++ (rowsL n s.cs hh).take k) → row.length ≤ 4398046511104) := fun row hrow => by
    have h1 := List.mem_of_mem_drop hrow
    rcases List.mem_append.1 h1 with h2 | h2
    · have := gone_le120 hR row h2
      omega
    · obtain ⟨i, hi, rfl⟩ := List.getElem_of_mem (List.mem_of_mem_take h2)
      have h3 := rowsL_row hR i hi
      have h4 : (rowsL n s.cs hh).getD i [] = (rowsL n s.cs hh)[i] := by simp [List.getD, hi]
      rw [h4] at h3
      have := hR.n2
      omega
  clear x0 kb hT hF hz hs1 hKK hR hV hCC hne hcl hsize ht hrl hcc1 hcc2
  go_enter Tryd.func4, Tryd.ntmps4
  go_wp2_with fail
  refine (HP.out _ HKB.out).mono ?_
  rintro e V1 ⟨rfl, b1⟩
  have HB1 : Hid (Below w.heap.size w V1) := HKB.out.trans (b1.mono HKB.out.size)
  have HX1 : Hid (V1.heap[w.heap.size]? = _) := Grd.carry HX0.out b1
  clear b1 HX0 HKB
  go_wp2_with (refine BigFrame.wpList_want rfl fun K hK => wp_load_row 32 (.tmp 2) rfl w.heap.size rfl _ _ _ _ HX1.out Tryd.underlying32 rfl (by kernel_rfl) (hK _ _ ?_))
  refine (HCK.out _ HB1.out).mono ?_
  rintro e V2 ⟨rfl, b2⟩
  have HB2 : Hid (Below w.heap.size w V2) := HB1.out.trans (b2.mono HB1.out.size)
  have HX2 : Hid (V2.heap[w.heap.size]? = _) := Grd.carry HX1.out b2
  obtain ⟨⟨-, -, -, -, -, -, -, -, -, c9, c10⟩, -, -⟩ := scr_cells HX2.out
  clear b2 HX1 HB1 HCK
  go_upto_region 3 with fail
  clear c9 c10
  go_wp2_with (refine wpList_load_row rfl 32 (.tmp 2) rfl w.heap.size rfl _ _ _ _ HX2.out Tryd.underlying32 rfl (by kernel_rfl) ?_)
  refine (HUP.out _ HB2.out).mono ?_
  rintro e V3 ⟨cv1, tv1, gv1, rfl, hO1, b3⟩
  have hg1 := hO1.scr.g
  obtain ⟨d1, m1, e1, d2, m2, e2, d3, m3, e3, rfl, rfl, rfl⟩ := hO1.shapes
  have HB3 : Hid (Below w.heap.size w V3) := HB2.out.trans (b3.mono HB2.out.size)
  have HX3 : Hid (V3.heap[w.heap.size]? = _) := Grd.carry HX2.out b3
  obtain ⟨k1, k2, k3, k4⟩ := kept_g (A := (scrA s1 (.slice d1 m1 e1) (.slice d2 m2 e2) (.slice d3 m3 e3))) HB3.out
  have HM1 : Hid _ := k1
  have HM3 : Hid _ := k3
  have HM4 : Hid _ := k4
  have HX4 : Hid _ := Grd.carry HX3.out k2
  have HG4 : Hid (RowsV _ (.slice d3 m3 e3) s1.gone) := RowsV.next hg1 k2
  clear hO1 b3 k1 k2 k3 k4 HUP hg1 HX2 HB2 HP
  go_upto_region 4 with (refine wpList_store_row rfl 32 (.tmp 5) _ rfl V3.heap.size (scrA s1 (.slice d1 m1 e1) (.slice d2 m2 e2) (.slice d3 m3 e3)) rfl rfl _ _ HM4.out (by kernel_rfl) rfl (scr_one _ _ _ _ _ _ _ _ _ _) ?_)
  clear HM4 HX3
  generalize ((V3.alloc (.cells #[.int .i64 0, .int .i64 0, .slice none 0 0, .int .i64 0, .int .i64 0, .bool false, .int .i64 0, .int .i64 0, .int .i64 0, .int .i64 0, .int .i64 0, .int .i64 0, .slice none 0 0, .int .i64 0, .int .i64 0, .int .i64 0, .int .i64 0, .int .i64 0, .int .i64 0, .int .i32 0, .string ⟨#[]⟩, .slice none 0 0] 32)).setRow V3.heap.size (scrA s1 (.slice d1 m1 e1) (.slice d2 m2 e2) (.slice d3 m3 e3))) = X at *
  have SK : Hid (∀ V, Below X.heap.size X V → Below w.heap.size w V ∧ V.cell? ⟨w.heap.size, 21, none⟩ = some (.slice ga s.gone.length gc) ∧ Ptr3 V (.pointer (some ⟨w.heap.size, 0, none⟩)) ∧ at3 V (.pointer (some ⟨w.heap.size, 0, none⟩)) = #[.int .i64 (n : Int), .int .i64 (hh : Int), .slice (some ⟨cb, co, none⟩) s.cs.length cc]) := fun V h => by
    have h0 := Grd.carry HX4.out h
    obtain ⟨-, ⟨-, -, -, -, -, -, -, -, -, -, c21⟩, -⟩ := scr_cells h0
    obtain ⟨p1, p2⟩ := scr_grd h0
    rw [hw1, hh1] at p2
    exact ⟨HM3.out.trans (h.mono HM3.out.size), c21, p1, p2⟩
  have b0 : Below X.heap.size X X.drew := (Below.refl _ _).drew
  obtain ⟨w0b, w0c, w0p, w0a⟩ := SK.out _ b0
  obtain ⟨w9b, w9c, w9p, w9a⟩ := SK.out _ (Below.refl _ _)
  clear w9b
  go_cut [7] from 39 to 63 (fun v wx => ∃ (g2 c2 : Nat) (us : List Value), v = .slice (some ⟨g2, 0, none⟩) L c2 ∧ wx.ownsRow X.heap.size 22 1 (.slice (some ⟨g2, 0, none⟩) L c2) L us ∧ RowsL wx us (s.gone ++ (rowsL n s.cs hh).take k) ∧ Below X.heap.size X wx)
  case first =>
    go_region_law (first
      | (refine step_append_two rfl (.tmp 41) (.tmp 46) 30 rfl X.heap.size 22 i0 (.slice none 0 0) 1 24 und_rows hi hz0 hz1 hz2 rfl (by decide) (.slice a1 s.gone.length c1) s.gone.length gvs (by simp [Act.eval, Act.put]) hO5 ⟨G, 0, none⟩ k rc (vs.take k) (by simp [Act.eval, Act.put]) hvk hnews hone (by unfold maxLen; omega) (by omega) q5.size ?_; intro v2 W2 hown2 hgr hat)
      | (go_simp; go_at_call 12; refine (HCL.out _ w0b).mono ?_; rintro e V4 ⟨a1, c1, gvs, rfl, hO4, hRL4, b4⟩; have q4 : Below X.heap.size X V4 := b0.trans (b4.mono b0.size); obtain ⟨w4b, w4c, w4p, w4a⟩ := SK.out _ q4)
      | (go_simp; go_at_call 10; refine (HRW.out _ w4b).mono ?_; rintro e V5 ⟨G, rc, vs, gs, rfl, hkrc, hO6, hnews, hone, hvk, hRA, b5⟩; have q5 : Below X.heap.size X V5 := q4.trans (b5.mono q4.size); have hO5 := Grd.ownsRow_mono (own_next hO4 b5) b0.size; obtain ⟨w5b, w5c, w5p, w5a⟩ := SK.out _ q5; have hkr2 : (k : Int) ≤ (rc : Int) := (by omega)))
    all_goals (
      have hbW : Below X.heap.size X W2 := q5.trans (grown_belowG hgr (fun k e => (owns_block hO5 k e).1) q5.size)
      have hbw : Below w.heap.size w W2 := HM3.out.trans (hbW.mono HM3.out.size)
      have hRW := (RowsL.next hRL4 hbw).app ((rowsAt_list (hRA.grown hO5 hgr)).take k)
      rw [← hL] at hown2
      obtain ⟨g2, c2, hv2, -⟩ := own_cells hown2 (by omega)
      subst hv2
      have HFI : Hid _ := And.intro hown2 (And.intro hRW hbW))
    all_goals go_wp2_with fail
    all_goals go_meet
    all_goals exact ⟨g2, c2, _, rfl, HFI.out.1, HFI.out.2.1, HFI.out.2.2⟩
  case rest =>
    obtain ⟨g2, c2, us, rfl, hcO, hcR, hcB⟩ := hcut
    obtain ⟨g, c, hv, -, hcc1, hcc2, -, hcells, -⟩ := own_cells hcO (by omega)
    injection hv with ev1 _ ev3
    injection ev1 with ev1
    injection ev1 with ev1 _
    subst ev1 ev3
    have hxb := Grd.carry HM1.out hcB
    obtain ⟨-, ⟨-, -, -, -, -, -, -, -, -, -, c21⟩, -⟩ := scr_cells hxb
    have hgx := RowsV.next HG4.out hcB
    have hlen : (s.gone ++ (rowsL n s.cs hh).take k).length = L := by
      rw [List.length_append, List.length_take, HRL.out, hL]
      omega
    have HBF : Hid (Below w.heap.size w wc) := HM3.out.trans (hcB.mono HM3.out.size)
    rw [HSG.out] at hgx
    have hrow : ∀ row, row ∈ last50 (s.gone ++ (rowsL n s.cs hh).take k) → row.length ≤ 4398046511104 := HROW.out
    have hgl50 := last50_len (s.gone ++ (rowsL n s.cs hh).take k)
    have hLp : 0 < L := by omega
    clear hL
    by_cases h50 : L ≤ 50
    · have hW : RowsV wc (.slice (some ⟨g2, 0, none⟩) L c2) (last50 (s.gone ++ (rowsL n s.cs hh).take k)) := by
        rw [last50_short _ (by omega)]
        have h := rowsV_drop hcc1 hcc2 hcells hcR hlen 0 (by omega)
        rwa [Nat.sub_zero, Nat.sub_zero, List.drop_zero] at h
      have HSR := sameRows_any _ _ _ wc hgx hW (by have := last50_len (s.gone ++ (rowsL n s.cs hh).take k); omega) hrow
      have hn0 : ¬ ((0 : Int) < (L : Int) - 50) := by omega
      have hwL : IntKind.i64.wrap ((L : Int) - 50) = (L : Int) - 50 := wrap_id _ (by omega) (by omega)
      clear hW hgx hxb hcells hcR hcO hcB hrow HSG HM1 HM3 HG4 HX4 SK
      go_wp2_with fail
      refine HSR.mono ?_
      rintro e V6 ⟨rfl, b6⟩
      have HB6 : Hid (Below w.heap.size w V6) := HBF.out.trans (b6.mono HBF.out.size)
      clear b6
      go_wp2_with fail
      go_ret
      exact ⟨rfl, HB6.out⟩
    · obtain ⟨d, hd⟩ : ∃ d, L = 50 + d := ⟨L - 50, by omega⟩
      have hW : RowsV wc (.slice (some ⟨g2, d, none⟩) (L - d) (c2 - d)) (last50 (s.gone ++ (rowsL n s.cs hh).take k)) := by
        have e : last50 (s.gone ++ (rowsL n s.cs hh).take k) = (s.gone ++ (rowsL n s.cs hh).take k).drop d := by
          unfold last50
          rw [hlen, show L - 50 = d by omega]
        rw [e]
        exact rowsV_drop hcc1 hcc2 hcells hcR hlen d (by omega)
      have HSR := sameRows_any _ _ _ wc hgx hW (by have := last50_len (s.gone ++ (rowsL n s.cs hh).take k); omega) hrow
      have hn0 : (0 : Int) < (d : Int) := by omega
      have hwL : IntKind.i64.wrap ((L : Int) - 50) = (d : Int) := by
        rw [wrap_id _ (by omega) (by omega)]
        omega
      have hdL : (d : Int) ≤ (L : Int) := by omega
      have hdc : d < c2 := by omega
      have hdc2 : (d : Int) < (c2 : Int) := by omega
      have hdc3 : ¬ c2 - d = 0 := by omega
      have hdL2 : d < L := by omega
      clear hd h50
      clear hW hgx hxb hcells hcR hcO hcB hrow HSG HM1 HM3 HG4 HX4 SK
      go_wp2_with fail
      refine HSR.mono ?_
      rintro e V6 ⟨rfl, b6⟩
      have HB6 : Hid (Below w.heap.size w V6) := HBF.out.trans (b6.mono HBF.out.size)
      clear b6
      go_wp2_with fail
      go_ret
      exact ⟨rfl, HB6.out⟩
end
theorem shiftGone_walk (s : Scr) (cv tv gv : Value) (k : Int) (w : World) (hT : Txt.Tab w) (hV : ScrV w s cv tv gv) (hF : Fits s) :
    Calls Tryd.prog 4 #[.agg (scrA s cv tv gv), .int .i64 k] w fun e w' => e = .returned (.bool true) ∧ Below w.heap.size w w' := by
  by_cases hz : scrErr s = 0
  · obtain ⟨n, hh, hR⟩ := right_of s hz
    by_cases ht : s.top = 0
    · by_cases hk1 : k < 1
      · exact gone_low s cv tv gv k w hT hV hF hz ht hk1
      · have t1 := hR.t1
        have t2 := hR.t2
        have h2 := hR.h2
        have eh := hR.h
        by_cases hk2 : s.bot + 1 < k
        · exact gone_high s cv tv gv k w hT hV hF hz ht hk1 (by omega) (by omega) hk2
        · obtain ⟨kk, hkk⟩ : ∃ kk : Nat, k = (kk : Int) := ⟨k.toNat, by omega⟩
          subst hkk
          exact gone_good s cv tv gv kk w hT hV hF n hh s.bot.toNat hR ht (by omega) (by omega) (by omega)
    · exact gone_top s cv tv gv k w hT hV hF hz ht
  · exact gone_bad s cv tv gv k w hT hV hF hz
end Put
end Go.Proofs.YthokeflechajlaaDoor
