/- The law ModeLook. -/
import Derived.Test.YtnkeahfcpbepjaaGreatDoorPartJ
import Derived.Test.YtnkeahfcpbepjaaGreatDoorPartQ
import Derived.Test.YtnkeahfcpbepjaaGreatDoorPartS
namespace Go.Proofs.YtnkeahfcpbepjaaGreatDoor
set_option linter.unusedVariables false
open Go.ChangeShapes Go.WideShapes Go.ChangeAt Go.RowKit
namespace Put
open Grd (C SliceAt CellsAt gridErr z0 nilV flat rowsL)
theorem plain_lookc : Plain 58 := by
  intro args W
  kernel_rfl
theorem plain_namec : Plain 60 := by
  intro args W
  kernel_rfl
theorem plain_resetc : Plain 70 := by
  intro args W
  kernel_rfl
theorem plainF_look : Plain 22 := by
  intro args W
  kernel_rfl
theorem plainF_name : Plain 24 := by
  intro args W
  kernel_rfl
theorem plainF_reset : Plain 31 := by
  intro args W
  kernel_rfl
theorem plainA_look : Plain 27 := by
  intro args W
  kernel_rfl
theorem plainA_name : Plain 29 := by
  intro args W
  kernel_rfl
theorem with_csL (s' : Scr) (cs : List C) (h : cs = s'.cs) : ({ s' with cs := cs } : Scr) = s' := by
  subst h
  rfl
theorem small_sameL {s s' : Scr} (h0 : Small s) (hc : s'.cs = s.cs) (ht : s'.tabs = s.tabs) (hg : s'.gone = s.gone) : Small s' := ⟨by rw [hc]; exact h0.c, by rw [ht]; exact h0.t, by rw [hg]; exact h0.g, by rw [hg]; exact h0.r⟩
/-- A list of numbers that may be. -/
structure Nums (w : World) (v : Value) (xs : List Int) : Prop where
  i : Stl.IntsAt w v xs
  l : xs.length ≤ 140737488355328
  w : ∀ x ∈ xs, -9223372036854775808 ≤ x ∧ x ≤ 9223372036854775807
theorem Nums.next {w w' : World} {v : Value} {xs : List Int} (h : Nums w v xs) (hb : Below w.heap.size w w') : Nums w' v xs := ⟨h.i.below hb, h.l, h.w⟩
theorem mlook_any {w0 w : World} {s : Scr} {cv tv gv : Value} {n hh : Nat} (h : Met w0 w s cv tv gv) (hR : RightS s n hh) (pl : Option Addr) (nl cl : Nat) (xs : List Int) (hT : Stl.Tab w) (hI : Nums w (.slice pl nl cl) xs) : Calls Tryz.prog 23 #[.agg (scrA s cv tv gv), .slice pl nl cl] w (Made w0 w (lookS s xs) 0) :=
  modeLook_calls s _ cv tv gv pl nl cl 0 w0 w h.v h.b.size fun W B hW hB => by
    have := md_good (h.next hW) hR _ plain_lookc #[.pointer (some ⟨B, 0, none⟩)] (rowsL n s.cs hh) _ (fun w1 hw1 => look_does B _ w1 s _ pl nl cl xs (cell_stay hw1 hB) (styTab_next (styTab_next hT hW) hw1) (((hI.next hW).next hw1).i) hI.l (fun x hx => (hI.w x hx).2)) (rowsOk_same hR (lookS s xs) rfl) rfl
    rwa [with_csL (lookS s xs) _ hR.flatten] at this
theorem mlook_bad {w0 w : World} {s : Scr} {cv tv gv : Value} (h : Met w0 w s cv tv gv) (hz : scrErr s ≠ 0) (pl : Option Addr) (nl cl : Nat) : Calls Tryz.prog 23 #[.agg (scrA s cv tv gv), .slice pl nl cl] w (Made w0 w zScr (scrErr s)) :=
  modeLook_calls s zScr cv tv gv pl nl cl (scrErr s) w0 w h.v h.b.size fun _ _ hW _ => md_bad (h.next hW) hz _ _
theorem mname_any {w0 w : World} {s : Scr} {cv tv gv : Value} {n hh : Nat} (h : Met w0 w s cv tv gv) (hR : RightS s n hh) (t : ByteArray) (ht : t.size ≤ 1048576) : Calls Tryz.prog 25 #[.agg (scrA s cv tv gv), .string t] w (Made w0 w (nameS s t) 0) :=
  modeName_calls s _ cv tv gv t 0 w0 w h.v h.b.size fun W B hW hB => by
    have := md_good (h.next hW) hR _ plain_namec #[.pointer (some ⟨B, 0, none⟩)] (rowsL n s.cs hh) _ (fun w1 hw1 => name_does B _ w1 s _ t (cell_stay hw1 hB) (Grd.Tab.next (h.next hW).t hw1) ht) (rowsOk_same hR (nameS s t) rfl) rfl
    rwa [with_csL (nameS s t) _ hR.flatten] at this
theorem mname_bad {w0 w : World} {s : Scr} {cv tv gv : Value} (h : Met w0 w s cv tv gv) (hz : scrErr s ≠ 0) (t : ByteArray) : Calls Tryz.prog 25 #[.agg (scrA s cv tv gv), .string t] w (Made w0 w zScr (scrErr s)) :=
  modeName_calls s zScr cv tv gv t (scrErr s) w0 w h.v h.b.size fun _ _ hW _ => md_bad (h.next hW) hz _ _
theorem sizeR {s : Scr} {n hh : Nat} (hR : RightS s n hh) : Grd.isSize n hh = true := ((Grd.gridErr_zero n hh s.cs).1 hR.gz).1
theorem newFlat (n hh : Nat) : (rowsL n (newScr n hh).cs hh).flatten = (newScr n hh).cs := by
  rw [rowsL_flatten, List.take_of_length_le]
  simp [newScr, Nat.mul_comm]
theorem new_rows (n hh i : Nat) (hi : i < (rowsL n (newScr n hh).cs hh).length) : ((rowsL n (newScr n hh).cs hh).getD i []).length = n := by
  rw [Grd.rowsL_len] at hi
  have e2 : (rowsL n (newScr n hh).cs hh).getD i [] = Grd.rowAt n (newScr n hh).cs i := by simp [rowsL, List.getD, hi]
  rw [e2]
  exact Grd.row_len n hh _ i (by simp [newScr]) hi
theorem mreset_any {w0 w : World} {s : Scr} {cv tv gv : Value} {n hh : Nat} (h : Met w0 w s cv tv gv) (hR : RightS s n hh) : Calls Tryz.prog 31 #[.agg (scrA s cv tv gv)] w (Made w0 w (resetS s n hh) 0) :=
  modeReset_calls s _ cv tv gv 0 w0 w h.v h.b.size fun W _ hW => by
    have := md_good (h.next hW) hR _ plain_resetc #[] (rowsL n (newScr n hh).cs hh) _ (fun w1 _ => reset_does _ w1 s _ n hh hR.w hR.h (sizeR hR) hR.gl) (rowsOk hR (resetS s n hh) _ (Grd.rowsL_len _ _ _) (new_rows n hh) (by show s.gone.length ≤ 51; have := hR.gl; omega) (fun i hi => by have := hR.gone_le i hi; show (s.gone.getD i []).length ≤ 1048576; omega)) rfl
    rwa [with_csL (resetS s n hh) _ (newFlat n hh)] at this
theorem mreset_bad {w0 w : World} {s : Scr} {cv tv gv : Value} (h : Met w0 w s cv tv gv) (hz : scrErr s ≠ 0) : Calls Tryz.prog 31 #[.agg (scrA s cv tv gv)] w (Made w0 w zScr (scrErr s)) :=
  modeReset_calls s zScr cv tv gv (scrErr s) w0 w h.v h.b.size fun _ _ hW => md_bad (h.next hW) hz _ _
set_option maxHeartbeats 2000000 in
set_option maxRecDepth 100000 in
theorem look1_calls (s s' : Scr) (cv tv gv : Value) (pl : Option Addr) (nl cl : Nat) (B1 : Nat) (er : Int) (w0 w : World) (hV : ScrV w0 s cv tv gv) (hM : w0.heap.size ≤ w.heap.size) (h1 : w.cell? ⟨B1, 0, none⟩ = some (.slice pl nl cl))
    (hC : ∀ W, Below w.heap.size w W → Calls Tryz.prog 23 #[.agg (scrA s cv tv gv), .slice pl nl cl] W (Made w0 W s' er)) :
    Calls Tryz.prog 22 #[.agg (scrA s cv tv gv), .pointer (some ⟨B1, 0, none⟩)] w (Made w0 w s' er) := by
  obtain ⟨ca, cc, rfl⟩ := hV.c.shape
  obtain ⟨ta, tc, rfl⟩ := hV.t.slice
  obtain ⟨ga, gc, rfl⟩ := hV.g.slice
  have hkb : Below w.heap.size w ((w.alloc (.cells (scrA s (.slice ca s.cs.length cc) (.slice ta s.tabs.length tc) (.slice ga s.gone.length gc)) 32)).alloc (.cells #[.int .i64 0, .int .i64 0, .slice none 0 0, .int .i64 0, .int .i64 0, .bool false, .int .i64 0, .int .i64 0, .int .i64 0, .int .i64 0, .int .i64 0, .int .i64 0, .slice none 0 0, .int .i64 0, .int .i64 0, .int .i64 0, .int .i64 0, .int .i64 0, .int .i64 0, .int .i32 0, .string ⟨#[]⟩, .slice none 0 0] 32)) := (((Below.refl _ _).alloc (by simp) _).alloc (by simp) _)
  have hx0 : (w.alloc (.cells (scrA s (.slice ca s.cs.length cc) (.slice ta s.tabs.length tc) (.slice ga s.gone.length gc)) 32)).heap[w.heap.size]? = some (.cells (scrA s (.slice ca s.cs.length cc) (.slice ta s.tabs.length tc) (.slice ga s.gone.length gc)) 32 (0, 0)) := by
    have h := heap_alloc_new w (.cells (scrA s (.slice ca s.cs.length cc) (.slice ta s.tabs.length tc) (.slice ga s.gone.length gc)) 32)
    have e : w.heap.size = w.heap.size := by simp
    rw [e] at h
    exact h
  have hx0 := (Below.heap_alloc (w.alloc (.cells (scrA s (.slice ca s.cs.length cc) (.slice ta s.tabs.length tc) (.slice ga s.gone.length gc)) 32)) (.cells #[.int .i64 0, .int .i64 0, .slice none 0 0, .int .i64 0, .int .i64 0, .bool false, .int .i64 0, .int .i64 0, .int .i64 0, .int .i64 0, .int .i64 0, .int .i64 0, .slice none 0 0, .int .i64 0, .int .i64 0, .int .i64 0, .int .i64 0, .int .i64 0, .int .i64 0, .int .i32 0, .string ⟨#[]⟩, .slice none 0 0] 32) _ (heap_lt hx0)).trans hx0
  have hx1 : ((w.alloc (.cells (scrA s (.slice ca s.cs.length cc) (.slice ta s.tabs.length tc) (.slice ga s.gone.length gc)) 32)).alloc (.cells #[.int .i64 0, .int .i64 0, .slice none 0 0, .int .i64 0, .int .i64 0, .bool false, .int .i64 0, .int .i64 0, .int .i64 0, .int .i64 0, .int .i64 0, .int .i64 0, .slice none 0 0, .int .i64 0, .int .i64 0, .int .i64 0, .int .i64 0, .int .i64 0, .int .i64 0, .int .i32 0, .string ⟨#[]⟩, .slice none 0 0] 32)).heap[w.heap.size + 1]? = some (.cells #[.int .i64 0, .int .i64 0, .slice none 0 0, .int .i64 0, .int .i64 0, .bool false, .int .i64 0, .int .i64 0, .int .i64 0, .int .i64 0, .int .i64 0, .int .i64 0, .slice none 0 0, .int .i64 0, .int .i64 0, .int .i64 0, .int .i64 0, .int .i64 0, .int .i64 0, .int .i32 0, .string ⟨#[]⟩, .slice none 0 0] 32 (0, 0)) := by
    have h := heap_alloc_new (w.alloc (.cells (scrA s (.slice ca s.cs.length cc) (.slice ta s.tabs.length tc) (.slice ga s.gone.length gc)) 32)) (.cells #[.int .i64 0, .int .i64 0, .slice none 0 0, .int .i64 0, .int .i64 0, .bool false, .int .i64 0, .int .i64 0, .int .i64 0, .int .i64 0, .int .i64 0, .int .i64 0, .slice none 0 0, .int .i64 0, .int .i64 0, .int .i64 0, .int .i64 0, .int .i64 0, .int .i64 0, .int .i32 0, .string ⟨#[]⟩, .slice none 0 0] 32)
    have e : (w.alloc (.cells (scrA s (.slice ca s.cs.length cc) (.slice ta s.tabs.length tc) (.slice ga s.gone.length gc)) 32)).heap.size = w.heap.size + 1 := by simp
    rw [e] at h
    exact h
  have HX0 : Hid _ := hx0
  have HXR : Hid _ := hx1
  have HKB : Hid _ := hkb
  have HC := hC _ hkb
  have q1 := cell_stay hkb h1
  have hsz : w.heap.size ≤ ((w.alloc (.cells (scrA s (.slice ca s.cs.length cc) (.slice ta s.tabs.length tc) (.slice ga s.gone.length gc)) 32)).alloc (.cells #[.int .i64 0, .int .i64 0, .slice none 0 0, .int .i64 0, .int .i64 0, .bool false, .int .i64 0, .int .i64 0, .int .i64 0, .int .i64 0, .int .i64 0, .int .i64 0, .slice none 0 0, .int .i64 0, .int .i64 0, .int .i64 0, .int .i64 0, .int .i64 0, .int .i64 0, .int .i32 0, .string ⟨#[]⟩, .slice none 0 0] 32)).heap.size := hkb.size
  clear hkb hV hC hx0 hx1 h1
  go_enter Tryz.func22, Tryz.ntmps22
  go_upto_region 1 with fail
  generalize ((w.alloc (.cells (scrA s (.slice ca s.cs.length cc) (.slice ta s.tabs.length tc) (.slice ga s.gone.length gc)) 32)).alloc (.cells #[.int .i64 0, .int .i64 0, .slice none 0 0, .int .i64 0, .int .i64 0, .bool false, .int .i64 0, .int .i64 0, .int .i64 0, .int .i64 0, .int .i64 0, .int .i64 0, .slice none 0 0, .int .i64 0, .int .i64 0, .int .i64 0, .int .i64 0, .int .i64 0, .int .i64 0, .int .i32 0, .string ⟨#[]⟩, .slice none 0 0] 32)) = X at *
  go_wp2_with (refine wpList_load_row rfl 32 (.tmp 2) rfl w.heap.size rfl _ _ _ _ HX0.out Tryz.underlying32 rfl (by kernel_rfl) ?_)
  refine HC.mono ?_
  rintro e V ⟨cv', tv', gv', rfl, hO, c2⟩
  obtain ⟨a1, n1, c1, a2, n2, c2', a3, n3, c3, rfl, rfl, rfl⟩ := hO.shapes
  have HO : Hid (ScrO V 0 _ s' _ _ _) := hO
  have HR : Hid (V.heap[w.heap.size + 1]? = _) := Grd.carry HXR.out c2
  have HB : Hid (Below w.heap.size w V) := HKB.out.trans (c2.mono HKB.out.size)
  clear hO c2 HC q1
  go_wp2_with (refine wpList_store_row rfl 32 (.tmp 3) (.tmp 8) rfl (w.heap.size + 1) (scrA s' (.slice a1 n1 c1) (.slice a2 n2 c2') (.slice a3 n3 c3)) rfl rfl _ _ HR.out (by kernel_rfl) rfl (scr_one _ _ _ _ _ _ _ _ _ _) ?_)
  (try simp only [Exit.inBlock, Exit.then])
  refine bodyPost_ret (v := .tuple #[.agg (scrA s' (.slice a1 n1 c1) (.slice a2 n2 c2') (.slice a3 n3 c3)), .int .i64 er]) ?_ rfl ⟨_, _, _, rfl, ?_, below_setRow HB.out (by omega) _⟩
  · exact Grd.results_row_tmp rfl _ _ (w.heap.size + 1) _ _ _ _ rfl (setRow_heap _ _ _ _ _ _ HR.out) Tryz.underlying32 rfl (by kernel_rfl) _ rfl
  · exact (ScrO.off HO.out HR.out screen_is (by omega) fun k hk => setRow_other _ _ _ _ hk).mono hsz
set_option maxHeartbeats 2000000 in
set_option maxRecDepth 100000 in
theorem name1_calls (s s' : Scr) (cv tv gv : Value) (t : ByteArray) (B1 : Nat) (er : Int) (w0 w : World) (hV : ScrV w0 s cv tv gv) (hM : w0.heap.size ≤ w.heap.size) (h1 : w.cell? ⟨B1, 0, none⟩ = some (.string t))
    (hC : ∀ W, Below w.heap.size w W → Calls Tryz.prog 25 #[.agg (scrA s cv tv gv), .string t] W (Made w0 W s' er)) :
    Calls Tryz.prog 24 #[.agg (scrA s cv tv gv), .pointer (some ⟨B1, 0, none⟩)] w (Made w0 w s' er) := by
  obtain ⟨ca, cc, rfl⟩ := hV.c.shape
  obtain ⟨ta, tc, rfl⟩ := hV.t.slice
  obtain ⟨ga, gc, rfl⟩ := hV.g.slice
  have hkb : Below w.heap.size w ((w.alloc (.cells (scrA s (.slice ca s.cs.length cc) (.slice ta s.tabs.length tc) (.slice ga s.gone.length gc)) 32)).alloc (.cells #[.int .i64 0, .int .i64 0, .slice none 0 0, .int .i64 0, .int .i64 0, .bool false, .int .i64 0, .int .i64 0, .int .i64 0, .int .i64 0, .int .i64 0, .int .i64 0, .slice none 0 0, .int .i64 0, .int .i64 0, .int .i64 0, .int .i64 0, .int .i64 0, .int .i64 0, .int .i32 0, .string ⟨#[]⟩, .slice none 0 0] 32)) := (((Below.refl _ _).alloc (by simp) _).alloc (by simp) _)
  have hx0 : (w.alloc (.cells (scrA s (.slice ca s.cs.length cc) (.slice ta s.tabs.length tc) (.slice ga s.gone.length gc)) 32)).heap[w.heap.size]? = some (.cells (scrA s (.slice ca s.cs.length cc) (.slice ta s.tabs.length tc) (.slice ga s.gone.length gc)) 32 (0, 0)) := by
    have h := heap_alloc_new w (.cells (scrA s (.slice ca s.cs.length cc) (.slice ta s.tabs.length tc) (.slice ga s.gone.length gc)) 32)
    have e : w.heap.size = w.heap.size := by simp
    rw [e] at h
    exact h
  have hx0 := (Below.heap_alloc (w.alloc (.cells (scrA s (.slice ca s.cs.length cc) (.slice ta s.tabs.length tc) (.slice ga s.gone.length gc)) 32)) (.cells #[.int .i64 0, .int .i64 0, .slice none 0 0, .int .i64 0, .int .i64 0, .bool false, .int .i64 0, .int .i64 0, .int .i64 0, .int .i64 0, .int .i64 0, .int .i64 0, .slice none 0 0, .int .i64 0, .int .i64 0, .int .i64 0, .int .i64 0, .int .i64 0, .int .i64 0, .int .i32 0, .string ⟨#[]⟩, .slice none 0 0] 32) _ (heap_lt hx0)).trans hx0
  have hx1 : ((w.alloc (.cells (scrA s (.slice ca s.cs.length cc) (.slice ta s.tabs.length tc) (.slice ga s.gone.length gc)) 32)).alloc (.cells #[.int .i64 0, .int .i64 0, .slice none 0 0, .int .i64 0, .int .i64 0, .bool false, .int .i64 0, .int .i64 0, .int .i64 0, .int .i64 0, .int .i64 0, .int .i64 0, .slice none 0 0, .int .i64 0, .int .i64 0, .int .i64 0, .int .i64 0, .int .i64 0, .int .i64 0, .int .i32 0, .string ⟨#[]⟩, .slice none 0 0] 32)).heap[w.heap.size + 1]? = some (.cells #[.int .i64 0, .int .i64 0, .slice none 0 0, .int .i64 0, .int .i64 0, .bool false, .int .i64 0, .int .i64 0, .int .i64 0, .int .i64 0, .int .i64 0, .int .i64 0, .slice none 0 0, .int .i64 0, .int .i64 0, .int .i64 0, .int .i64 0, .int .i64 0, .int .i64 0, .int .i32 0, .string ⟨#[]⟩, .slice none 0 0] 32 (0, 0)) := by
    have h := heap_alloc_new (w.alloc (.cells (scrA s (.slice ca s.cs.length cc) (.slice ta s.tabs.length tc) (.slice ga s.gone.length gc)) 32)) (.cells #[.int .i64 0, .int .i64 0, .slice none 0 0, .int .i64 0, .int .i64 0, .bool false, .int .i64 0, .int .i64 0, .int .i64 0, .int .i64 0, .int .i64 0, .int .i64 0, .slice none 0 0, .int .i64 0, .int .i64 0, .int .i64 0, .int .i64 0, .int .i64 0, .int .i64 0, .int .i32 0, .string ⟨#[]⟩, .slice none 0 0] 32)
    have e : (w.alloc (.cells (scrA s (.slice ca s.cs.length cc) (.slice ta s.tabs.length tc) (.slice ga s.gone.length gc)) 32)).heap.size = w.heap.size + 1 := by simp
    rw [e] at h
    exact h
  have HX0 : Hid _ := hx0
  have HXR : Hid _ := hx1
  have HKB : Hid _ := hkb
  have HC := hC _ hkb
  have q1 := cell_stay hkb h1
  have hsz : w.heap.size ≤ ((w.alloc (.cells (scrA s (.slice ca s.cs.length cc) (.slice ta s.tabs.length tc) (.slice ga s.gone.length gc)) 32)).alloc (.cells #[.int .i64 0, .int .i64 0, .slice none 0 0, .int .i64 0, .int .i64 0, .bool false, .int .i64 0, .int .i64 0, .int .i64 0, .int .i64 0, .int .i64 0, .int .i64 0, .slice none 0 0, .int .i64 0, .int .i64 0, .int .i64 0, .int .i64 0, .int .i64 0, .int .i64 0, .int .i32 0, .string ⟨#[]⟩, .slice none 0 0] 32)).heap.size := hkb.size
  clear hkb hV hC hx0 hx1 h1
  go_enter Tryz.func24, Tryz.ntmps24
  go_upto_region 1 with fail
  generalize ((w.alloc (.cells (scrA s (.slice ca s.cs.length cc) (.slice ta s.tabs.length tc) (.slice ga s.gone.length gc)) 32)).alloc (.cells #[.int .i64 0, .int .i64 0, .slice none 0 0, .int .i64 0, .int .i64 0, .bool false, .int .i64 0, .int .i64 0, .int .i64 0, .int .i64 0, .int .i64 0, .int .i64 0, .slice none 0 0, .int .i64 0, .int .i64 0, .int .i64 0, .int .i64 0, .int .i64 0, .int .i64 0, .int .i32 0, .string ⟨#[]⟩, .slice none 0 0] 32)) = X at *
  go_wp2_with (refine wpList_load_row rfl 32 (.tmp 2) rfl w.heap.size rfl _ _ _ _ HX0.out Tryz.underlying32 rfl (by kernel_rfl) ?_)
  refine HC.mono ?_
  rintro e V ⟨cv', tv', gv', rfl, hO, c2⟩
  obtain ⟨a1, n1, c1, a2, n2, c2', a3, n3, c3, rfl, rfl, rfl⟩ := hO.shapes
  have HO : Hid (ScrO V 0 _ s' _ _ _) := hO
  have HR : Hid (V.heap[w.heap.size + 1]? = _) := Grd.carry HXR.out c2
  have HB : Hid (Below w.heap.size w V) := HKB.out.trans (c2.mono HKB.out.size)
  clear hO c2 HC q1
  go_wp2_with (refine wpList_store_row rfl 32 (.tmp 3) (.tmp 8) rfl (w.heap.size + 1) (scrA s' (.slice a1 n1 c1) (.slice a2 n2 c2') (.slice a3 n3 c3)) rfl rfl _ _ HR.out (by kernel_rfl) rfl (scr_one _ _ _ _ _ _ _ _ _ _) ?_)
  (try simp only [Exit.inBlock, Exit.then])
  refine bodyPost_ret (v := .tuple #[.agg (scrA s' (.slice a1 n1 c1) (.slice a2 n2 c2') (.slice a3 n3 c3)), .int .i64 er]) ?_ rfl ⟨_, _, _, rfl, ?_, below_setRow HB.out (by omega) _⟩
  · exact Grd.results_row_tmp rfl _ _ (w.heap.size + 1) _ _ _ _ rfl (setRow_heap _ _ _ _ _ _ HR.out) Tryz.underlying32 rfl (by kernel_rfl) _ rfl
  · exact (ScrO.off HO.out HR.out screen_is (by omega) fun k hk => setRow_other _ _ _ _ hk).mono hsz
theorem look_law (s : Scr) (cv tv gv : Value) (pl : Option Addr) (nl cl : Nat) (xs : List Int) (B1 : Nat) (w : World) (hT : Txt.Tab w) (hS : Stl.Tab w) (hI : Nums w (.slice pl nl cl) xs) (hV : ScrV w s cv tv gv) (hB : Bulk s) (h1 : w.cell? ⟨B1, 0, none⟩ = some (.slice pl nl cl)) :
    Calls Tryz.prog 26 #[.agg (scrA s cv tv gv), .func (.func 22) #[] #[.pointer (some ⟨B1, 0, none⟩)], .func (.func 27) #[] #[.pointer (some ⟨B1, 0, none⟩)]] w fun e w' => e = .returned (.bool true) ∧ Below w.heap.size w w' := by
  by_cases hz : scrErr s = 0
  · obtain ⟨nn, hh, hR⟩ := right_of s hz
    have hw' := hR.w
    have hh' := hR.h
    refine does_good s (lookS s xs) (lookS s xs) nn hh (rowsL nn s.cs hh) cv tv gv _ _ #[.pointer (some ⟨B1, 0, none⟩)] _ plainF_look plainA_look w hT hV hB hR hz (small_sameL (smallOf hR) rfl rfl rfl) (dlook_acts B1 w s _ pl nl cl xs h1 hI.i hI.l hI.w) (Grd.rowsL_len _ _ _) (rowsL_row hR) ?_ fun w0 W cv' tv' gv' hb hm => ?_
    · rw [hR.flatten, ← hw', ← hh']
      rfl
    · have hbW := hb.trans (hm.b.mono hb.size)
      exact look1_calls s _ cv' tv' gv' pl nl cl B1 _ w0 W hm.v hm.b.size (cell_stay hbW h1) fun V hV' => mlook_any (hm.next hV') hR pl nl cl xs (styTab_next (styTab_next hS hbW) hV') ((hI.next hbW).next hV')
  · exact does_bad s cv tv gv _ #[.pointer (some ⟨B1, 0, none⟩)] _ plainF_look w hT hV hB hz fun w0 W cv' tv' gv' hb hm => look1_calls s zScr cv' tv' gv' pl nl cl B1 _ w0 W hm.v hm.b.size (cell_stay (hb.trans (hm.b.mono hb.size)) h1) fun V hV' => mlook_bad (hm.next hV') hz pl nl cl
theorem name_law (s : Scr) (cv tv gv : Value) (t : ByteArray) (B2 : Nat) (w : World) (hT : Txt.Tab w) (ht : t.size ≤ 1048576) (hV : ScrV w s cv tv gv) (hB : Bulk s) (h1 : w.cell? ⟨B2, 0, none⟩ = some (.string t)) :
    Calls Tryz.prog 26 #[.agg (scrA s cv tv gv), .func (.func 24) #[] #[.pointer (some ⟨B2, 0, none⟩)], .func (.func 29) #[] #[.pointer (some ⟨B2, 0, none⟩)]] w fun e w' => e = .returned (.bool true) ∧ Below w.heap.size w w' := by
  by_cases hz : scrErr s = 0
  · obtain ⟨nn, hh, hR⟩ := right_of s hz
    have hw' := hR.w
    have hh' := hR.h
    refine does_good s (nameS s t) (nameS s t) nn hh (rowsL nn s.cs hh) cv tv gv _ _ #[.pointer (some ⟨B2, 0, none⟩)] _ plainF_name plainA_name w hT hV hB hR hz (small_sameL (smallOf hR) rfl rfl rfl) (dname_acts B2 w s _ t h1 ht) (Grd.rowsL_len _ _ _) (rowsL_row hR) ?_ fun w0 W cv' tv' gv' hb hm => ?_
    · rw [hR.flatten, ← hw', ← hh']
      rfl
    · exact name1_calls s _ cv' tv' gv' t B2 _ w0 W hm.v hm.b.size (cell_stay (hb.trans (hm.b.mono hb.size)) h1) fun V hV' => mname_any (hm.next hV') hR t ht
  · exact does_bad s cv tv gv _ #[.pointer (some ⟨B2, 0, none⟩)] _ plainF_name w hT hV hB hz fun w0 W cv' tv' gv' hb hm => name1_calls s zScr cv' tv' gv' t B2 _ w0 W hm.v hm.b.size (cell_stay (hb.trans (hm.b.mono hb.size)) h1) fun V hV' => mname_bad (hm.next hV') hz t
theorem reset_agree {s : Scr} {n hh : Nat} (hR : RightS s n hh) (a m : Int) : Agrees ⟨#[114, 101, 115, 101, 116]⟩ a m s (resetS s n hh) n hh := by
  have n2 := hR.n2
  have h2 := hR.h2
  have hg := hR.gl
  refine ⟨⟨?_, ?_, ?_, ?_⟩, _, _, act_reset a m s _ n hh hR.w hR.h (sizeR hR) hR.gl, Grd.rowsL_len _ _ _, new_rows n hh, ?_⟩
  · show (List.replicate (n * hh) ((32, 0, 0, 0) : C)).length ≤ _
    rw [List.length_replicate]
    have := Nat.mul_le_mul n2 h2
    omega
  · show (newTabs n).length ≤ _
    have : (newTabs n).length = n := by simp [newTabs]
    omega
  · exact (smallOf hR).g
  · exact (smallOf hR).r
  · rw [newFlat]
    rfl
theorem reset_law (s : Scr) (cv tv gv : Value) (w : World) (hT : Txt.Tab w) (hV : ScrV w s cv tv gv) (hB : Bulk s) :
    Calls Tryz.prog 12 #[.agg (scrA s cv tv gv), .func (.func 31) #[] #[], .string ⟨#[114, 101, 115, 101, 116]⟩, .int .i64 0, .int .i64 0] w fun e w' => e = .returned (.bool true) ∧ Below w.heap.size w w' :=
  acts_any s cv tv gv _ plainF_reset #[] _ 0 0 w hT hV hB (resetS s s.w.toNat s.h.toNat) (fun hz _ _ _ _ _ _ hm => mreset_bad hm hz) fun nn hh hR => by
    have e1 : s.w.toNat = nn := by rw [hR.w]; rfl
    have e2 : s.h.toNat = hh := by rw [hR.h]; rfl
    rw [e1, e2]
    exact ⟨fun _ _ _ _ _ _ hm => mreset_any hm hR, reset_agree hR 0 0⟩
set_option maxHeartbeats 4000000 in
set_option maxRecDepth 100000 in
theorem modeLook_walk (s : Scr) (cv tv gv : Value) (pl : Option Addr) (nl cl : Nat) (xs : List Int) (t : ByteArray) (w : World) (hT : Txt.Tab w) (hS : Stl.Tab w) (hI : Nums w (.slice pl nl cl) xs) (ht : t.size ≤ 1048576) (hV : ScrV w s cv tv gv) (hB : Bulk s) :
    Calls Tryz.prog 7 #[.agg (scrA s cv tv gv), .slice pl nl cl, .string t] w fun e w' => e = .returned (.bool true) ∧ Below w.heap.size w w' := by
  have HC1 : Hid (∀ W B1, Below w.heap.size w W → W.cell? ⟨B1, 0, none⟩ = some (.slice pl nl cl) → Calls Tryz.prog 26 #[.agg (scrA s cv tv gv), .func (.func 22) #[] #[.pointer (some ⟨B1, 0, none⟩)], .func (.func 27) #[] #[.pointer (some ⟨B1, 0, none⟩)]] W fun e w' => e = .returned (.bool true) ∧ Below W.heap.size W w') := fun W B1 h h1 => look_law s cv tv gv pl nl cl xs B1 W (Grd.Tab.next hT h) (styTab_next hS h) (hI.next h) (hV.next h) hB h1
  have HC2 : Hid (∀ W B2, Below w.heap.size w W → W.cell? ⟨B2, 0, none⟩ = some (.string t) → Calls Tryz.prog 26 #[.agg (scrA s cv tv gv), .func (.func 24) #[] #[.pointer (some ⟨B2, 0, none⟩)], .func (.func 29) #[] #[.pointer (some ⟨B2, 0, none⟩)]] W fun e w' => e = .returned (.bool true) ∧ Below W.heap.size W w') := fun W B2 h h1 => name_law s cv tv gv t B2 W (Grd.Tab.next hT h) ht (hV.next h) hB h1
  have HC3 : Hid (∀ W, Below w.heap.size w W → Calls Tryz.prog 12 #[.agg (scrA s cv tv gv), .func (.func 31) #[] #[], .string ⟨#[114, 101, 115, 101, 116]⟩, .int .i64 0, .int .i64 0] W fun e w' => e = .returned (.bool true) ∧ Below W.heap.size W w') := fun W h => reset_law s cv tv gv W (Grd.Tab.next hT h) (hV.next h) hB
  obtain ⟨ca, cc, rfl⟩ := hV.c.shape
  obtain ⟨ta, tc, rfl⟩ := hV.t.slice
  obtain ⟨ga, gc, rfl⟩ := hV.g.slice
  have hkb : Below w.heap.size w (((w.alloc (.cells (scrA s (.slice ca s.cs.length cc) (.slice ta s.tabs.length tc) (.slice ga s.gone.length gc)) 32)).alloc (.cells #[.slice pl nl cl] 43)).alloc (.cells #[.string t] 9)) := ((((Below.refl _ _).alloc (by simp) _).alloc (by simp) _).alloc (by simp; omega) _)
  have hx0 : (w.alloc (.cells (scrA s (.slice ca s.cs.length cc) (.slice ta s.tabs.length tc) (.slice ga s.gone.length gc)) 32)).heap[w.heap.size]? = some (.cells (scrA s (.slice ca s.cs.length cc) (.slice ta s.tabs.length tc) (.slice ga s.gone.length gc)) 32 (0, 0)) := by
    have h := heap_alloc_new w (.cells (scrA s (.slice ca s.cs.length cc) (.slice ta s.tabs.length tc) (.slice ga s.gone.length gc)) 32)
    have e : w.heap.size = w.heap.size := by simp
    rw [e] at h
    exact h
  have hx0 := (Below.heap_alloc (w.alloc (.cells (scrA s (.slice ca s.cs.length cc) (.slice ta s.tabs.length tc) (.slice ga s.gone.length gc)) 32)) (.cells #[.slice pl nl cl] 43) _ (heap_lt hx0)).trans hx0
  have hx0 := (Below.heap_alloc ((w.alloc (.cells (scrA s (.slice ca s.cs.length cc) (.slice ta s.tabs.length tc) (.slice ga s.gone.length gc)) 32)).alloc (.cells #[.slice pl nl cl] 43)) (.cells #[.string t] 9) _ (heap_lt hx0)).trans hx0
  have hx1 : ((w.alloc (.cells (scrA s (.slice ca s.cs.length cc) (.slice ta s.tabs.length tc) (.slice ga s.gone.length gc)) 32)).alloc (.cells #[.slice pl nl cl] 43)).heap[w.heap.size + 1]? = some (.cells #[.slice pl nl cl] 43 (0, 0)) := by
    have h := heap_alloc_new (w.alloc (.cells (scrA s (.slice ca s.cs.length cc) (.slice ta s.tabs.length tc) (.slice ga s.gone.length gc)) 32)) (.cells #[.slice pl nl cl] 43)
    have e : (w.alloc (.cells (scrA s (.slice ca s.cs.length cc) (.slice ta s.tabs.length tc) (.slice ga s.gone.length gc)) 32)).heap.size = w.heap.size + 1 := by simp
    rw [e] at h
    exact h
  have hx1 := (Below.heap_alloc ((w.alloc (.cells (scrA s (.slice ca s.cs.length cc) (.slice ta s.tabs.length tc) (.slice ga s.gone.length gc)) 32)).alloc (.cells #[.slice pl nl cl] 43)) (.cells #[.string t] 9) _ (heap_lt hx1)).trans hx1
  have hx2 : (((w.alloc (.cells (scrA s (.slice ca s.cs.length cc) (.slice ta s.tabs.length tc) (.slice ga s.gone.length gc)) 32)).alloc (.cells #[.slice pl nl cl] 43)).alloc (.cells #[.string t] 9)).heap[w.heap.size + 2]? = some (.cells #[.string t] 9 (0, 0)) := by
    have h := heap_alloc_new ((w.alloc (.cells (scrA s (.slice ca s.cs.length cc) (.slice ta s.tabs.length tc) (.slice ga s.gone.length gc)) 32)).alloc (.cells #[.slice pl nl cl] 43)) (.cells #[.string t] 9)
    have e : ((w.alloc (.cells (scrA s (.slice ca s.cs.length cc) (.slice ta s.tabs.length tc) (.slice ga s.gone.length gc)) 32)).alloc (.cells #[.slice pl nl cl] 43)).heap.size = w.heap.size + 2 := by simp
    rw [e] at h
    exact h
  have HX0 : Hid _ := hx0
  have HKB : Hid _ := hkb
  have q1 := cell_box hx1
  have q2 := cell_box hx2
  have HQ1 : Hid _ := q1
  have HQ2 : Hid _ := q2
  clear hkb hV hx0 hx1 hx2 hT hB q1 q2 hS hI ht
  go_enter Tryz.func7, Tryz.ntmps7
  go_upto_region 3 with fail
  generalize (((w.alloc (.cells (scrA s (.slice ca s.cs.length cc) (.slice ta s.tabs.length tc) (.slice ga s.gone.length gc)) 32)).alloc (.cells #[.slice pl nl cl] 43)).alloc (.cells #[.string t] 9)) = X at *
  go_wp2_with (refine wpList_load_row rfl 32 (.tmp 3) rfl w.heap.size rfl _ _ _ _ HX0.out Tryz.underlying32 rfl (by kernel_rfl) ?_)
  refine (HC1.out _ _ HKB.out HQ1.out).mono ?_
  rintro e V1 ⟨rfl, b1⟩
  have HB1 : Hid (Below w.heap.size w V1) := HKB.out.trans (b1.mono HKB.out.size)
  have HX1 : Hid (V1.heap[w.heap.size]? = _) := Grd.carry HX0.out b1
  have HR2 : Hid (V1.cell? _ = _) := cell_stay b1 HQ2.out
  clear b1 HQ1 HQ2
  go_wp2_with (refine BigFrame.wpList_want rfl fun K hK => wp_load_row 32 (.tmp 3) rfl w.heap.size rfl _ _ _ _ HX1.out Tryz.underlying32 rfl (by kernel_rfl) (hK _ _ ?_))
  refine (HC2.out _ _ HB1.out HR2.out).mono ?_
  rintro e V2 ⟨rfl, b2⟩
  have HB2 : Hid (Below w.heap.size w V2) := HB1.out.trans (b2.mono HB1.out.size)
  have HX2 : Hid (V2.heap[w.heap.size]? = _) := Grd.carry HX1.out b2
  clear b2 HR2
  go_wp2_with (refine BigFrame.wpList_want rfl fun K hK => wp_load_row 32 (.tmp 3) rfl w.heap.size rfl _ _ _ _ HX2.out Tryz.underlying32 rfl (by kernel_rfl) (hK _ _ ?_))
  refine (HC3.out _ HB2.out).mono ?_
  rintro e V3 ⟨rfl, b3⟩
  have HB3 : Hid (Below w.heap.size w V3) := HB2.out.trans (b3.mono HB2.out.size)
  clear b3
  go_wp2_with fail
  go_ret
  exact ⟨rfl, HB3.out⟩
end Put
end Go.Proofs.YtnkeahfcpbepjaaGreatDoor
