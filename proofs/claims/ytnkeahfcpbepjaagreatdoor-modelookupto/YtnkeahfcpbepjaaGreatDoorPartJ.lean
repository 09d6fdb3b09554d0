/- Package mode: the calls that hand a closure on. (Written by gen_call.py.) -/
import Derived.Test.YtnkeahfcpbepjaaGreatDoorPartI
import Derived.Test.YtnkeahfcpbepjaaGreatDoorPartG
import Derived.Test.YtnkeahfcpbepjaaGreatDoorPartH
import Derived.Test.YtnkeahfcpbepjaaGreatDoorPartF
import Derived.Deep.RegionWith
import Derived.BigRegion
namespace Go.Proofs.YtnkeahfcpbepjaaGreatDoor
set_option linter.unusedVariables false
open Go.ChangeShapes Go.WideShapes Go.ChangeAt Go.RowKit
namespace Put
open Grd (C)
theorem cell_onem {W : World} {R : Nat} {v : Value} {t : TypeId} (h : W.heap[R]? = some (.cells #[v] t (0, 0))) : W.cell? ⟨R, 0, none⟩ = some v := by simp [World.cell?, h]
set_option maxHeartbeats 2000000 in
set_option maxRecDepth 100000 in
theorem modeSave_calls (s s' : Scr) (cv tv gv : Value) (er : Int) (w0 w : World) (hV : ScrV w0 s cv tv gv) (hM : w0.heap.size ≤ w.heap.size)
    (hC : ∀ (W : World) (_B : Nat), Below w.heap.size w W → Calls Tryz.prog 52 #[.agg (scrA s cv tv gv), .func (.func 56) #[] #[]] W (Made w0 W s' er)) :
    Calls Tryz.prog 20 #[.agg (scrA s cv tv gv)] w (Made w0 w s' er) := by
  obtain ⟨ca, cc, rfl⟩ := hV.c.shape
  obtain ⟨ta, tc, rfl⟩ := hV.t.slice
  obtain ⟨ga, gc, rfl⟩ := hV.g.slice
  have hkb : Below w.heap.size w ((w.alloc (.cells (scrA s (.slice ca s.cs.length cc) (.slice ta s.tabs.length tc) (.slice ga s.gone.length gc)) 32)).alloc (.cells #[.int .i64 0, .int .i64 0, .slice none 0 0, .int .i64 0, .int .i64 0, .bool false, .int .i64 0, .int .i64 0, .int .i64 0, .int .i64 0, .int .i64 0, .int .i64 0, .slice none 0 0, .int .i64 0, .int .i64 0, .int .i64 0, .int .i64 0, .int .i64 0, .int .i64 0, .int .i32 0, .string ⟨#[]⟩, .slice none 0 0] 32)) := (((Below.refl _ _).alloc (by simp) _).alloc (by simp) _)
  have hx0 : (w.alloc (.cells (scrA s (.slice ca s.cs.length cc) (.slice ta s.tabs.length tc) (.slice ga s.gone.length gc)) 32)).heap[w.heap.size]? = some (.cells (scrA s (.slice ca s.cs.length cc) (.slice ta s.tabs.length tc) (.slice ga s.gone.length gc)) 32 (0, 0)) := by
    have h := heap_alloc_new w (.cells (scrA s (.slice ca s.cs.length cc) (.slice ta s.tabs.length tc) (.slice ga s.gone.length gc)) 32)
    have e : w.heap.size = w.heap.size := by simp
    rw [e] at h
    exact h
  have hx0 := (Below.heap_alloc (w.alloc (.cells (scrA s (.slice ca s.cs.length cc) (.slice ta s.tabs.length tc) (.slice ga s.gone.length gc)) 32)) (.cells #[.int .i64 0, .int .i64 0, .slice none 0 0, .int .i64 0, .int .i64 0, .bool false, .int .i64 0, .int .i64 0, .int .i64 0, .int .i64 0, .int .i64 0, .int .i64 0, .slice none 0 0, .int .i64 0, .int .i64 0, .int .i64 0, .int .i64 0, .int .i64 0, .int .i64 0, .int .i32 0, .string ⟨#[]⟩, .slice none 0 0] 32) _ (heap_lt hx0)).trans hx0
  have hx1 : ((w.alloc (.cells (scrA s (.slice ca s.cs.length cc) (.slice ta s.tabs.length tc) (.slice ga s.gone.length gc)) 32)).alloc (.cells #[.int .i64 0, .int .i64 0, .slice none 0 0, .int .i64 0, .int .i64 0, .bool false, .int .i64 0, .int .i64 0, .int .i64 0, .int .i64 0, .int .i64 0, .int .i64 0, .slice none 0 0, .int .i64 0, .int .i64 0, .int .i64 0, .int .i64 0, .int .i64 0, .int .i64 0, .int .i32 0, .string ⟨#[]⟩, .slice none 0 0] 32)).heap[w.heap.size + 1]? = some (.cells #[.int .i64 0, .int .i64 0, .slice none 0 0, .int .i64 0, .int .i64 0, .bool false, .int .i64 0, .int .i64 0, .int .i64 0, .int .i64 0, .int .i64 0, .int .i64 0, .slice none 0 0, .int .i64 0, .int .i64 0, .int .i64 0, .int .i64 0, .int .i64 0, .int .i64 0, .int .i32 0, .string ⟨#[]⟩, .slice none 0 0] 32 (0, 0)) := by
    have h := heap_alloc_new (w.alloc (.cells (scrA s (.slice ca s.cs.length cc) (.slice ta s.tabs.length tc) (.slice ga s.gone.length gc)) 32)) (.cells #[.int .i64 0, .int .i64 0, .slice none 0 0, .int .i64 0, .int .i64 0, .bool false, .int .i64 0, .int .i64 0, .int .i64 0, .int .i64 0, .int .i64 0, .int .i64 0, .slice none 0 0, .int .i64 0, .int .i64 0, .int .i64 0, .int .i64 0, .int .i64 0, .int .i64 0, .int .i32 0, .string ⟨#[]⟩, .slice none 0 0] 32)
    have e : (w.alloc (.cells (scrA s (.slice ca s.cs.length cc) (.slice ta s.tabs.length tc) (.slice ga s.gone.length gc)) 32)).heap.size = w.heap.size + 1 := by simp
    rw [e] at h
    exact h
  have HX0 : Hid _ := hx0
  have HXR : Hid _ := hx1
  have HKB : Hid _ := hkb
  have HC := hC _ 0 hkb
  have hsz : w.heap.size ≤ ((w.alloc (.cells (scrA s (.slice ca s.cs.length cc) (.slice ta s.tabs.length tc) (.slice ga s.gone.length gc)) 32)).alloc (.cells #[.int .i64 0, .int .i64 0, .slice none 0 0, .int .i64 0, .int .i64 0, .bool false, .int .i64 0, .int .i64 0, .int .i64 0, .int .i64 0, .int .i64 0, .int .i64 0, .slice none 0 0, .int .i64 0, .int .i64 0, .int .i64 0, .int .i64 0, .int .i64 0, .int .i64 0, .int .i32 0, .string ⟨#[]⟩, .slice none 0 0] 32)).heap.size := hkb.size
  clear hkb hV hC hx0 hx1
  go_enter Tryz.func20, Tryz.ntmps20
  go_upto_region 1 with fail
  generalize ((w.alloc (.cells (scrA s (.slice ca s.cs.length cc) (.slice ta s.tabs.length tc) (.slice ga s.gone.length gc)) 32)).alloc (.cells #[.int .i64 0, .int .i64 0, .slice none 0 0, .int .i64 0, .int .i64 0, .bool false, .int .i64 0, .int .i64 0, .int .i64 0, .int .i64 0, .int .i64 0, .int .i64 0, .slice none 0 0, .int .i64 0, .int .i64 0, .int .i64 0, .int .i64 0, .int .i64 0, .int .i64 0, .int .i32 0, .string ⟨#[]⟩, .slice none 0 0] 32)) = X at *
  go_wp2_with (refine wpList_load_row rfl 32 (.tmp 1) rfl w.heap.size rfl _ _ _ _ HX0.out Tryz.underlying32 rfl (by kernel_rfl) ?_)
  refine HC.mono ?_
  rintro e V ⟨cv', tv', gv', rfl, hO, c2⟩
  obtain ⟨a1, n1, c1, a2, n2, c2', a3, n3, c3, rfl, rfl, rfl⟩ := hO.shapes
  have HO : Hid (ScrO V 0 _ s' _ _ _) := hO
  have HR : Hid (V.heap[w.heap.size + 1]? = _) := Grd.carry HXR.out c2
  have HB : Hid (Below w.heap.size w V) := HKB.out.trans (c2.mono HKB.out.size)
  clear hO c2 HC
  go_wp2_with (refine wpList_store_row rfl 32 (.tmp 2) (.tmp 6) rfl (w.heap.size + 1) (scrA s' (.slice a1 n1 c1) (.slice a2 n2 c2') (.slice a3 n3 c3)) rfl rfl _ _ HR.out (by kernel_rfl) rfl (scr_one _ _ _ _ _ _ _ _ _ _) ?_)
  (try simp only [Exit.inBlock, Exit.then])
  refine bodyPost_ret (v := .tuple #[.agg (scrA s' (.slice a1 n1 c1) (.slice a2 n2 c2') (.slice a3 n3 c3)), .int .i64 er]) ?_ rfl ⟨_, _, _, rfl, ?_, below_setRow HB.out (by omega) _⟩
  · exact Grd.results_row_tmp rfl _ _ (w.heap.size + 1) _ _ _ _ rfl (setRow_heap _ _ _ _ _ _ HR.out) Tryz.underlying32 rfl (by kernel_rfl) _ rfl
  · exact (ScrO.off HO.out HR.out screen_is (by omega) fun k hk => setRow_other _ _ _ _ hk).mono hsz
set_option maxHeartbeats 2000000 in
set_option maxRecDepth 100000 in
theorem modeRestore_calls (s s' : Scr) (cv tv gv : Value) (er : Int) (w0 w : World) (hV : ScrV w0 s cv tv gv) (hM : w0.heap.size ≤ w.heap.size)
    (hC : ∀ (W : World) (_B : Nat), Below w.heap.size w W → Calls Tryz.prog 52 #[.agg (scrA s cv tv gv), .func (.func 57) #[] #[]] W (Made w0 W s' er)) :
    Calls Tryz.prog 21 #[.agg (scrA s cv tv gv)] w (Made w0 w s' er) := by
  obtain ⟨ca, cc, rfl⟩ := hV.c.shape
  obtain ⟨ta, tc, rfl⟩ := hV.t.slice
  obtain ⟨ga, gc, rfl⟩ := hV.g.slice
  have hkb : Below w.heap.size w ((w.alloc (.cells (scrA s (.slice ca s.cs.length cc) (.slice ta s.tabs.length tc) (.slice ga s.gone.length gc)) 32)).alloc (.cells #[.int .i64 0, .int .i64 0, .slice none 0 0, .int .i64 0, .int .i64 0, .bool false, .int .i64 0, .int .i64 0, .int .i64 0, .int .i64 0, .int .i64 0, .int .i64 0, .slice none 0 0, .int .i64 0, .int .i64 0, .int .i64 0, .int .i64 0, .int .i64 0, .int .i64 0, .int .i32 0, .string ⟨#[]⟩, .slice none 0 0] 32)) := (((Below.refl _ _).alloc (by simp) _).alloc (by simp) _)
  have hx0 : (w.alloc (.cells (scrA s (.slice ca s.cs.length cc) (.slice ta s.tabs.length tc) (.slice ga s.gone.length gc)) 32)).heap[w.heap.size]? = some (.cells (scrA s (.slice ca s.cs.length cc) (.slice ta s.tabs.length tc) (.slice ga s.gone.length gc)) 32 (0, 0)) := by
    have h := heap_alloc_new w (.cells (scrA s (.slice ca s.cs.length cc) (.slice ta s.tabs.length tc) (.slice ga s.gone.length gc)) 32)
    have e : w.heap.size = w.heap.size := by simp
    rw [e] at h
    exact h
  have hx0 := (Below.heap_alloc (w.alloc (.cells (scrA s (.slice ca s.cs.length cc) (.slice ta s.tabs.length tc) (.slice ga s.gone.length gc)) 32)) (.cells #[.int .i64 0, .int .i64 0, .slice none 0 0, .int .i64 0, .int .i64 0, .bool false, .int .i64 0, .int .i64 0, .int .i64 0, .int .i64 0, .int .i64 0, .int .i64 0, .slice none 0 0, .int .i64 0, .int .i64 0, .int .i64 0, .int .i64 0, .int .i64 0, .int .i64 0, .int .i32 0, .string ⟨#[]⟩, .slice none 0 0] 32) _ (heap_lt hx0)).trans hx0
  have hx1 : ((w.alloc (.cells (scrA s (.slice ca s.cs.length cc) (.slice ta s.tabs.length tc) (.slice ga s.gone.length gc)) 32)).alloc (.cells #[.int .i64 0, .int .i64 0, .slice none 0 0, .int .i64 0, .int .i64 0, .bool false, .int .i64 0, .int .i64 0, .int .i64 0, .int .i64 0, .int .i64 0, .int .i64 0, .slice none 0 0, .int .i64 0, .int .i64 0, .int .i64 0, .int .i64 0, .int .i64 0, .int .i64 0, .int .i32 0, .string ⟨#[]⟩, .slice none 0 0] 32)).heap[w.heap.size + 1]? = some (.cells #[.int .i64 0, .int .i64 0, .slice none 0 0, .int .i64 0, .int .i64 0, .bool false, .int .i64 0, .int .i64 0, .int .i64 0, .int .i64 0, .int .i64 0, .int .i64 0, .slice none 0 0, .int .i64 0, .int .i64 0, .int .i64 0, .int .i64 0, .int .i64 0, .int .i64 0, .int .i32 0, .string ⟨#[]⟩, .slice none 0 0] 32 (0, 0)) := by
    have h := heap_alloc_new (w.alloc (.cells (scrA s (.slice ca s.cs.length cc) (.slice ta s.tabs.length tc) (.slice ga s.gone.length gc)) 32)) (.cells #[.int .i64 0, .int .i64 0, .slice none 0 0, .int .i64 0, .int .i64 0, .bool false, .int .i64 0, .int .i64 0, .int .i64 0, .int .i64 0, .int .i64 0, .int .i64 0, .slice none 0 0, .int .i64 0, .int .i64 0, .int .i64 0, .int .i64 0, .int .i64 0, .int .i64 0, .int .i32 0, .string ⟨#[]⟩, .slice none 0 0] 32)
    have e : (w.alloc (.cells (scrA s (.slice ca s.cs.length cc) (.slice ta s.tabs.length tc) (.slice ga s.gone.length gc)) 32)).heap.size = w.heap.size + 1 := by simp
    rw [e] at h
    exact h
  have HX0 : Hid _ := hx0
  have HXR : Hid _ := hx1
  have HKB : Hid _ := hkb
  have HC := hC _ 0 hkb
  have hsz : w.heap.size ≤ ((w.alloc (.cells (scrA s (.slice ca s.cs.length cc) (.slice ta s.tabs.length tc) (.slice ga s.gone.length gc)) 32)).alloc (.cells #[.int .i64 0, .int .i64 0, .slice none 0 0, .int .i64 0, .int .i64 0, .bool false, .int .i64 0, .int .i64 0, .int .i64 0, .int .i64 0, .int .i64 0, .int .i64 0, .slice none 0 0, .int .i64 0, .int .i64 0, .int .i64 0, .int .i64 0, .int .i64 0, .int .i64 0, .int .i32 0, .string ⟨#[]⟩, .slice none 0 0] 32)).heap.size := hkb.size
  clear hkb hV hC hx0 hx1
  go_enter Tryz.func21, Tryz.ntmps21
  go_upto_region 1 with fail
  generalize ((w.alloc (.cells (scrA s (.slice ca s.cs.length cc) (.slice ta s.tabs.length tc) (.slice ga s.gone.length gc)) 32)).alloc (.cells #[.int .i64 0, .int .i64 0, .slice none 0 0, .int .i64 0, .int .i64 0, .bool false, .int .i64 0, .int .i64 0, .int .i64 0, .int .i64 0, .int .i64 0, .int .i64 0, .slice none 0 0, .int .i64 0, .int .i64 0, .int .i64 0, .int .i64 0, .int .i64 0, .int .i64 0, .int .i32 0, .string ⟨#[]⟩, .slice none 0 0] 32)) = X at *
  go_wp2_with (refine wpList_load_row rfl 32 (.tmp 1) rfl w.heap.size rfl _ _ _ _ HX0.out Tryz.underlying32 rfl (by kernel_rfl) ?_)
  refine HC.mono ?_
  rintro e V ⟨cv', tv', gv', rfl, hO, c2⟩
  obtain ⟨a1, n1, c1, a2, n2, c2', a3, n3, c3, rfl, rfl, rfl⟩ := hO.shapes
  have HO : Hid (ScrO V 0 _ s' _ _ _) := hO
  have HR : Hid (V.heap[w.heap.size + 1]? = _) := Grd.carry HXR.out c2
  have HB : Hid (Below w.heap.size w V) := HKB.out.trans (c2.mono HKB.out.size)
  clear hO c2 HC
  go_wp2_with (refine wpList_store_row rfl 32 (.tmp 2) (.tmp 6) rfl (w.heap.size + 1) (scrA s' (.slice a1 n1 c1) (.slice a2 n2 c2') (.slice a3 n3 c3)) rfl rfl _ _ HR.out (by kernel_rfl) rfl (scr_one _ _ _ _ _ _ _ _ _ _) ?_)
  (try simp only [Exit.inBlock, Exit.then])
  refine bodyPost_ret (v := .tuple #[.agg (scrA s' (.slice a1 n1 c1) (.slice a2 n2 c2') (.slice a3 n3 c3)), .int .i64 er]) ?_ rfl ⟨_, _, _, rfl, ?_, below_setRow HB.out (by omega) _⟩
  · exact Grd.results_row_tmp rfl _ _ (w.heap.size + 1) _ _ _ _ rfl (setRow_heap _ _ _ _ _ _ HR.out) Tryz.underlying32 rfl (by kernel_rfl) _ rfl
  · exact (ScrO.off HO.out HR.out screen_is (by omega) fun k hk => setRow_other _ _ _ _ hk).mono hsz
set_option maxHeartbeats 2000000 in
set_option maxRecDepth 100000 in
theorem modeReset_calls (s s' : Scr) (cv tv gv : Value) (er : Int) (w0 w : World) (hV : ScrV w0 s cv tv gv) (hM : w0.heap.size ≤ w.heap.size)
    (hC : ∀ (W : World) (_B : Nat), Below w.heap.size w W → Calls Tryz.prog 52 #[.agg (scrA s cv tv gv), .func (.func 70) #[] #[]] W (Made w0 W s' er)) :
    Calls Tryz.prog 31 #[.agg (scrA s cv tv gv)] w (Made w0 w s' er) := by
  obtain ⟨ca, cc, rfl⟩ := hV.c.shape
  obtain ⟨ta, tc, rfl⟩ := hV.t.slice
  obtain ⟨ga, gc, rfl⟩ := hV.g.slice
  have hkb : Below w.heap.size w ((w.alloc (.cells (scrA s (.slice ca s.cs.length cc) (.slice ta s.tabs.length tc) (.slice ga s.gone.length gc)) 32)).alloc (.cells #[.int .i64 0, .int .i64 0, .slice none 0 0, .int .i64 0, .int .i64 0, .bool false, .int .i64 0, .int .i64 0, .int .i64 0, .int .i64 0, .int .i64 0, .int .i64 0, .slice none 0 0, .int .i64 0, .int .i64 0, .int .i64 0, .int .i64 0, .int .i64 0, .int .i64 0, .int .i32 0, .string ⟨#[]⟩, .slice none 0 0] 32)) := (((Below.refl _ _).alloc (by simp) _).alloc (by simp) _)
  have hx0 : (w.alloc (.cells (scrA s (.slice ca s.cs.length cc) (.slice ta s.tabs.length tc) (.slice ga s.gone.length gc)) 32)).heap[w.heap.size]? = some (.cells (scrA s (.slice ca s.cs.length cc) (.slice ta s.tabs.length tc) (.slice ga s.gone.length gc)) 32 (0, 0)) := by
    have h := heap_alloc_new w (.cells (scrA s (.slice ca s.cs.length cc) (.slice ta s.tabs.length tc) (.slice ga s.gone.length gc)) 32)
    have e : w.heap.size = w.heap.size := by simp
    rw [e] at h
    exact h
  have hx0 := (Below.heap_alloc (w.alloc (.cells (scrA s (.slice ca s.cs.length cc) (.slice ta s.tabs.length tc) (.slice ga s.gone.length gc)) 32)) (.cells #[.int .i64 0, .int .i64 0, .slice none 0 0, .int .i64 0, .int .i64 0, .bool false, .int .i64 0, .int .i64 0, .int .i64 0, .int .i64 0, .int .i64 0, .int .i64 0, .slice none 0 0, .int .i64 0, .int .i64 0, .int .i64 0, .int .i64 0, .int .i64 0, .int .i64 0, .int .i32 0, .string ⟨#[]⟩, .slice none 0 0] 32) _ (heap_lt hx0)).trans hx0
  have hx1 : ((w.alloc (.cells (scrA s (.slice ca s.cs.length cc) (.slice ta s.tabs.length tc) (.slice ga s.gone.length gc)) 32)).alloc (.cells #[.int .i64 0, .int .i64 0, .slice none 0 0, .int .i64 0, .int .i64 0, .bool false, .int .i64 0, .int .i64 0, .int .i64 0, .int .i64 0, .int .i64 0, .int .i64 0, .slice none 0 0, .int .i64 0, .int .i64 0, .int .i64 0, .int .i64 0, .int .i64 0, .int .i64 0, .int .i32 0, .string ⟨#[]⟩, .slice none 0 0] 32)).heap[w.heap.size + 1]? = some (.cells #[.int .i64 0, .int .i64 0, .slice none 0 0, .int .i64 0, .int .i64 0, .bool false, .int .i64 0, .int .i64 0, .int .i64 0, .int .i64 0, .int .i64 0, .int .i64 0, .slice none 0 0, .int .i64 0, .int .i64 0, .int .i64 0, .int .i64 0, .int .i64 0, .int .i64 0, .int .i32 0, .string ⟨#[]⟩, .slice none 0 0] 32 (0, 0)) := by
    have h := heap_alloc_new (w.alloc (.cells (scrA s (.slice ca s.cs.length cc) (.slice ta s.tabs.length tc) (.slice ga s.gone.length gc)) 32)) (.cells #[.int .i64 0, .int .i64 0, .slice none 0 0, .int .i64 0, .int .i64 0, .bool false, .int .i64 0, .int .i64 0, .int .i64 0, .int .i64 0, .int .i64 0, .int .i64 0, .slice none 0 0, .int .i64 0, .int .i64 0, .int .i64 0, .int .i64 0, .int .i64 0, .int .i64 0, .int .i32 0, .string ⟨#[]⟩, .slice none 0 0] 32)
    have e : (w.alloc (.cells (scrA s (.slice ca s.cs.length cc) (.slice ta s.tabs.length tc) (.slice ga s.gone.length gc)) 32)).heap.size = w.heap.size + 1 := by simp
    rw [e] at h
    exact h
  have HX0 : Hid _ := hx0
  have HXR : Hid _ := hx1
  have HKB : Hid _ := hkb
  have HC := hC _ 0 hkb
  have hsz : w.heap.size ≤ ((w.alloc (.cells (scrA s (.slice ca s.cs.length cc) (.slice ta s.tabs.length tc) (.slice ga s.gone.length gc)) 32)).alloc (.cells #[.int .i64 0, .int .i64 0, .slice none 0 0, .int .i64 0, .int .i64 0, .bool false, .int .i64 0, .int .i64 0, .int .i64 0, .int .i64 0, .int .i64 0, .int .i64 0, .slice none 0 0, .int .i64 0, .int .i64 0, .int .i64 0, .int .i64 0, .int .i64 0, .int .i64 0, .int .i32 0, .string ⟨#[]⟩, .slice none 0 0] 32)).heap.size := hkb.size
  clear hkb hV hC hx0 hx1
  go_enter Tryz.func31, Tryz.ntmps31
  go_upto_region 1 with fail
  generalize ((w.alloc (.cells (scrA s (.slice ca s.cs.length cc) (.slice ta s.tabs.length tc) (.slice ga s.gone.length gc)) 32)).alloc (.cells #[.int .i64 0, .int .i64 0, .slice none 0 0, .int .i64 0, .int .i64 0, .bool false, .int .i64 0, .int .i64 0, .int .i64 0, .int .i64 0, .int .i64 0, .int .i64 0, .slice none 0 0, .int .i64 0, .int .i64 0, .int .i64 0, .int .i64 0, .int .i64 0, .int .i64 0, .int .i32 0, .string ⟨#[]⟩, .slice none 0 0] 32)) = X at *
  go_wp2_with (refine wpList_load_row rfl 32 (.tmp 1) rfl w.heap.size rfl _ _ _ _ HX0.out Tryz.underlying32 rfl (by kernel_rfl) ?_)
  refine HC.mono ?_
  rintro e V ⟨cv', tv', gv', rfl, hO, c2⟩
  obtain ⟨a1, n1, c1, a2, n2, c2', a3, n3, c3, rfl, rfl, rfl⟩ := hO.shapes
  have HO : Hid (ScrO V 0 _ s' _ _ _) := hO
  have HR : Hid (V.heap[w.heap.size + 1]? = _) := Grd.carry HXR.out c2
  have HB : Hid (Below w.heap.size w V) := HKB.out.trans (c2.mono HKB.out.size)
  clear hO c2 HC
  go_wp2_with (refine wpList_store_row rfl 32 (.tmp 2) (.tmp 6) rfl (w.heap.size + 1) (scrA s' (.slice a1 n1 c1) (.slice a2 n2 c2') (.slice a3 n3 c3)) rfl rfl _ _ HR.out (by kernel_rfl) rfl (scr_one _ _ _ _ _ _ _ _ _ _) ?_)
  (try simp only [Exit.inBlock, Exit.then])
  refine bodyPost_ret (v := .tuple #[.agg (scrA s' (.slice a1 n1 c1) (.slice a2 n2 c2') (.slice a3 n3 c3)), .int .i64 er]) ?_ rfl ⟨_, _, _, rfl, ?_, below_setRow HB.out (by omega) _⟩
  · exact Grd.results_row_tmp rfl _ _ (w.heap.size + 1) _ _ _ _ rfl (setRow_heap _ _ _ _ _ _ HR.out) Tryz.underlying32 rfl (by kernel_rfl) _ rfl
  · exact (ScrO.off HO.out HR.out screen_is (by omega) fun k hk => setRow_other _ _ _ _ hk).mono hsz
set_option maxHeartbeats 2000000 in
set_option maxRecDepth 100000 in
theorem modeLook_calls (s s' : Scr) (cv tv gv : Value) (pl : Option Addr) (nl cl : Nat) (er : Int) (w0 w : World) (hV : ScrV w0 s cv tv gv) (hM : w0.heap.size ≤ w.heap.size)
    (hC : ∀ (W : World) (B1 : Nat), Below w.heap.size w W → W.cell? ⟨B1, 0, none⟩ = some (.slice pl nl cl) → Calls Tryz.prog 52 #[.agg (scrA s cv tv gv), .func (.func 58) #[] #[.pointer (some ⟨B1, 0, none⟩)]] W (Made w0 W s' er)) :
    Calls Tryz.prog 23 #[.agg (scrA s cv tv gv), .slice pl nl cl] w (Made w0 w s' er) := by
  obtain ⟨ca, cc, rfl⟩ := hV.c.shape
  obtain ⟨ta, tc, rfl⟩ := hV.t.slice
  obtain ⟨ga, gc, rfl⟩ := hV.g.slice
  have hkb : Below w.heap.size w (((w.alloc (.cells (scrA s (.slice ca s.cs.length cc) (.slice ta s.tabs.length tc) (.slice ga s.gone.length gc)) 32)).alloc (.cells #[.slice pl nl cl] 43)).alloc (.cells #[.int .i64 0, .int .i64 0, .slice none 0 0, .int .i64 0, .int .i64 0, .bool false, .int .i64 0, .int .i64 0, .int .i64 0, .int .i64 0, .int .i64 0, .int .i64 0, .slice none 0 0, .int .i64 0, .int .i64 0, .int .i64 0, .int .i64 0, .int .i64 0, .int .i64 0, .int .i32 0, .string ⟨#[]⟩, .slice none 0 0] 32)) := ((((Below.refl _ _).alloc (by simp) _).alloc (by simp) _).alloc (by simp; omega) _)
  have hx0 : (w.alloc (.cells (scrA s (.slice ca s.cs.length cc) (.slice ta s.tabs.length tc) (.slice ga s.gone.length gc)) 32)).heap[w.heap.size]? = some (.cells (scrA s (.slice ca s.cs.length cc) (.slice ta s.tabs.length tc) (.slice ga s.gone.length gc)) 32 (0, 0)) := by
    have h := heap_alloc_new w (.cells (scrA s (.slice ca s.cs.length cc) (.slice ta s.tabs.length tc) (.slice ga s.gone.length gc)) 32)
    have e : w.heap.size = w.heap.size := by simp
    rw [e] at h
    exact h
  have hx0 := (Below.heap_alloc (w.alloc (.cells (scrA s (.slice ca s.cs.length cc) (.slice ta s.tabs.length tc) (.slice ga s.gone.length gc)) 32)) (.cells #[.slice pl nl cl] 43) _ (heap_lt hx0)).trans hx0
  have hx0 := (Below.heap_alloc ((w.alloc (.cells (scrA s (.slice ca s.cs.length cc) (.slice ta s.tabs.length tc) (.slice ga s.gone.length gc)) 32)).alloc (.cells #[.slice pl nl cl] 43)) (.cells #[.int .i64 0, .int .i64 0, .slice none 0 0, .int .i64 0, .int .i64 0, .bool false, .int .i64 0, .int .i64 0, .int .i64 0, .int .i64 0, .int .i64 0, .int .i64 0, .slice none 0 0, .int .i64 0, .int .i64 0, .int .i64 0, .int .i64 0, .int .i64 0, .int .i64 0, .int .i32 0, .string ⟨#[]⟩, .slice none 0 0] 32) _ (heap_lt hx0)).trans hx0
  have hx1 : ((w.alloc (.cells (scrA s (.slice ca s.cs.length cc) (.slice ta s.tabs.length tc) (.slice ga s.gone.length gc)) 32)).alloc (.cells #[.slice pl nl cl] 43)).heap[w.heap.size + 1]? = some (.cells #[.slice pl nl cl] 43 (0, 0)) := by
    have h := heap_alloc_new (w.alloc (.cells (scrA s (.slice ca s.cs.length cc) (.slice ta s.tabs.length tc) (.slice ga s.gone.length gc)) 32)) (.cells #[.slice pl nl cl] 43)
    have e : (w.alloc (.cells (scrA s (.slice ca s.cs.length cc) (.slice ta s.tabs.length tc) (.slice ga s.gone.length gc)) 32)).heap.size = w.heap.size + 1 := by simp
    rw [e] at h
    exact h
  have hx1 := (Below.heap_alloc ((w.alloc (.cells (scrA s (.slice ca s.cs.length cc) (.slice ta s.tabs.length tc) (.slice ga s.gone.length gc)) 32)).alloc (.cells #[.slice pl nl cl] 43)) (.cells #[.int .i64 0, .int .i64 0, .slice none 0 0, .int .i64 0, .int .i64 0, .bool false, .int .i64 0, .int .i64 0, .int .i64 0, .int .i64 0, .int .i64 0, .int .i64 0, .slice none 0 0, .int .i64 0, .int .i64 0, .int .i64 0, .int .i64 0, .int .i64 0, .int .i64 0, .int .i32 0, .string ⟨#[]⟩, .slice none 0 0] 32) _ (heap_lt hx1)).trans hx1
  have hx2 : (((w.alloc (.cells (scrA s (.slice ca s.cs.length cc) (.slice ta s.tabs.length tc) (.slice ga s.gone.length gc)) 32)).alloc (.cells #[.slice pl nl cl] 43)).alloc (.cells #[.int .i64 0, .int .i64 0, .slice none 0 0, .int .i64 0, .int .i64 0, .bool false, .int .i64 0, .int .i64 0, .int .i64 0, .int .i64 0, .int .i64 0, .int .i64 0, .slice none 0 0, .int .i64 0, .int .i64 0, .int .i64 0, .int .i64 0, .int .i64 0, .int .i64 0, .int .i32 0, .string ⟨#[]⟩, .slice none 0 0] 32)).heap[w.heap.size + 2]? = some (.cells #[.int .i64 0, .int .i64 0, .slice none 0 0, .int .i64 0, .int .i64 0, .bool false, .int .i64 0, .int .i64 0, .int .i64 0, .int .i64 0, .int .i64 0, .int .i64 0, .slice none 0 0, .int .i64 0, .int .i64 0, .int .i64 0, .int .i64 0, .int .i64 0, .int .i64 0, .int .i32 0, .string ⟨#[]⟩, .slice none 0 0] 32 (0, 0)) := by
    have h := heap_alloc_new ((w.alloc (.cells (scrA s (.slice ca s.cs.length cc) (.slice ta s.tabs.length tc) (.slice ga s.gone.length gc)) 32)).alloc (.cells #[.slice pl nl cl] 43)) (.cells #[.int .i64 0, .int .i64 0, .slice none 0 0, .int .i64 0, .int .i64 0, .bool false, .int .i64 0, .int .i64 0, .int .i64 0, .int .i64 0, .int .i64 0, .int .i64 0, .slice none 0 0, .int .i64 0, .int .i64 0, .int .i64 0, .int .i64 0, .int .i64 0, .int .i64 0, .int .i32 0, .string ⟨#[]⟩, .slice none 0 0] 32)
    have e : ((w.alloc (.cells (scrA s (.slice ca s.cs.length cc) (.slice ta s.tabs.length tc) (.slice ga s.gone.length gc)) 32)).alloc (.cells #[.slice pl nl cl] 43)).heap.size = w.heap.size + 2 := by simp
    rw [e] at h
    exact h
  have HX0 : Hid _ := hx0
  have HXR : Hid _ := hx2
  have HKB : Hid _ := hkb
  have HC := hC _ (w.heap.size + 1) hkb (cell_onem hx1)
  have hsz : w.heap.size ≤ (((w.alloc (.cells (scrA s (.slice ca s.cs.length cc) (.slice ta s.tabs.length tc) (.slice ga s.gone.length gc)) 32)).alloc (.cells #[.slice pl nl cl] 43)).alloc (.cells #[.int .i64 0, .int .i64 0, .slice none 0 0, .int .i64 0, .int .i64 0, .bool false, .int .i64 0, .int .i64 0, .int .i64 0, .int .i64 0, .int .i64 0, .int .i64 0, .slice none 0 0, .int .i64 0, .int .i64 0, .int .i64 0, .int .i64 0, .int .i64 0, .int .i64 0, .int .i32 0, .string ⟨#[]⟩, .slice none 0 0] 32)).heap.size := hkb.size
  clear hkb hV hC hx0 hx1 hx2
  go_enter Tryz.func23, Tryz.ntmps23
  go_upto_region 1 with fail
  generalize (((w.alloc (.cells (scrA s (.slice ca s.cs.length cc) (.slice ta s.tabs.length tc) (.slice ga s.gone.length gc)) 32)).alloc (.cells #[.slice pl nl cl] 43)).alloc (.cells #[.int .i64 0, .int .i64 0, .slice none 0 0, .int .i64 0, .int .i64 0, .bool false, .int .i64 0, .int .i64 0, .int .i64 0, .int .i64 0, .int .i64 0, .int .i64 0, .slice none 0 0, .int .i64 0, .int .i64 0, .int .i64 0, .int .i64 0, .int .i64 0, .int .i64 0, .int .i32 0, .string ⟨#[]⟩, .slice none 0 0] 32)) = X at *
  go_wp2_with (refine wpList_load_row rfl 32 (.tmp 2) rfl w.heap.size rfl _ _ _ _ HX0.out Tryz.underlying32 rfl (by kernel_rfl) ?_)
  refine HC.mono ?_
  rintro e V ⟨cv', tv', gv', rfl, hO, c2⟩
  obtain ⟨a1, n1, c1, a2, n2, c2', a3, n3, c3, rfl, rfl, rfl⟩ := hO.shapes
  have HO : Hid (ScrO V 0 _ s' _ _ _) := hO
  have HR : Hid (V.heap[w.heap.size + 2]? = _) := Grd.carry HXR.out c2
  have HB : Hid (Below w.heap.size w V) := HKB.out.trans (c2.mono HKB.out.size)
  clear hO c2 HC
  go_wp2_with (refine wpList_store_row rfl 32 (.tmp 4) (.tmp 9) rfl (w.heap.size + 2) (scrA s' (.slice a1 n1 c1) (.slice a2 n2 c2') (.slice a3 n3 c3)) rfl rfl _ _ HR.out (by kernel_rfl) rfl (scr_one _ _ _ _ _ _ _ _ _ _) ?_)
  (try simp only [Exit.inBlock, Exit.then])
  refine bodyPost_ret (v := .tuple #[.agg (scrA s' (.slice a1 n1 c1) (.slice a2 n2 c2') (.slice a3 n3 c3)), .int .i64 er]) ?_ rfl ⟨_, _, _, rfl, ?_, below_setRow HB.out (by omega) _⟩
  · exact Grd.results_row_tmp rfl _ _ (w.heap.size + 2) _ _ _ _ rfl (setRow_heap _ _ _ _ _ _ HR.out) Tryz.underlying32 rfl (by kernel_rfl) _ rfl
  · exact (ScrO.off HO.out HR.out screen_is (by omega) fun k hk => setRow_other _ _ _ _ hk).mono hsz
set_option maxHeartbeats 2000000 in
set_option maxRecDepth 100000 in
theorem modeName_calls (s s' : Scr) (cv tv gv : Value) (t : ByteArray) (er : Int) (w0 w : World) (hV : ScrV w0 s cv tv gv) (hM : w0.heap.size ≤ w.heap.size)
    (hC : ∀ (W : World) (B1 : Nat), Below w.heap.size w W → W.cell? ⟨B1, 0, none⟩ = some (.string t) → Calls Tryz.prog 52 #[.agg (scrA s cv tv gv), .func (.func 60) #[] #[.pointer (some ⟨B1, 0, none⟩)]] W (Made w0 W s' er)) :
    Calls Tryz.prog 25 #[.agg (scrA s cv tv gv), .string t] w (Made w0 w s' er) := by
  obtain ⟨ca, cc, rfl⟩ := hV.c.shape
  obtain ⟨ta, tc, rfl⟩ := hV.t.slice
  obtain ⟨ga, gc, rfl⟩ := hV.g.slice
  have hkb : Below w.heap.size w (((w.alloc (.cells (scrA s (.slice ca s.cs.length cc) (.slice ta s.tabs.length tc) (.slice ga s.gone.length gc)) 32)).alloc (.cells #[.string t] 9)).alloc (.cells #[.int .i64 0, .int .i64 0, .slice none 0 0, .int .i64 0, .int .i64 0, .bool false, .int .i64 0, .int .i64 0, .int .i64 0, .int .i64 0, .int .i64 0, .int .i64 0, .slice none 0 0, .int .i64 0, .int .i64 0, .int .i64 0, .int .i64 0, .int .i64 0, .int .i64 0, .int .i32 0, .string ⟨#[]⟩, .slice none 0 0] 32)) := ((((Below.refl _ _).alloc (by simp) _).alloc (by simp) _).alloc (by simp; omega) _)
  have hx0 : (w.alloc (.cells (scrA s (.slice ca s.cs.length cc) (.slice ta s.tabs.length tc) (.slice ga s.gone.length gc)) 32)).heap[w.heap.size]? = some (.cells (scrA s (.slice ca s.cs.length cc) (.slice ta s.tabs.length tc) (.slice ga s.gone.length gc)) 32 (0, 0)) := by
    have h := heap_alloc_new w (.cells (scrA s (.slice ca s.cs.length cc) (.slice ta s.tabs.length tc) (.slice ga s.gone.length gc)) 32)
    have e : w.heap.size = w.heap.size := by simp
    rw [e] at h
    exact h
  have hx0 := (Below.heap_alloc (w.alloc (.cells (scrA s (.slice ca s.cs.length cc) (.slice ta s.tabs.length tc) (.slice ga s.gone.length gc)) 32)) (.cells #[.string t] 9) _ (heap_lt hx0)).trans hx0
  have hx0 := (Below.heap_alloc ((w.alloc (.cells (scrA s (.slice ca s.cs.length cc) (.slice ta s.tabs.length tc) (.slice ga s.gone.length gc)) 32)).alloc (.cells #[.string t] 9)) (.cells #[.int .i64 0, .int .i64 0, .slice none 0 0, .int .i64 0, .int .i64 0, .bool false, .int .i64 0, .int .i64 0, .int .i64 0, .int .i64 0, .int .i64 0, .int .i64 0, .slice none 0 0, .int .i64 0, .int .i64 0, .int .i64 0, .int .i64 0, .int .i64 0, .int .i64 0, .int .i32 0, .string ⟨#[]⟩, .slice none 0 0] 32) _ (heap_lt hx0)).trans hx0
  have hx1 : ((w.alloc (.cells (scrA s (.slice ca s.cs.length cc) (.slice ta s.tabs.length tc) (.slice ga s.gone.length gc)) 32)).alloc (.cells #[.string t] 9)).heap[w.heap.size + 1]? = some (.cells #[.string t] 9 (0, 0)) := by
    have h := heap_alloc_new (w.alloc (.cells (scrA s (.slice ca s.cs.length cc) (.slice ta s.tabs.length tc) (.slice ga s.gone.length gc)) 32)) (.cells #[.string t] 9)
    have e : (w.alloc (.cells (scrA s (.slice ca s.cs.length cc) (.slice ta s.tabs.length tc) (.slice ga s.gone.length gc)) 32)).heap.size = w.heap.size + 1 := by simp
    rw [e] at h
    exact h
  have hx1 := (Below.heap_alloc ((w.alloc (.cells (scrA s (.slice ca s.cs.length cc) (.slice ta s.tabs.length tc) (.slice ga s.gone.length gc)) 32)).alloc (.cells #[.string t] 9)) (.cells #[.int .i64 0, .int .i64 0, .slice none 0 0, .int .i64 0, .int .i64 0, .bool false, .int .i64 0, .int .i64 0, .int .i64 0, .int .i64 0, .int .i64 0, .int .i64 0, .slice none 0 0, .int .i64 0, .int .i64 0, .int .i64 0, .int .i64 0, .int .i64 0, .int .i64 0, .int .i32 0, .string ⟨#[]⟩, .slice none 0 0] 32) _ (heap_lt hx1)).trans hx1
  have hx2 : (((w.alloc (.cells (scrA s (.slice ca s.cs.length cc) (.slice ta s.tabs.length tc) (.slice ga s.gone.length gc)) 32)).alloc (.cells #[.string t] 9)).alloc (.cells #[.int .i64 0, .int .i64 0, .slice none 0 0, .int .i64 0, .int .i64 0, .bool false, .int .i64 0, .int .i64 0, .int .i64 0, .int .i64 0, .int .i64 0, .int .i64 0, .slice none 0 0, .int .i64 0, .int .i64 0, .int .i64 0, .int .i64 0, .int .i64 0, .int .i64 0, .int .i32 0, .string ⟨#[]⟩, .slice none 0 0] 32)).heap[w.heap.size + 2]? = some (.cells #[.int .i64 0, .int .i64 0, .slice none 0 0, .int .i64 0, .int .i64 0, .bool false, .int .i64 0, .int .i64 0, .int .i64 0, .int .i64 0, .int .i64 0, .int .i64 0, .slice none 0 0, .int .i64 0, .int .i64 0, .int .i64 0, .int .i64 0, .int .i64 0, .int .i64 0, .int .i32 0, .string ⟨#[]⟩, .slice none 0 0] 32 (0, 0)) := by
    have h := heap_alloc_new ((w.alloc (.cells (scrA s (.slice ca s.cs.length cc) (.slice ta s.tabs.length tc) (.slice ga s.gone.length gc)) 32)).alloc (.cells #[.string t] 9)) (.cells #[.int .i64 0, .int .i64 0, .slice none 0 0, .int .i64 0, .int .i64 0, .bool false, .int .i64 0, .int .i64 0, .int .i64 0, .int .i64 0, .int .i64 0, .int .i64 0, .slice none 0 0, .int .i64 0, .int .i64 0, .int .i64 0, .int .i64 0, .int .i64 0, .int .i64 0, .int .i32 0, .string ⟨#[]⟩, .slice none 0 0] 32)
    have e : ((w.alloc (.cells (scrA s (.slice ca s.cs.length cc) (.slice ta s.tabs.length tc) (.slice ga s.gone.length gc)) 32)).alloc (.cells #[.string t] 9)).heap.size = w.heap.size + 2 := by simp
    rw [e] at h
    exact h
  have HX0 : Hid _ := hx0
  have HXR : Hid _ := hx2
  have HKB : Hid _ := hkb
  have HC := hC _ (w.heap.size + 1) hkb (cell_onem hx1)
  have hsz : w.heap.size ≤ (((w.alloc (.cells (scrA s (.slice ca s.cs.length cc) (.slice ta s.tabs.length tc) (.slice ga s.gone.length gc)) 32)).alloc (.cells #[.string t] 9)).alloc (.cells #[.int .i64 0, .int .i64 0, .slice none 0 0, .int .i64 0, .int .i64 0, .bool false, .int .i64 0, .int .i64 0, .int .i64 0, .int .i64 0, .int .i64 0, .int .i64 0, .slice none 0 0, .int .i64 0, .int .i64 0, .int .i64 0, .int .i64 0, .int .i64 0, .int .i64 0, .int .i32 0, .string ⟨#[]⟩, .slice none 0 0] 32)).heap.size := hkb.size
  clear hkb hV hC hx0 hx1 hx2
  go_enter Tryz.func25, Tryz.ntmps25
  go_upto_region 1 with fail
  generalize (((w.alloc (.cells (scrA s (.slice ca s.cs.length cc) (.slice ta s.tabs.length tc) (.slice ga s.gone.length gc)) 32)).alloc (.cells #[.string t] 9)).alloc (.cells #[.int .i64 0, .int .i64 0, .slice none 0 0, .int .i64 0, .int .i64 0, .bool false, .int .i64 0, .int .i64 0, .int .i64 0, .int .i64 0, .int .i64 0, .int .i64 0, .slice none 0 0, .int .i64 0, .int .i64 0, .int .i64 0, .int .i64 0, .int .i64 0, .int .i64 0, .int .i32 0, .string ⟨#[]⟩, .slice none 0 0] 32)) = X at *
  go_wp2_with (refine wpList_load_row rfl 32 (.tmp 2) rfl w.heap.size rfl _ _ _ _ HX0.out Tryz.underlying32 rfl (by kernel_rfl) ?_)
  refine HC.mono ?_
  rintro e V ⟨cv', tv', gv', rfl, hO, c2⟩
  obtain ⟨a1, n1, c1, a2, n2, c2', a3, n3, c3, rfl, rfl, rfl⟩ := hO.shapes
  have HO : Hid (ScrO V 0 _ s' _ _ _) := hO
  have HR : Hid (V.heap[w.heap.size + 2]? = _) := Grd.carry HXR.out c2
  have HB : Hid (Below w.heap.size w V) := HKB.out.trans (c2.mono HKB.out.size)
  clear hO c2 HC
  go_wp2_with (refine wpList_store_row rfl 32 (.tmp 4) (.tmp 9) rfl (w.heap.size + 2) (scrA s' (.slice a1 n1 c1) (.slice a2 n2 c2') (.slice a3 n3 c3)) rfl rfl _ _ HR.out (by kernel_rfl) rfl (scr_one _ _ _ _ _ _ _ _ _ _) ?_)
  (try simp only [Exit.inBlock, Exit.then])
  refine bodyPost_ret (v := .tuple #[.agg (scrA s' (.slice a1 n1 c1) (.slice a2 n2 c2') (.slice a3 n3 c3)), .int .i64 er]) ?_ rfl ⟨_, _, _, rfl, ?_, below_setRow HB.out (by omega) _⟩
  · exact Grd.results_row_tmp rfl _ _ (w.heap.size + 2) _ _ _ _ rfl (setRow_heap _ _ _ _ _ _ HR.out) Tryz.underlying32 rfl (by kernel_rfl) _ rfl
  · exact (ScrO.off HO.out HR.out screen_is (by omega) fun k hk => setRow_other _ _ _ _ hk).mono hsz
set_option maxHeartbeats 2000000 in
set_option maxRecDepth 100000 in
theorem modeSet_calls (s s' : Scr) (cv tv gv : Value) (n : Int) (on : Bool) (er : Int) (w0 w : World) (hV : ScrV w0 s cv tv gv) (hM : w0.heap.size ≤ w.heap.size)
    (hC : ∀ (W : World) (B1 B2 : Nat), Below w.heap.size w W → W.cell? ⟨B1, 0, none⟩ = some (.int .i64 (bits .and .i64 n 63)) → B1 < W.heap.size → B2 < W.heap.size → W.cell? ⟨B2, 0, none⟩ = some (.bool on) → Calls Tryz.prog 52 #[.agg (scrA s cv tv gv), .func (.func 53) #[] #[.pointer (some ⟨B1, 0, none⟩), .pointer (some ⟨B2, 0, none⟩)]] W (Made w0 W s' er)) :
    Calls Tryz.prog 19 #[.agg (scrA s cv tv gv), .int .i64 n, .bool on] w (Made w0 w s' er) := by
  obtain ⟨ca, cc, rfl⟩ := hV.c.shape
  obtain ⟨ta, tc, rfl⟩ := hV.t.slice
  obtain ⟨ga, gc, rfl⟩ := hV.g.slice
  have hkb : Below w.heap.size w ((((w.alloc (.cells (scrA s (.slice ca s.cs.length cc) (.slice ta s.tabs.length tc) (.slice ga s.gone.length gc)) 32)).alloc (.cells #[.int .i64 (bits .and .i64 n 63)] 3)).alloc (.cells #[.bool on] 4)).alloc (.cells #[.int .i64 0, .int .i64 0, .slice none 0 0, .int .i64 0, .int .i64 0, .bool false, .int .i64 0, .int .i64 0, .int .i64 0, .int .i64 0, .int .i64 0, .int .i64 0, .slice none 0 0, .int .i64 0, .int .i64 0, .int .i64 0, .int .i64 0, .int .i64 0, .int .i64 0, .int .i32 0, .string ⟨#[]⟩, .slice none 0 0] 32)) := (((((Below.refl _ _).alloc (by simp) _).alloc (by simp) _).alloc (by simp; omega) _).alloc (by simp; omega) _)
  have hx0 : (w.alloc (.cells (scrA s (.slice ca s.cs.length cc) (.slice ta s.tabs.length tc) (.slice ga s.gone.length gc)) 32)).heap[w.heap.size]? = some (.cells (scrA s (.slice ca s.cs.length cc) (.slice ta s.tabs.length tc) (.slice ga s.gone.length gc)) 32 (0, 0)) := by
    have h := heap_alloc_new w (.cells (scrA s (.slice ca s.cs.length cc) (.slice ta s.tabs.length tc) (.slice ga s.gone.length gc)) 32)
    have e : w.heap.size = w.heap.size := by simp
    rw [e] at h
    exact h
  have hx0 := (Below.heap_alloc (w.alloc (.cells (scrA s (.slice ca s.cs.length cc) (.slice ta s.tabs.length tc) (.slice ga s.gone.length gc)) 32)) (.cells #[.int .i64 (bits .and .i64 n 63)] 3) _ (heap_lt hx0)).trans hx0
  have hx0 := (Below.heap_alloc ((w.alloc (.cells (scrA s (.slice ca s.cs.length cc) (.slice ta s.tabs.length tc) (.slice ga s.gone.length gc)) 32)).alloc (.cells #[.int .i64 (bits .and .i64 n 63)] 3)) (.cells #[.bool on] 4) _ (heap_lt hx0)).trans hx0
  have hx0 := (Below.heap_alloc (((w.alloc (.cells (scrA s (.slice ca s.cs.length cc) (.slice ta s.tabs.length tc) (.slice ga s.gone.length gc)) 32)).alloc (.cells #[.int .i64 (bits .and .i64 n 63)] 3)).alloc (.cells #[.bool on] 4)) (.cells #[.int .i64 0, .int .i64 0, .slice none 0 0, .int .i64 0, .int .i64 0, .bool false, .int .i64 0, .int .i64 0, .int .i64 0, .int .i64 0, .int .i64 0, .int .i64 0, .slice none 0 0, .int .i64 0, .int .i64 0, .int .i64 0, .int .i64 0, .int .i64 0, .int .i64 0, .int .i32 0, .string ⟨#[]⟩, .slice none 0 0] 32) _ (heap_lt hx0)).trans hx0
  have hx1 : ((w.alloc (.cells (scrA s (.slice ca s.cs.length cc) (.slice ta s.tabs.length tc) (.slice ga s.gone.length gc)) 32)).alloc (.cells #[.int .i64 (bits .and .i64 n 63)] 3)).heap[w.heap.size + 1]? = some (.cells #[.int .i64 (bits .and .i64 n 63)] 3 (0, 0)) := by
    have h := heap_alloc_new (w.alloc (.cells (scrA s (.slice ca s.cs.length cc) (.slice ta s.tabs.length tc) (.slice ga s.gone.length gc)) 32)) (.cells #[.int .i64 (bits .and .i64 n 63)] 3)
    have e : (w.alloc (.cells (scrA s (.slice ca s.cs.length cc) (.slice ta s.tabs.length tc) (.slice ga s.gone.length gc)) 32)).heap.size = w.heap.size + 1 := by simp
    rw [e] at h
    exact h
  have hx1 := (Below.heap_alloc ((w.alloc (.cells (scrA s (.slice ca s.cs.length cc) (.slice ta s.tabs.length tc) (.slice ga s.gone.length gc)) 32)).alloc (.cells #[.int .i64 (bits .and .i64 n 63)] 3)) (.cells #[.bool on] 4) _ (heap_lt hx1)).trans hx1
  have hx1 := (Below.heap_alloc (((w.alloc (.cells (scrA s (.slice ca s.cs.length cc) (.slice ta s.tabs.length tc) (.slice ga s.gone.length gc)) 32)).alloc (.cells #[.int .i64 (bits .and .i64 n 63)] 3)).alloc (.cells #[.bool on] 4)) (.cells #[.int .i64 0, .int .i64 0, .slice none 0 0, .int .i64 0, .int .i64 0, .bool false, .int .i64 0, .int .i64 0, .int .i64 0, .int .i64 0, .int .i64 0, .int .i64 0, .slice none 0 0, .int .i64 0, .int .i64 0, .int .i64 0, .int .i64 0, .int .i64 0, .int .i64 0, .int .i32 0, .string ⟨#[]⟩, .slice none 0 0] 32) _ (heap_lt hx1)).trans hx1
  have hx2 : (((w.alloc (.cells (scrA s (.slice ca s.cs.length cc) (.slice ta s.tabs.length tc) (.slice ga s.gone.length gc)) 32)).alloc (.cells #[.int .i64 (bits .and .i64 n 63)] 3)).alloc (.cells #[.bool on] 4)).heap[w.heap.size + 2]? = some (.cells #[.bool on] 4 (0, 0)) := by
    have h := heap_alloc_new ((w.alloc (.cells (scrA s (.slice ca s.cs.length cc) (.slice ta s.tabs.length tc) (.slice ga s.gone.length gc)) 32)).alloc (.cells #[.int .i64 (bits .and .i64 n 63)] 3)) (.cells #[.bool on] 4)
    have e : ((w.alloc (.cells (scrA s (.slice ca s.cs.length cc) (.slice ta s.tabs.length tc) (.slice ga s.gone.length gc)) 32)).alloc (.cells #[.int .i64 (bits .and .i64 n 63)] 3)).heap.size = w.heap.size + 2 := by simp
    rw [e] at h
    exact h
  have hx2 := (Below.heap_alloc (((w.alloc (.cells (scrA s (.slice ca s.cs.length cc) (.slice ta s.tabs.length tc) (.slice ga s.gone.length gc)) 32)).alloc (.cells #[.int .i64 (bits .and .i64 n 63)] 3)).alloc (.cells #[.bool on] 4)) (.cells #[.int .i64 0, .int .i64 0, .slice none 0 0, .int .i64 0, .int .i64 0, .bool false, .int .i64 0, .int .i64 0, .int .i64 0, .int .i64 0, .int .i64 0, .int .i64 0, .slice none 0 0, .int .i64 0, .int .i64 0, .int .i64 0, .int .i64 0, .int .i64 0, .int .i64 0, .int .i32 0, .string ⟨#[]⟩, .slice none 0 0] 32) _ (heap_lt hx2)).trans hx2
  have hx3 : ((((w.alloc (.cells (scrA s (.slice ca s.cs.length cc) (.slice ta s.tabs.length tc) (.slice ga s.gone.length gc)) 32)).alloc (.cells #[.int .i64 (bits .and .i64 n 63)] 3)).alloc (.cells #[.bool on] 4)).alloc (.cells #[.int .i64 0, .int .i64 0, .slice none 0 0, .int .i64 0, .int .i64 0, .bool false, .int .i64 0, .int .i64 0, .int .i64 0, .int .i64 0, .int .i64 0, .int .i64 0, .slice none 0 0, .int .i64 0, .int .i64 0, .int .i64 0, .int .i64 0, .int .i64 0, .int .i64 0, .int .i32 0, .string ⟨#[]⟩, .slice none 0 0] 32)).heap[w.heap.size + 3]? = some (.cells #[.int .i64 0, .int .i64 0, .slice none 0 0, .int .i64 0, .int .i64 0, .bool false, .int .i64 0, .int .i64 0, .int .i64 0, .int .i64 0, .int .i64 0, .int .i64 0, .slice none 0 0, .int .i64 0, .int .i64 0, .int .i64 0, .int .i64 0, .int .i64 0, .int .i64 0, .int .i32 0, .string ⟨#[]⟩, .slice none 0 0] 32 (0, 0)) := by
    have h := heap_alloc_new (((w.alloc (.cells (scrA s (.slice ca s.cs.length cc) (.slice ta s.tabs.length tc) (.slice ga s.gone.length gc)) 32)).alloc (.cells #[.int .i64 (bits .and .i64 n 63)] 3)).alloc (.cells #[.bool on] 4)) (.cells #[.int .i64 0, .int .i64 0, .slice none 0 0, .int .i64 0, .int .i64 0, .bool false, .int .i64 0, .int .i64 0, .int .i64 0, .int .i64 0, .int .i64 0, .int .i64 0, .slice none 0 0, .int .i64 0, .int .i64 0, .int .i64 0, .int .i64 0, .int .i64 0, .int .i64 0, .int .i32 0, .string ⟨#[]⟩, .slice none 0 0] 32)
    have e : (((w.alloc (.cells (scrA s (.slice ca s.cs.length cc) (.slice ta s.tabs.length tc) (.slice ga s.gone.length gc)) 32)).alloc (.cells #[.int .i64 (bits .and .i64 n 63)] 3)).alloc (.cells #[.bool on] 4)).heap.size = w.heap.size + 3 := by simp
    rw [e] at h
    exact h
  have HX0 : Hid _ := hx0
  have HXR : Hid _ := hx3
  have HKB : Hid _ := hkb
  have HC := hC _ (w.heap.size + 1) (w.heap.size + 2) hkb (cell_onem hx1) (heap_lt hx1) (heap_lt hx2) (cell_onem hx2)
  have hsz : w.heap.size ≤ ((((w.alloc (.cells (scrA s (.slice ca s.cs.length cc) (.slice ta s.tabs.length tc) (.slice ga s.gone.length gc)) 32)).alloc (.cells #[.int .i64 (bits .and .i64 n 63)] 3)).alloc (.cells #[.bool on] 4)).alloc (.cells #[.int .i64 0, .int .i64 0, .slice none 0 0, .int .i64 0, .int .i64 0, .bool false, .int .i64 0, .int .i64 0, .int .i64 0, .int .i64 0, .int .i64 0, .int .i64 0, .slice none 0 0, .int .i64 0, .int .i64 0, .int .i64 0, .int .i64 0, .int .i64 0, .int .i64 0, .int .i32 0, .string ⟨#[]⟩, .slice none 0 0] 32)).heap.size := hkb.size
  clear hkb hV hC hx0 hx1 hx2 hx3
  go_enter Tryz.func19, Tryz.ntmps19
  go_upto_region 2 with fail
  generalize ((((w.alloc (.cells (scrA s (.slice ca s.cs.length cc) (.slice ta s.tabs.length tc) (.slice ga s.gone.length gc)) 32)).alloc (.cells #[.int .i64 (bits .and .i64 n 63)] 3)).alloc (.cells #[.bool on] 4)).alloc (.cells #[.int .i64 0, .int .i64 0, .slice none 0 0, .int .i64 0, .int .i64 0, .bool false, .int .i64 0, .int .i64 0, .int .i64 0, .int .i64 0, .int .i64 0, .int .i64 0, .slice none 0 0, .int .i64 0, .int .i64 0, .int .i64 0, .int .i64 0, .int .i64 0, .int .i64 0, .int .i32 0, .string ⟨#[]⟩, .slice none 0 0] 32)) = X at *
  go_wp2_with (refine wpList_load_row rfl 32 (.tmp 3) rfl w.heap.size rfl _ _ _ _ HX0.out Tryz.underlying32 rfl (by kernel_rfl) ?_)
  refine HC.mono ?_
  rintro e V ⟨cv', tv', gv', rfl, hO, c2⟩
  obtain ⟨a1, n1, c1, a2, n2, c2', a3, n3, c3, rfl, rfl, rfl⟩ := hO.shapes
  have HO : Hid (ScrO V 0 _ s' _ _ _) := hO
  have HR : Hid (V.heap[w.heap.size + 3]? = _) := Grd.carry HXR.out c2
  have HB : Hid (Below w.heap.size w V) := HKB.out.trans (c2.mono HKB.out.size)
  clear hO c2 HC
  go_wp2_with (refine wpList_store_row rfl 32 (.tmp 6) (.tmp 13) rfl (w.heap.size + 3) (scrA s' (.slice a1 n1 c1) (.slice a2 n2 c2') (.slice a3 n3 c3)) rfl rfl _ _ HR.out (by kernel_rfl) rfl (scr_one _ _ _ _ _ _ _ _ _ _) ?_)
  (try simp only [Exit.inBlock, Exit.then])
  refine bodyPost_ret (v := .tuple #[.agg (scrA s' (.slice a1 n1 c1) (.slice a2 n2 c2') (.slice a3 n3 c3)), .int .i64 er]) ?_ rfl ⟨_, _, _, rfl, ?_, below_setRow HB.out (by omega) _⟩
  · exact Grd.results_row_tmp rfl _ _ (w.heap.size + 3) _ _ _ _ rfl (setRow_heap _ _ _ _ _ _ HR.out) Tryz.underlying32 rfl (by kernel_rfl) _ rfl
  · exact (ScrO.off HO.out HR.out screen_is (by omega) fun k hk => setRow_other _ _ _ _ hk).mono hsz
end Put
end Go.Proofs.YtnkeahfcpbepjaaGreatDoor

/- A screen that came in, where it lies. -/
namespace Go.Proofs.YtnkeahfcpbepjaaGreatDoor
open Go.ChangeShapes Go.WideShapes Go.ChangeAt Go.RowKit
namespace Put
/-- A screen that came in, where it lies. -/
structure Met (w0 w : World) (s : Scr) (cv tv gv : Value) : Prop where
  t : Txt.Tab w
  v : ScrV w0 s cv tv gv
  b : Below w0.heap.size w0 w
  f : Fits s
theorem Met.next {w0 w W : World} {s : Scr} {cv tv gv : Value} (h : Met w0 w s cv tv gv) (hb : Below w.heap.size w W) : Met w0 W s cv tv gv := ⟨Grd.Tab.next h.t hb, h.v, h.b.trans (hb.mono h.b.size), h.f⟩
end Put
end Go.Proofs.YtnkeahfcpbepjaaGreatDoor

/- SameScreen of two screens that read alike. -/
namespace Go.Proofs.YtnkeahfcpbepjaaGreatDoor
open Go.ChangeShapes Go.WideShapes Go.ChangeAt Go.RowKit
namespace Put
open Grd (C SliceAt CellsAt gridErr z0)
set_option maxHeartbeats 1000000 in
theorem equalB_empty (a1 a2 : Option Addr) (c1 c2 : Nat) (w : World) :
    Calls Tryz.prog 119 #[.slice a1 0 c1, .slice a2 0 c2] w fun e w' => e = .returned (.bool true) ∧ Below w.heap.size w w' := by
  go_enter Tryz.func119, Tryz.ntmps119
  go_wp2_with fail
  go_loopg [13] 0 (fun g i wr => i = .int .i64 0 ∧ Below w.heap.size w wr)
  case atStart => exact ⟨rfl, Below.refl _ _⟩
  case round =>
    obtain ⟨rfl, hb⟩ := hrel
    go_wp2_with fail
    go_ret
    exact ⟨rfl, hb⟩
set_option maxHeartbeats 1000000 in
theorem equalB_cells (b1 o1 c1 b2 o2 c2 : Nat) (l : List Bool) (w : World) (h1 : ∀ j, j < l.length → w.cell? ⟨b1, o1 + j, none⟩ = some (.bool (l.getD j false))) (h2 : ∀ j, j < l.length → w.cell? ⟨b2, o2 + j, none⟩ = some (.bool (l.getD j false))) (hn : l.length ≤ 4398046511104) :
    Calls Tryz.prog 119 #[.slice (some ⟨b1, o1, none⟩) l.length c1, .slice (some ⟨b2, o2, none⟩) l.length c2] w fun e w' => e = .returned (.bool true) ∧ Below w.heap.size w w' := by
  have H1 : Hid (∀ j, j < l.length → w.cell? ⟨b1, o1 + j, none⟩ = some (.bool (l.getD j false))) := h1
  have H2 : Hid (∀ j, j < l.length → w.cell? ⟨b2, o2 + j, none⟩ = some (.bool (l.getD j false))) := h2
  clear h1 h2
  generalize hl : l.length = L at *
  have HL : Hid (l.length = L) := hl
  clear hl
  have ne : ((L : Int) != (L : Int)) = false := by simp
  go_enter Tryz.func119, Tryz.ntmps119
  go_wp2_with fail
  go_loopg [13] L (fun g i wr => ∃ k : Nat, i = .int .i64 (k : Int) ∧ k ≤ L ∧ L - k ≤ g ∧ Below w.heap.size w wr)
  case atStart => exact ⟨0, rfl, by omega, by omega, Below.refl _ _⟩
  case round =>
    obtain ⟨k, rfl, hk, hg, hb⟩ := hrel
    by_cases hlt : k < L
    · have lt1 : ((k : Int) < (L : Int)) := by omega
      have p0 := Grd.cell_keep hb (H1.out k hlt)
      have q0 := Grd.cell_keep hb (H2.out k hlt)
      generalize l.getD k false = x at *
      have nq : (x != x) = false := by simp
      go_wp2_with fail
      go_region
      go_wp2_with fail
      go_roundg (L - (k + 1))
      case measure => omega
      case rel => exact ⟨k + 1, rfl, by omega, by omega, hb.drew⟩
    · have lt1 : ¬ ((k : Int) < (L : Int)) := by omega
      go_wp2_with fail
      go_ret
      exact ⟨rfl, hb⟩
theorem equalB_any (v1 v2 : Value) (l : List Bool) (w : World) (h1 : BoolsV w v1 l) (h2 : BoolsV w v2 l) (hn : l.length ≤ 4398046511104) :
    Calls Tryz.prog 119 #[v1, v2] w fun e w' => e = .returned (.bool true) ∧ Below w.heap.size w w' := by
  by_cases h0 : l = []
  · obtain ⟨a1, c1, rfl⟩ := h1.slice
    obtain ⟨a2, c2, rfl⟩ := h2.slice
    subst h0
    exact equalB_empty a1 a2 c1 c2 w
  · rcases h1 with ⟨h, -⟩ | ⟨b1, o1, c1, rfl, -, -, hc1⟩
    · exact absurd h h0
    · rcases h2 with ⟨h, -⟩ | ⟨b2, o2, c2, rfl, -, -, hc2⟩
      · exact absurd h h0
      · exact equalB_cells b1 o1 c1 b2 o2 c2 l w hc1 hc2 hn
set_option maxHeartbeats 1000000 in
theorem eqRows_empty (a1 a2 : Option Addr) (c1 c2 : Nat) (w : World) :
    Calls Tryz.prog 154 #[.slice a1 0 c1, .slice a2 0 c2, .func (.func 153) #[] #[]] w fun e w' => e = .returned (.bool true) ∧ Below w.heap.size w w' := by
  go_enter Tryz.func154, Tryz.ntmps154
  go_wp2_with fail
  go_loopg [17] 0 (fun g i wr => i = .int .i64 0 ∧ Below w.heap.size w wr)
  case atStart => exact ⟨rfl, Below.refl _ _⟩
  case round =>
    obtain ⟨rfl, hb⟩ := hrel
    go_wp2_with fail
    go_ret
    exact ⟨rfl, hb⟩
/-- The rows of two lists of rows that read alike. -/
def RowsA (w : World) (b o : Nat) (l : List (List C)) : Prop := ∀ j, j < l.length → ∃ rv, w.cell? ⟨b, o + j, none⟩ = some rv ∧ SliceAt w rv (l.getD j [])
set_option maxHeartbeats 2000000 in
theorem eqRows_cells (b1 o1 c1 b2 o2 c2 : Nat) (l : List (List C)) (w : World) (h1 : RowsA w b1 o1 l) (h2 : RowsA w b2 o2 l) (hn : l.length ≤ 4398046511104) (hr : ∀ row, row ∈ l → row.length ≤ 4398046511104) :
    Calls Tryz.prog 154 #[.slice (some ⟨b1, o1, none⟩) l.length c1, .slice (some ⟨b2, o2, none⟩) l.length c2, .func (.func 153) #[] #[]] w fun e w' => e = .returned (.bool true) ∧ Below w.heap.size w w' := by
  have H1 : Hid (RowsA w b1 o1 l) := h1
  have H2 : Hid (RowsA w b2 o2 l) := h2
  have HR : Hid (∀ k, k < l.length → (l.getD k []).length ≤ 4398046511104) := fun k hk => by
    rw [List.getD_eq_getElem?_getD, List.getElem?_eq_getElem hk]
    exact hr _ (List.getElem_mem hk)
  clear h1 h2 hr
  unfold RowsA at H1 H2
  generalize hl : l.length = L at *
  have HL : Hid (l.length = L) := hl
  clear hl
  have ne : ((L : Int) != (L : Int)) = false := by simp
  go_enter Tryz.func154, Tryz.ntmps154
  go_wp2_with fail
  go_loopg [17] L (fun g i wr => ∃ k : Nat, i = .int .i64 (k : Int) ∧ k ≤ L ∧ L - k ≤ g ∧ Below w.heap.size w wr)
  case atStart => exact ⟨0, rfl, by omega, by omega, Below.refl _ _⟩
  case round =>
    obtain ⟨k, rfl, hk, hg, hb⟩ := hrel
    by_cases hlt : k < L
    · have lt1 : ((k : Int) < (L : Int)) := by omega
      obtain ⟨r1, p0, s1⟩ := H1.out k hlt
      obtain ⟨r2, q0, s2⟩ := H2.out k hlt
      have p1 := Grd.cell_keep hb p0
      have q1 := Grd.cell_keep hb q0
      have HS1 : Hid (SliceAt wr r1 (l.getD k [])) := s1.below hb
      have HS2 : Hid (SliceAt wr r2 (l.getD k [])) := s2.below hb
      have HLN : Hid ((l.getD k []).length ≤ 4398046511104) := HR.out k hlt
      have HB : Hid (Below w.heap.size w wr) := hb
      obtain ⟨a1, d1, rfl⟩ := s1.shape
      obtain ⟨a2, d2, rfl⟩ := s2.shape
      clear p0 q0 s1 s2 hb
      generalize l.getD k [] = row at *
      go_wp2_with fail
      refine (Grd.equal_slices_big _ _ row _ HS1.out HS2.out HLN.out).mono ?_
      rintro e W1 ⟨rfl, b1⟩
      have HB1 : Hid (Below w.heap.size w W1) := HB.out.trans (b1.mono HB.out.size)
      clear b1 p1 q1
      go_wp2_with fail
      go_roundg (L - (k + 1))
      case measure => omega
      case rel => exact ⟨k + 1, rfl, by omega, by omega, HB1.out⟩
    · have lt1 : ¬ ((k : Int) < (L : Int)) := by omega
      go_wp2_with fail
      go_ret
      exact ⟨rfl, hb⟩
theorem eqRows_any (v1 v2 : Value) (l : List (List C)) (w : World) (h1 : RowsV w v1 l) (h2 : RowsV w v2 l) (hn : l.length ≤ 4398046511104) (hr : ∀ row, row ∈ l → row.length ≤ 4398046511104) :
    Calls Tryz.prog 154 #[v1, v2, .func (.func 153) #[] #[]] w fun e w' => e = .returned (.bool true) ∧ Below w.heap.size w w' := by
  by_cases h0 : l = []
  · obtain ⟨a1, c1, rfl⟩ := h1.slice
    obtain ⟨a2, c2, rfl⟩ := h2.slice
    subst h0
    exact eqRows_empty a1 a2 c1 c2 w
  · rcases h1 with ⟨h, -⟩ | ⟨b1, o1, c1, rfl, -, -, hc1⟩
    · exact absurd h h0
    · rcases h2 with ⟨h, -⟩ | ⟨b2, o2, c2, rfl, -, -, hc2⟩
      · exact absurd h h0
      · exact eqRows_cells b1 o1 c1 b2 o2 c2 l w hc1 hc2 hn hr
theorem sameRows_any (v1 v2 : Value) (l : List (List C)) (w : World) (h1 : RowsV w v1 l) (h2 : RowsV w v2 l) (hn : l.length ≤ 4398046511104) (hr : ∀ row, row ∈ l → row.length ≤ 4398046511104) :
    Calls Tryz.prog 120 #[v1, v2] w fun e w' => e = .returned (.bool true) ∧ Below w.heap.size w w' := by
  have HC := eqRows_any v1 v2 l w h1 h2 hn hr
  obtain ⟨a1, d1, rfl⟩ := h1.slice
  obtain ⟨a2, d2, rfl⟩ := h2.slice
  clear h1 h2
  go_enter Tryz.func120, Tryz.ntmps120
  go_wp2_with fail
  refine HC.mono ?_
  rintro e W1 ⟨rfl, b1⟩
  clear HC
  go_wp2_with fail
  go_ret
  exact ⟨rfl, b1⟩
theorem eql_style (f b x : Int) (w : World) : (binOp .eql 26 (.agg #[.int .i64 f, .int .i64 b, .int .i64 x]) (.agg #[.int .i64 f, .int .i64 b, .int .i64 x])).run Tryz.prog w = .ok (.bool true) w := by
  go_simp
theorem eql_kept (a b c d e f : Int) (w : World) : (binOp .eql 29 (.agg #[.int .i64 a, .int .i64 b, .int .i64 c, .int .i64 d, .int .i64 e, .int .i64 f]) (.agg #[.int .i64 a, .int .i64 b, .int .i64 c, .int .i64 d, .int .i64 e, .int .i64 f])).run Tryz.prog w = .ok (.bool true) w := by
  go_simp
/-- What SameScreen asks of the sizes. -/
structure Small (s : Scr) : Prop where
  c : s.cs.length ≤ 4398046511104
  t : s.tabs.length ≤ 4398046511104
  g : s.gone.length ≤ 4398046511104
  r : ∀ row, row ∈ s.gone → row.length ≤ 4398046511104
set_option maxHeartbeats 8000000 in
set_option maxRecDepth 100000 in
theorem sameScreen_any (s : Scr) (cv tv gv cv' tv' gv' : Value) (w : World) (h1 : ScrV w s cv tv gv) (h2 : ScrV w s cv' tv' gv') (hS : Small s) :
    Calls Tryz.prog 64 #[.agg (scrA s cv tv gv), .agg (scrA s cv' tv' gv')] w fun e w' => e = .returned (.bool true) ∧ Below w.heap.size w w' := by
  obtain ⟨ca, cc, rfl⟩ := h1.c.shape
  obtain ⟨ta, tc, rfl⟩ := h1.t.slice
  obtain ⟨ga, gc, rfl⟩ := h1.g.slice
  obtain ⟨ca', cc', rfl⟩ := h2.c.shape
  obtain ⟨ta', tc', rfl⟩ := h2.t.slice
  obtain ⟨ga', gc', rfl⟩ := h2.g.slice
  have x0 := heap_alloc_new w (.cells (scrA s (.slice ca s.cs.length cc) (.slice ta s.tabs.length tc) (.slice ga s.gone.length gc)) 32)
  have y0 := (Below.heap_alloc (w.alloc (.cells (scrA s (.slice ca s.cs.length cc) (.slice ta s.tabs.length tc) (.slice ga s.gone.length gc)) 32)) (.cells (scrA s (.slice ca' s.cs.length cc') (.slice ta' s.tabs.length tc') (.slice ga' s.gone.length gc')) 32) _ (heap_lt x0)).trans x0
  have y1 := heap_alloc_new (w.alloc (.cells (scrA s (.slice ca s.cs.length cc) (.slice ta s.tabs.length tc) (.slice ga s.gone.length gc)) 32)) (.cells (scrA s (.slice ca' s.cs.length cc') (.slice ta' s.tabs.length tc') (.slice ga' s.gone.length gc')) 32)
  have kb : Below w.heap.size w ((w.alloc (.cells (scrA s (.slice ca s.cs.length cc) (.slice ta s.tabs.length tc) (.slice ga s.gone.length gc)) 32)).alloc (.cells (scrA s (.slice ca' s.cs.length cc') (.slice ta' s.tabs.length tc') (.slice ga' s.gone.length gc')) 32)) := ((Below.refl _ _).alloc (Nat.le_refl _) _).alloc (by simp) _
  have es : (w.alloc (.cells (scrA s (.slice ca s.cs.length cc) (.slice ta s.tabs.length tc) (.slice ga s.gone.length gc)) 32)).heap.size = w.heap.size + 1 := by simp
  rw [es] at y1
  have HKB : Hid _ := kb
  have HV1 : Hid (ScrV w s _ _ _) := h1
  have HV2 : Hid (ScrV w s _ _ _) := h2
  have HS : Hid (Small s) := hS
  have HY0 : Hid _ := y0
  have HY1 : Hid _ := y1
  have aw : (s.w == s.w) = true := by simp
  obtain ⟨⟨c0, c1, c2, -⟩, -, -⟩ := scr_cells y0
  obtain ⟨⟨d0, d1, d2, -⟩, -, -⟩ := scr_cells y1
  have HG := Grd.same_any_big s.w s.h _ _ s.cs _ (h1.c.below kb) (h2.c.below kb) hS.c
  clear x0 y0 y1 kb h1 h2 hS es
  go_enter Tryz.func64, Tryz.ntmps64
  go_wp2_with fail
  refine HG.mono ?_
  rintro e W1 ⟨rfl, b1⟩
  clear HG c0 c1 c2 d0 d1 d2
  have HB1 : Hid (Below w.heap.size w W1) := HKB.out.trans (b1.mono HKB.out.size)
  have HZ0 : Hid (W1.heap[w.heap.size]? = _) := Grd.carry HY0.out b1
  have HZ1 : Hid (W1.heap[w.heap.size + 1]? = _) := Grd.carry HY1.out b1
  clear b1 HY0 HY1 HKB
  obtain ⟨⟨c0, c1, c2, c3, c4, c5, c6, c7, c8, c9, c10⟩, ⟨c11, c12, c13, c14, c15, c16, c17, c18, c19, c20, c21⟩, -⟩ := scr_cells HZ0.out
  obtain ⟨⟨d0, d1, d2, d3, d4, d5, d6, d7, d8, d9, d10⟩, ⟨d11, d12, d13, d14, d15, d16, d17, d18, d19, d20, d21⟩, -⟩ := scr_cells HZ1.out
  have HT := equalB_any _ _ s.tabs _ (HV1.out.t.next HB1.out) (HV2.out.t.next HB1.out) HS.out.t
  have q1 := eql_style s.sf s.sb s.sx
  have q2 := eql_kept s.kx s.ky s.kf s.kb s.kbits s.km
  go_wp2_with fail
  refine HT.mono ?_
  rintro e W2 ⟨rfl, b2⟩
  clear HT c0 c1 c2 c3 c4 c5 c6 c7 c8 c9 c10 c11 c12 c13 c14 c15 c16 c17 c18 c19 c20 c21 d0 d1 d2 d3 d4 d5 d6 d7 d8 d9 d10 d11 d12 d13 d14 d15 d16 d17 d18 d19 d20 d21
  have HB2 : Hid (Below w.heap.size w W2) := HB1.out.trans (b2.mono HB1.out.size)
  have HA0 : Hid (W2.heap[w.heap.size]? = _) := Grd.carry HZ0.out b2
  have HA1 : Hid (W2.heap[w.heap.size + 1]? = _) := Grd.carry HZ1.out b2
  clear b2 HZ0 HZ1 HB1
  obtain ⟨-, ⟨c11, c12, c13, c14, c15, c16, c17, c18, c19, c20, c21⟩, -⟩ := scr_cells HA0.out
  obtain ⟨-, ⟨d11, d12, d13, d14, d15, d16, d17, d18, d19, d20, d21⟩, -⟩ := scr_cells HA1.out
  have HR := sameRows_any _ _ s.gone _ (HV1.out.g.next HB2.out) (HV2.out.g.next HB2.out) HS.out.g HS.out.r
  go_wp2_with fail
  refine HR.mono ?_
  rintro e W3 ⟨rfl, b3⟩
  clear HR
  have HB3 : Hid (Below w.heap.size w W3) := HB2.out.trans (b3.mono HB2.out.size)
  clear b3 HA0 HA1 c11 c12 c13 c14 c15 c16 c17 c18 c19 c20 c21 d11 d12 d13 d14 d15 d16 d17 d18 d19 d20 d21
  go_wp2_with fail
  go_ret
  exact ⟨rfl, HB3.out⟩
end Put
end Go.Proofs.YtnkeahfcpbepjaaGreatDoor

/- What stays of a sheet whose words change; Has. -/
namespace Go.Proofs.YtnkeahfcpbepjaaGreatDoor
open Go.ChangeShapes Go.WideShapes Go.ChangeAt Go.RowKit
namespace Put
open Grd (C SliceAt CellsAt gridErr z0 nilV flat rowsL)
theorem ShA.set {t : TypeId} (ht : IsSheet t) {W : World} {M N p : Nat} {s s' : Scr} {rows : List (List C)} {cv tv gv rv : Value} {gvs vs : List Value} (h : ShA t W M N p s rows cv tv gv rv gvs vs) (i : Nat) (v : Value) (e : (shA s cv tv gv rv).setIfInBounds i v = shA s' cv tv gv rv) (h1 : s'.tabs = s.tabs) (h2 : s'.gone = s.gone) : ShA t (W.setCell ⟨p, i, none⟩ v) M N p s' rows cv tv gv rv gvs vs :=
  h.put ht (store_at h.blk e) (fun _ hk => store_off hk) h1 h2
theorem ShAt.set {t : TypeId} (ht : IsSheet t) {W : World} {M N p : Nat} {s s' : Scr} {rows : List (List C)} (h : ShAt t W M N p s rows) (i : Nat) (v : Value) (e : ∀ cv tv gv rv, (shA s cv tv gv rv).setIfInBounds i v = shA s' cv tv gv rv) (h1 : s'.tabs = s.tabs) (h2 : s'.gone = s.gone) : ShAt t (W.setCell ⟨p, i, none⟩ v) M N p s' rows := by
  obtain ⟨cv, tv, gv, rv, gvs, vs, h⟩ := h
  exact ⟨cv, tv, gv, rv, gvs, vs, h.set ht i v (e _ _ _ _) h1 h2⟩
theorem ShAt.next {t : TypeId} {W W' : World} {M N p : Nat} {s : Scr} {rows : List (List C)} (h : ShAt t W M N p s rows) (hb : Below W.heap.size W W') : ShAt t W' M N p s rows := by
  obtain ⟨cv, tv, gv, rv, gvs, vs, h⟩ := h
  exact ⟨cv, tv, gv, rv, gvs, vs, h.next hb⟩
theorem ShAt.lo {t : TypeId} {W : World} {M N p : Nat} {s : Scr} {rows : List (List C)} (h : ShAt t W M N p s rows) : N ≤ p := by
  obtain ⟨cv, tv, gv, rv, gvs, vs, h⟩ := h
  exact h.lo
theorem ShAt.drew {t : TypeId} {W : World} {M N p : Nat} {s : Scr} {rows : List (List C)} (h : ShAt t W M N p s rows) : ShAt t W.drew M N p s rows := h.next ((Below.refl _ _).drew)
/-- The words of a sheet that are numbers. -/
theorem ShAt.words {t : TypeId} {W : World} {M N p : Nat} {s : Scr} {rows : List (List C)} (h : ShAt t W M N p s rows) :
    W.cell? ⟨p, 0, none⟩ = some (.int .i64 s.w) ∧ W.cell? ⟨p, 1, none⟩ = some (.int .i64 s.h) ∧ W.cell? ⟨p, 3, none⟩ = some (.int .i64 s.x) ∧ W.cell? ⟨p, 4, none⟩ = some (.int .i64 s.y) ∧ W.cell? ⟨p, 5, none⟩ = some (.bool s.late) ∧ W.cell? ⟨p, 9, none⟩ = some (.int .i64 s.top) ∧ W.cell? ⟨p, 10, none⟩ = some (.int .i64 s.bot) ∧ W.cell? ⟨p, 11, none⟩ = some (.int .i64 s.modes) ∧ W.cell? ⟨p, 19, none⟩ = some (.int .i32 s.last) ∧ ∀ i, W.frozen? ⟨p, i, none⟩ = false := by
  obtain ⟨cv, tv, gv, rv, gvs, vs, h⟩ := h
  obtain ⟨⟨c0, c1, -, c3, c4, c5, -, -, -, c9, c10⟩, ⟨c11, -, -, -, -, -, -, -, c19, -⟩, f⟩ := sh_cells h.blk
  exact ⟨c0, c1, c3, c4, c5, c9, c10, c11, c19, f⟩
theorem ShAt.fin {t : TypeId} (ht : IsSheet t) {W : World} {M N p : Nat} {s s' : Scr} {rows : List (List C)} (h : ShAt t W M N p s rows) (i : Nat) (v : Value) (e : ∀ cv tv gv rv, (shA s cv tv gv rv).setIfInBounds i v = shA s' cv tv gv rv) (h1 : s'.tabs = s.tabs) (h2 : s'.gone = s.gone) : ∀ v', v' = v → ShAt t (W.setCell ⟨p, i, none⟩ v').drew M N p s' rows ∧ Below N W (W.setCell ⟨p, i, none⟩ v').drew := fun v' hv => by
  subst hv
  exact ⟨(h.set ht i _ e h1 h2).drew, ((Below.refl _ _).setCell h.lo _).drew⟩
theorem wrap_id (a : Int) (h0 : -9223372036854775808 ≤ a) (h1 : a ≤ 9223372036854775807) : IntKind.i64.wrap a = a := by
  rw [IntKind.wrap_i64]
  omega
theorem int_wrap (a : Int) (h0 : -9223372036854775808 ≤ a) (h1 : a ≤ 9223372036854775807) : Value.int .i64 (IntKind.i64.wrap a) = Value.int .i64 a := by rw [wrap_id a h0 h1]
/-- Are these bits set? -/
def hasB (m b : Int) : Bool := bits .and .i64 m b == b
theorem has_any {M N p : Nat} {s : Scr} {rows : List (List C)} (b : Int) (W : World) (hS : ShAt 64 W M N p s rows) : Calls Tryz.prog 55 #[.pointer (some ⟨p, 0, none⟩), .int .i64 b] W fun e w' => e = .returned (.bool (hasB s.modes b)) ∧ W = w' := by
  obtain ⟨c0, c1, c3, c4, c5, c9, c10, c11, c19, f⟩ := hS.words
  clear c0 c1 c3 c4 c5 c9 c10 c19 f hS
  go_enter Tryz.func55, Tryz.ntmps55
  go_wp2_with fail
  go_ret
  exact ⟨rfl, rfl⟩
end Put
end Go.Proofs.YtnkeahfcpbepjaaGreatDoor

/- Package move: within, counted, moved; what stays of a sheet whose words change. -/
namespace Go.Proofs.YtnkeahfcpbepjaaGreatDoor
open Go.ChangeShapes Go.WideShapes Go.ChangeAt Go.RowKit
namespace Put
open Grd (C SliceAt CellsAt gridErr z0 nilV flat rowsL)
def withinI (n a b : Int) : Int := min (max n a) b
def cnt (n : Int) : Int := withinI n 1 9999
theorem cnt_range (n : Int) : 1 ≤ cnt n ∧ cnt n ≤ 9999 := by unfold cnt withinI; omega
theorem within_calls (n a b : Int) (w : World) : Calls Tryz.prog 141 #[.int .i64 n, .int .i64 a, .int .i64 b] w fun e w' => e = .returned (.int .i64 (withinI n a b)) ∧ w = w' := by
  have h1 := Grd.max2 n a
  have h2 := Grd.min2 (max n a) b
  go_enter Tryz.func141, Tryz.ntmps141
  go_wp2_with fail
  go_ret
  exact ⟨rfl, rfl⟩
theorem counted_any (n : Int) (w : World) : Calls Tryz.prog 89 #[.int .i64 n] w fun e w' => e = .returned (.int .i64 (cnt n)) ∧ w = w' := by
  have h := within_calls n 1 9999 w
  go_enter Tryz.func89, Tryz.ntmps89
  go_wp2_with fail
  refine h.mono ?_
  rintro e W1 ⟨rfl, hw⟩
  subst hw
  go_wp2_with fail
  go_ret
  exact ⟨rfl, rfl⟩
end Put
end Go.Proofs.YtnkeahfcpbepjaaGreatDoor

/- A right screen, and what stays small of it. -/
namespace Go.Proofs.YtnkeahfcpbepjaaGreatDoor
open Go.ChangeShapes Go.WideShapes Go.ChangeAt Go.RowKit
namespace Put
open Grd (C SliceAt CellsAt gridErr z0 nilV flat rowsL RightRow)
theorem rightErr {s : Scr} {n hh : Nat} (h : RightS s n hh) : scrErr s = 0 := by
  have hz := h.gz
  rw [← h.w, ← h.h] at hz
  have hp : placeOk s = true := by
    have := h.w
    have := h.h
    have := h.x0
    have := h.x1
    have := h.y0
    have := h.y1
    have := h.kx0
    have := h.kx1
    have := h.ky0
    have := h.ky1
    have := h.t0
    have := h.t1
    have := h.t2
    have := h.t3
    simp only [placeOk, hasC, regionOk, Bool.and_eq_true, Bool.or_eq_true, decide_eq_true_eq]
    omega
  have hr : restOk s = true := by
    simp only [restOk, Bool.and_eq_true, Bool.or_eq_true, Bool.not_eq_true', decide_eq_true_eq, decide_eq_false_iff_not]
    exact ⟨by rw [h.w, h.tl], h.la, h.ti⟩
  have hg : goneErr s.gone = 0 := by
    unfold goneErr
    rw [if_neg (by have := h.gl; omega)]
    have hb : goneBad s.gone = false := by
      unfold goneBad
      rw [List.any_eq_false]
      intro row hrow
      simp [h.gr row hrow]
    rw [hb]
    rfl
  unfold scrErr
  rw [if_neg (by rw [hz]; simp), if_neg (by rw [hp]; simp), if_neg (by rw [h.late]; simp), if_neg (by rw [h.looks]; simp), if_neg (by rw [hr]; simp), hg]
theorem smallOf {s : Scr} {n hh : Nat} (h : RightS s n hh) : Small s := by
  refine ⟨?_, ?_, ?_, ?_⟩
  · have h1 := h.cl
    have h2 := Nat.mul_le_mul h.n2 h.h2
    omega
  · have := h.tl
    have := h.n2
    omega
  · have := h.gl
    omega
  · intro row hrow
    have := (grid_size (h.gr row hrow)).2.1
    omega
theorem rowsL_row {s : Scr} {n hh : Nat} (h : RightS s n hh) (i : Nat) (hi : i < (rowsL n s.cs hh).length) : ((rowsL n s.cs hh).getD i []).length = n := by
  rw [Grd.rowsL_len] at hi
  have e2 : (rowsL n s.cs hh).getD i [] = Grd.rowAt n s.cs i := by simp [rowsL, List.getD, hi]
  rw [e2]
  exact Grd.row_len n hh s.cs i h.cl hi
/-- Rows of that many cells, in the place of a right screen's. -/
theorem rowsOk {s : Scr} {n hh : Nat} (hR : RightS s n hh) (s' : Scr) (rows' : List (List C)) (hl : rows'.length = hh) (hn : ∀ i, i < rows'.length → (rows'.getD i []).length = n) (hg : s'.gone.length ≤ 51) (hg2 : ∀ i, i < s'.gone.length → (s'.gone.getD i []).length ≤ 1048576) : RowsOk s' rows' := by
  have n1 := hR.n1
  have n2 := hR.n2
  have h1 := hR.h1
  have h2 := hR.h2
  have hlen := Grd.flatten_len n rows' hn hh (by omega)
  rw [← hl, List.take_length] at hlen
  refine ⟨by omega, by omega, fun i hi e => ?_, ?_, by omega, hg2⟩
  · have := hn i hi
    rw [e] at this
    simp at this
    omega
  · rw [hlen]
    have := Nat.mul_le_mul (show rows'.length ≤ 60 by omega) n2
    omega
theorem rowsOk_same {s : Scr} {n hh : Nat} (hR : RightS s n hh) (s' : Scr) (hg : s'.gone = s.gone) : RowsOk s' (rowsL n s.cs hh) :=
  rowsOk hR s' _ (Grd.rowsL_len _ _ _) (rowsL_row hR) (by rw [hg]; have := hR.gl; omega) (fun i hi => by rw [hg] at hi ⊢; have := hR.gone_le i hi; omega)
end Put
end Go.Proofs.YtnkeahfcpbepjaaGreatDoor

/- Package mode: a screen is changed, or its error told. -/
namespace Go.Proofs.YtnkeahfcpbepjaaGreatDoor
set_option linter.unusedVariables false
open Go.ChangeShapes Go.WideShapes Go.ChangeAt Go.RowKit
namespace Put
open Grd (C SliceAt CellsAt gridErr z0 nilV flat rowsL RightRow)
theorem md_bad {w0 w : World} {s : Scr} {cv tv gv : Value} (h : Met w0 w s cv tv gv) (hz : scrErr s ≠ 0) (df : FuncId) (caps : Array Value) : Calls Tryz.prog 52 #[.agg (scrA s cv tv gv), .func (.func df) #[] caps] w (Made w0 w zScr (scrErr s)) :=
  mdchange_any s zScr cv tv gv df caps w0 w h.t h.v h.b h.f fun W _ => made_bad s cv tv gv (scrErr s) hz _ w0 W h.v
theorem md_good {w0 w : World} {s s' : Scr} {cv tv gv : Value} {n hh : Nat} (h : Met w0 w s cv tv gv) (hR : RightS s n hh) (df : FuncId) (hpl : Plain df) (caps : Array Value) (rows' : List (List C)) (cs' : List C)
    (hM : ∀ w1, Below w.heap.size w w1 → Does df caps w0.heap.size w1 s s' (rowsL n s.cs hh) rows') (hO : RowsOk s' rows') (hcs : rows'.flatten = cs') :
    Calls Tryz.prog 52 #[.agg (scrA s cv tv gv), .func (.func df) #[] caps] w (Made w0 w { s' with cs := cs' } 0) := by
  have hz := rightErr hR
  have key := mdchange_any s { s' with cs := cs' } cv tv gv df caps w0 w h.t h.v h.b h.f fun W hW => by
    rw [hz]
    exact change_good n hh s s' rows' cv tv gv df hpl caps w0 W h.v (h.b.trans (hW.mono h.b.size)) h.f hR.w hR.h hR.gz (fun w1 hw1 => hM w1 (hW.trans (hw1.mono hW.size))) hO cs' hcs
  rwa [hz] at key
end Put
end Go.Proofs.YtnkeahfcpbepjaaGreatDoor

/- Modes that are set and cleared: what is done, and what the reference does. -/
namespace Go.Proofs.YtnkeahfcpbepjaaGreatDoor
open Go.ChangeShapes Go.WideShapes Go.ChangeAt Go.RowKit
namespace Put
open Grd (C)
/-- The cursor goes to the first cell. -/
def homeS (s : Scr) : Scr := { s with x := 0, y := if hasB s.modes 2 then s.top else 0, late := false }
/-- Modes, with bits set or cleared. -/
def modesI (m b : Int) (on : Bool) : Int := if on then bits .or .i64 (bits .andNot .i64 m b) b else bits .andNot .i64 m b
def homeIf (b : Int) (s : Scr) : Scr := if bits .and .i64 b 2 = 0 then s else homeS s
def lateIf (s : Scr) : Scr := { s with late := s.late && hasB s.modes 4 }
/-- Set. -/
def setS (s : Scr) (b : Int) (on : Bool) : Scr := lateIf (homeIf b { s with modes := modesI s.modes b on })
/-- The reference's modes. -/
def modesR (m b : Int) (on : Bool) : Int := if on then bits .or .i64 m b else bits .and .i64 m (63 - b)
theorem mode_nums (m b : Int) (hm0 : 0 ≤ m) (hm1 : m ≤ 63) (hb0 : 0 ≤ b) (hb1 : b ≤ 63) :
    bits .or .i64 (bits .andNot .i64 m b) b = bits .or .i64 m b ∧ bits .andNot .i64 m b = bits .and .i64 m (63 - b) ∧
    (bits .and .i64 b 2 ≠ 0 → hasB (bits .or .i64 m b) 2 = true ∧ hasB (bits .and .i64 m (63 - b)) 2 = false) ∧
    hasB (bits .or .i64 m b) 4 = !(bits .and .i64 (bits .or .i64 m b) 4 == 0) ∧ hasB (bits .and .i64 m (63 - b)) 4 = !(bits .and .i64 (bits .and .i64 m (63 - b)) 4 == 0) := by
  have key : ∀ k : Fin 64, ∀ j : Fin 64, 
    bits .or .i64 (bits .andNot .i64 (k.val : Int) (j.val : Int)) (j.val : Int) = bits .or .i64 (k.val : Int) (j.val : Int) ∧ bits .andNot .i64 (k.val : Int) (j.val : Int) = bits .and .i64 (k.val : Int) (63 - (j.val : Int)) ∧
    (bits .and .i64 (j.val : Int) 2 ≠ 0 → hasB (bits .or .i64 (k.val : Int) (j.val : Int)) 2 = true ∧ hasB (bits .and .i64 (k.val : Int) (63 - (j.val : Int))) 2 = false) ∧
    hasB (bits .or .i64 (k.val : Int) (j.val : Int)) 4 = !(bits .and .i64 (bits .or .i64 (k.val : Int) (j.val : Int)) 4 == 0) ∧ hasB (bits .and .i64 (k.val : Int) (63 - (j.val : Int))) 4 = !(bits .and .i64 (bits .and .i64 (k.val : Int) (63 - (j.val : Int))) 4 == 0) := by decide +kernel
  have h := key ⟨m.toNat, by omega⟩ ⟨b.toNat, by omega⟩
  have e1 : ((m.toNat : Nat) : Int) = m := by omega
  have e2 : ((b.toNat : Nat) : Int) = b := by omega
  simp only [e1, e2] at h
  exact h
theorem and63 (n : Int) : 0 ≤ bits .and .i64 n 63 ∧ bits .and .i64 n 63 ≤ 63 := by
  have h : bits .and .i64 n 63 = IntKind.i64.wrap ((BitVec.ofInt 64 n &&& 63#64).toNat : Int) := rfl
  have h2 : (BitVec.ofInt 64 n &&& 63#64).toNat ≤ 63 := by
    rw [BitVec.toNat_and]
    exact Nat.and_le_right
  rw [h, wrap_id _ (by omega) (by omega)]
  omega
/-- Set, as the reference has it. -/
def setR (s : Scr) (b : Int) (on : Bool) : Scr :=
  let s1 := { s with modes := modesR s.modes b on }
  let s2 := if bits .and .i64 b 2 = 0 then s1 else { s1 with x := 0, y := if on then s.top else 0, late := false }
  { s2 with late := s2.late && !(bits .and .i64 (modesR s.modes b on) 4 == 0) }
theorem setR_same (s : Scr) (b : Int) (on : Bool) (hm0 : 0 ≤ s.modes) (hm1 : s.modes ≤ 63) (hb0 : 0 ≤ b) (hb1 : b ≤ 63) : setR s b on = setS s b on := by
  obtain ⟨h1, h2, h3, h4, h5⟩ := mode_nums s.modes b hm0 hm1 hb0 hb1
  cases on with
  | true =>
    simp only [setR, setS, lateIf, homeIf, homeS, modesI, modesR, if_true, h1]
    by_cases hz : bits .and .i64 b 2 = 0
    · rw [if_pos hz, if_pos hz]
      simp only [h4]
    · rw [if_neg hz, if_neg hz]
      simp only [(h3 hz).1, if_true, h4]
  | false =>
    simp only [setR, setS, lateIf, homeIf, homeS, modesI, modesR, h2, Bool.false_eq_true, if_false]
    by_cases hz : bits .and .i64 b 2 = 0
    · rw [if_pos hz, if_pos hz]
      simp only [h5]
    · rw [if_neg hz, if_neg hz]
      simp only [(h3 hz).2, Bool.false_eq_true, if_false, h5]
theorem homeIf_same (b : Int) (s : Scr) : (homeIf b s).gone = s.gone ∧ (homeIf b s).tabs = s.tabs ∧ (homeIf b s).cs = s.cs ∧ (homeIf b s).w = s.w ∧ (homeIf b s).h = s.h ∧ (homeIf b s).modes = s.modes := by
  unfold homeIf homeS
  split <;> exact ⟨rfl, rfl, rfl, rfl, rfl, rfl⟩
theorem setS_same (s : Scr) (b : Int) (on : Bool) : (setS s b on).gone = s.gone ∧ (setS s b on).tabs = s.tabs ∧ (setS s b on).cs = s.cs ∧ (setS s b on).w = s.w ∧ (setS s b on).h = s.h := by
  obtain ⟨h1, h2, h3, h4, h5, -⟩ := homeIf_same b { s with modes := modesI s.modes b on }
  exact ⟨h1, h2, h3, h4, h5⟩
/-- Save. -/
def saveS (s : Scr) : Scr := { s with kx := s.x, ky := s.y, kf := s.sf, kb := s.sb, kbits := s.sx, km := bits .and .i64 s.modes 6 }
/-- Restore. -/
def restS (s : Scr) : Scr := { s with x := s.kx, y := s.ky, sf := s.kf, sb := s.kb, sx := s.kbits, late := false, modes := bits .or .i64 (bits .andNot .i64 s.modes 6) s.km }
/-- Restore, as the reference has it. -/
def restR (s : Scr) : Scr := { s with x := s.kx, y := s.ky, sf := s.kf, sb := s.kb, sx := s.kbits, late := false, modes := bits .and .i64 s.modes 57 + s.km }
theorem rest_nums (m k : Int) (hm0 : 0 ≤ m) (hm1 : m ≤ 63) (hk : keptOk k = true) : bits .or .i64 (bits .andNot .i64 m 6) k = bits .and .i64 m 57 + k ∧ 0 ≤ bits .and .i64 m 57 + k ∧ bits .and .i64 m 57 + k ≤ 63 := by
  have key : ∀ j : Fin 64, ∀ k : Fin 7, keptOk (k.val : Int) = true → bits .or .i64 (bits .andNot .i64 (j.val : Int) 6) (k.val : Int) = bits .and .i64 (j.val : Int) 57 + (k.val : Int) ∧ 0 ≤ bits .and .i64 (j.val : Int) 57 + (k.val : Int) ∧ bits .and .i64 (j.val : Int) 57 + (k.val : Int) ≤ 63 := by decide +kernel
  have hk2 : k = 0 ∨ k = 2 ∨ k = 4 ∨ k = 6 := by simpa [keptOk] using hk
  have h := key ⟨m.toNat, by omega⟩ ⟨k.toNat, by omega⟩
  have e1 : ((m.toNat : Nat) : Int) = m := by omega
  have e2 : ((k.toNat : Nat) : Int) = k := by omega
  simp only [e1, e2] at h
  exact h hk
end Put
end Go.Proofs.YtnkeahfcpbepjaaGreatDoor

/- The look and what is kept of a sheet's or a desk's block: read and written as a whole. -/
namespace Go.Proofs.YtnkeahfcpbepjaaGreatDoor
open Go.ChangeShapes Go.WideShapes Go.ChangeAt Go.RowKit
namespace Put
open Grd (C)
theorem there_sh {W : World} {R : Nat} {t : TypeId} {s : Scr} {cv tv gv rv : Value} (h : W.heap[R]? = some (.cells (shA s cv tv gv rv) t (0, 0))) (o n : Nat) (hn : o + n ≤ 23) : W.there R o n := fun j hj => by
  refine ⟨?_, Grd.frozen_of h _⟩
  unfold World.cell?
  rw [h]
  have : o + j < (shA s cv tv gv rv).size := by show o + j < 23; omega
  simp [Array.getElem?_eq_getElem this]
theorem range_look {W : World} {R : Nat} {t : TypeId} {s : Scr} {cv tv gv rv : Value} (h : W.heap[R]? = some (.cells (shA s cv tv gv rv) t (0, 0))) : W.rangeAt R 6 [.int .i64 s.sf, .int .i64 s.sb, .int .i64 s.sx] := by
  have := World.rangeAt_of_block h 6 3
  exact this
theorem range_kept {W : World} {R : Nat} {t : TypeId} {s : Scr} {cv tv gv rv : Value} (h : W.heap[R]? = some (.cells (shA s cv tv gv rv) t (0, 0))) : W.rangeAt R 15 [.int .i64 s.kf, .int .i64 s.kb, .int .i64 s.kbits] := by
  have := World.rangeAt_of_block h 15 3
  exact this
theorem ShAt.block {t : TypeId} {W : World} {M N p : Nat} {s : Scr} {rows : List (List C)} (h : ShAt t W M N p s rows) : ∃ cv tv gv rv, W.heap[p]? = some (.cells (shA s cv tv gv rv) t (0, 0)) := by
  obtain ⟨cv, tv, gv, rv, gvs, vs, h⟩ := h
  exact ⟨cv, tv, gv, rv, h.blk⟩
theorem below_cells {N : Nat} {W W' : World} {p : Nat} (hb : Below N W W') (hp : N ≤ p) : ∀ (vs : List Value) (o : Nat), Below N W (W'.setCells p o vs)
  | [], _ => hb
  | v :: r, o => below_cells (hb.setCell hp v) hp r (o + 1)
/-- A look is stored. -/
theorem ShAt.look {t : TypeId} (ht : IsSheet t) {W : World} {M N p : Nat} {s : Scr} {rows : List (List C)} (h : ShAt t W M N p s rows) (a b c : Int) : ShAt t (W.setCells p 6 [.int .i64 a, .int .i64 b, .int .i64 c]) M N p { s with sf := a, sb := b, sx := c } rows := by
  have h1 : ShAt t (W.setCell ⟨p, 6, none⟩ (.int .i64 a)) M N p { s with sf := a } rows := h.set ht 6 _ (fun _ _ _ _ => rfl) rfl rfl
  have h2 : ShAt t ((W.setCell ⟨p, 6, none⟩ (.int .i64 a)).setCell ⟨p, 7, none⟩ (.int .i64 b)) M N p { s with sf := a, sb := b } rows := h1.set ht 7 _ (fun _ _ _ _ => rfl) rfl rfl
  exact h2.set ht 8 _ (fun _ _ _ _ => rfl) rfl rfl
/-- What is kept is stored. -/
theorem ShAt.kept {t : TypeId} (ht : IsSheet t) {W : World} {M N p : Nat} {s : Scr} {rows : List (List C)} (h : ShAt t W M N p s rows) (x y a b c m : Int) : ShAt t (W.setCells p 13 [.int .i64 x, .int .i64 y, .int .i64 a, .int .i64 b, .int .i64 c, .int .i64 m]) M N p { s with kx := x, ky := y, kf := a, kb := b, kbits := c, km := m } rows := by
  have h1 : ShAt t (W.setCell ⟨p, 13, none⟩ (.int .i64 x)) M N p { s with kx := x } rows := h.set ht 13 _ (fun _ _ _ _ => rfl) rfl rfl
  have h2 : ShAt t ((W.setCell ⟨p, 13, none⟩ (.int .i64 x)).setCell ⟨p, 14, none⟩ (.int .i64 y)) M N p { s with kx := x, ky := y } rows := h1.set ht 14 _ (fun _ _ _ _ => rfl) rfl rfl
  have h3 : ShAt t (((W.setCell ⟨p, 13, none⟩ (.int .i64 x)).setCell ⟨p, 14, none⟩ (.int .i64 y)).setCell ⟨p, 15, none⟩ (.int .i64 a)) M N p { s with kx := x, ky := y, kf := a } rows := h2.set ht 15 _ (fun _ _ _ _ => rfl) rfl rfl
  have h4 : ShAt t ((((W.setCell ⟨p, 13, none⟩ (.int .i64 x)).setCell ⟨p, 14, none⟩ (.int .i64 y)).setCell ⟨p, 15, none⟩ (.int .i64 a)).setCell ⟨p, 16, none⟩ (.int .i64 b)) M N p { s with kx := x, ky := y, kf := a, kb := b } rows := h3.set ht 16 _ (fun _ _ _ _ => rfl) rfl rfl
  have h5 : ShAt t (((((W.setCell ⟨p, 13, none⟩ (.int .i64 x)).setCell ⟨p, 14, none⟩ (.int .i64 y)).setCell ⟨p, 15, none⟩ (.int .i64 a)).setCell ⟨p, 16, none⟩ (.int .i64 b)).setCell ⟨p, 17, none⟩ (.int .i64 c)) M N p { s with kx := x, ky := y, kf := a, kb := b, kbits := c } rows := h4.set ht 17 _ (fun _ _ _ _ => rfl) rfl rfl
  exact h5.set ht 18 _ (fun _ _ _ _ => rfl) rfl rfl
theorem info_style : (Tryz.prog.info? 26).map (·.size) = some 3 := by kernel_rfl
theorem info_kept : (Tryz.prog.info? 29).map (·.size) = some 6 := by kernel_rfl
def StyPtr (W : World) (v : Value) : Prop := ∃ R o cs t fr, v = .pointer (some ⟨R, o, none⟩) ∧ W.heap[R]? = some (.cells cs t fr) ∧ o + 3 ≤ cs.size
def styOf (W : World) (v : Value) : Array Value := match v with
  | .pointer (some a) => (match W.heap[a.block]? with
    | some (.cells cs _ _) => cs.extract a.off (a.off + 3)
    | _ => #[])
  | _ => #[]
theorem load_sty (a : Act) (dst : Option Tmp) (x : Operand) (ty : TypeId) (pos : String) (after : Array Edge) (guard : Option (Nat × Bool)) (W : World) (h : StyPtr W (a.eval x)) :
    (execOp a.eval { dst, op := .load 26 x, type := ty, pos, after, guard }).run Tryz.prog W = .ok (.value (.agg (styOf W (a.eval x)))) W := by
  obtain ⟨R, o, cs, t, fr, h0, h1, h2⟩ := h
  have e : styOf W (a.eval x) = cs.extract o (o + 3) := by rw [h0]; unfold styOf; simp only []; rw [h1]
  rw [e]
  have hr := run_loadVar_mid (P := Tryz.prog) W R o 26 (cs.extract o (o + 3)).toList _ (World.rangeAt_of_block h1 o 3) Tryz.underlying26 rfl (by rw [info_style]; simp; omega)
  unfold execOp
  simp only [h0, Instr.loadAt, Instr.sureAddr, Sem.run_bind, Sem.run_pure, Result.andThen_ok, hr]
theorem sty_look {W : World} {R : Nat} {t : TypeId} {s : Scr} {cv tv gv rv : Value} (h : W.heap[R]? = some (.cells (shA s cv tv gv rv) t (0, 0))) : StyPtr W (.pointer (some ⟨R, 6, none⟩)) ∧ styOf W (.pointer (some ⟨R, 6, none⟩)) = #[.int .i64 s.sf, .int .i64 s.sb, .int .i64 s.sx] := by
  refine ⟨⟨_, _, _, _, _, rfl, h, by show 9 ≤ 23; omega⟩, ?_⟩
  unfold styOf
  simp only []
  rw [h]
  rfl
theorem sty_kept {W : World} {R : Nat} {t : TypeId} {s : Scr} {cv tv gv rv : Value} (h : W.heap[R]? = some (.cells (shA s cv tv gv rv) t (0, 0))) : StyPtr W (.pointer (some ⟨R, 15, none⟩)) ∧ styOf W (.pointer (some ⟨R, 15, none⟩)) = #[.int .i64 s.kf, .int .i64 s.kb, .int .i64 s.kbits] := by
  refine ⟨⟨_, _, _, _, _, rfl, h, by show 18 ≤ 23; omega⟩, ?_⟩
  unfold styOf
  simp only []
  rw [h]
  rfl
def ptrOff (v : Value) : Nat := match v with
  | .pointer (some a) => a.off
  | _ => 0
def ptrB (v : Value) : Nat := match v with
  | .pointer (some a) => a.block
  | _ => 0
def aggL (v : Value) : List Value := match v with
  | .agg cs => cs.toList
  | _ => []
theorem ptrOff_at (a : Addr) : ptrOff (.pointer (some a)) = a.off := rfl
theorem ptrB_at (a : Addr) : ptrB (.pointer (some a)) = a.block := rfl
theorem aggL_agg (cs : Array Value) : aggL (.agg cs) = cs.toList := rfl
def HasPtr (n : Nat) (W : World) (v : Value) : Prop := ∃ R o, v = .pointer (some ⟨R, o, none⟩) ∧ W.there R o n
def IsInts (n : Nat) (v : Value) : Prop := ∃ cs : Array Value, v = .agg cs ∧ cs.size = n ∧ cs.all (·.oneCell') = true
theorem isInts3 (a b c : Int) : IsInts 3 (.agg #[.int .i64 a, .int .i64 b, .int .i64 c]) := ⟨_, rfl, rfl, by simp [Value.oneCell']⟩
theorem isInts6 (a b c d e f : Int) : IsInts 6 (.agg #[.int .i64 a, .int .i64 b, .int .i64 c, .int .i64 d, .int .i64 e, .int .i64 f]) := ⟨_, rfl, rfl, by simp [Value.oneCell']⟩
theorem store_sty (a : Act) (dst : Option Tmp) (x y : Operand) (ty : TypeId) (pos : String) (after : Array Edge) (guard : Option (Nat × Bool)) (W : World) (h : HasPtr 3 W (a.eval x)) (hy : IsInts 3 (a.eval y)) :
    (execOp a.eval { dst, op := .store 26 x y, type := ty, pos, after, guard }).run Tryz.prog W = .ok .skip (W.setCells (ptrB (a.eval x)) (ptrOff (a.eval x)) (aggL (a.eval y))) := by
  obtain ⟨R, o, h0, h1⟩ := h
  obtain ⟨cs, h2, h3, h4⟩ := hy
  have hr := run_storeVar_mid (P := Tryz.prog) W R o 26 cs (by rw [h3]; exact h1) (by rw [info_style, h3]) h4
  unfold execOp
  simp only [h0, h2, Instr.storeAt, Instr.sureAddr, Sem.run_bind, Sem.run_pure, Result.andThen_ok, hr, ptrB_at, ptrOff_at, aggL_agg]
theorem store_kept (a : Act) (dst : Option Tmp) (x y : Operand) (ty : TypeId) (pos : String) (after : Array Edge) (guard : Option (Nat × Bool)) (W : World) (h : HasPtr 6 W (a.eval x)) (hy : IsInts 6 (a.eval y)) :
    (execOp a.eval { dst, op := .store 29 x y, type := ty, pos, after, guard }).run Tryz.prog W = .ok .skip (W.setCells (ptrB (a.eval x)) (ptrOff (a.eval x)) (aggL (a.eval y))) := by
  obtain ⟨R, o, h0, h1⟩ := h
  obtain ⟨cs, h2, h3, h4⟩ := hy
  have hr := run_storeVar_mid (P := Tryz.prog) W R o 29 cs (by rw [h3]; exact h1) (by rw [info_kept, h3]) h4
  unfold execOp
  simp only [h0, h2, Instr.storeAt, Instr.sureAddr, Sem.run_bind, Sem.run_pure, Result.andThen_ok, hr, ptrB_at, ptrOff_at, aggL_agg]
theorem has_sh {W : World} {R : Nat} {t : TypeId} {s : Scr} {cv tv gv rv : Value} (h : W.heap[R]? = some (.cells (shA s cv tv gv rv) t (0, 0))) (n o : Nat) (hn : o + n ≤ 23) : HasPtr n W (.pointer (some ⟨R, o, none⟩)) := ⟨R, o, rfl, there_sh h o n hn⟩
end Put
end Go.Proofs.YtnkeahfcpbepjaaGreatDoor

/- Package mode: the closure of Look. -/
namespace Go.Proofs.YtnkeahfcpbepjaaGreatDoor
open Go.ChangeShapes Go.WideShapes Go.ChangeAt Go.RowKit
namespace Put
open Grd (C)
/-- Another look. -/
def lookS (s : Scr) (xs : List Int) : Scr := { s with sf := (Stl.applyT (s.sf, s.sb, s.sx) xs).1, sb := (Stl.applyT (s.sf, s.sb, s.sx) xs).2.1, sx := (Stl.applyT (s.sf, s.sb, s.sx) xs).2.2 }
theorem styTab_next {w w' : World} (h : Stl.Tab w) (hb : Below w.heap.size w w') : Stl.Tab w' := by
  obtain ⟨t, fr, h⟩ := h
  exact ⟨t, fr, (hb.block _ (heap_lt h)).trans h⟩
section
set_option maxHeartbeats 4000000 in
theorem look_does (B1 M : Nat) (w : World) (s : Scr) (rows : List (List C)) (pl : Option Addr) (nl cl : Nat) (xs : List Int) (hB1 : w.cell? ⟨B1, 0, none⟩ = some (.slice pl nl cl)) (hT : Stl.Tab w) (hI : Stl.IntsAt w (.slice pl nl cl) xs) (hlen : xs.length ≤ 140737488355328) (hw : ∀ x ∈ xs, x ≤ 9223372036854775807) :
    Does 58 #[.pointer (some ⟨B1, 0, none⟩)] M w s (lookS s xs) rows rows := by
  intro W p hb hS
  have hlo := hS.lo
  have q1 := cell_stay hb hB1
  have HAP : Hid (∀ V, Below W.heap.size W V → Calls Tryz.prog 59 #[.agg #[.int .i64 s.sf, .int .i64 s.sb, .int .i64 s.sx], .slice pl nl cl] V fun e w' => e = .returned (.agg #[.int .i64 (Stl.applyT (s.sf, s.sb, s.sx) xs).1, .int .i64 (Stl.applyT (s.sf, s.sb, s.sx) xs).2.1, .int .i64 (Stl.applyT (s.sf, s.sb, s.sx) xs).2.2]) ∧ Below V.heap.size V w') := fun V h => by
    have hbv := hb.trans (h.mono hb.size)
    exact Stl.apply_any (s.sf, s.sb, s.sx) _ xs V (styTab_next hT hbv) (hI.below hbv) hlen hw
  have HLS : Hid (lookS s xs = { s with sf := (Stl.applyT (s.sf, s.sb, s.sx) xs).1, sb := (Stl.applyT (s.sf, s.sb, s.sx) xs).2.1, sx := (Stl.applyT (s.sf, s.sb, s.sx) xs).2.2 }) := rfl
  generalize lookS s xs = s' at *
  generalize (Stl.applyT (s.sf, s.sb, s.sx) xs).1 = a1 at *
  generalize (Stl.applyT (s.sf, s.sb, s.sx) xs).2.1 = a2 at *
  generalize (Stl.applyT (s.sf, s.sb, s.sx) xs).2.2 = a3 at *
  have HS : Hid (ShAt 64 W M w.heap.size p s rows) := hS
  have SK : Hid (∀ V, Below W.heap.size W V → V.cell? ⟨B1, 0, none⟩ = some (.slice pl nl cl) ∧ V.cell? ⟨p, 6, none⟩ = some (.int .i64 s.sf) ∧ V.cell? ⟨p, 7, none⟩ = some (.int .i64 s.sb) ∧ V.cell? ⟨p, 8, none⟩ = some (.int .i64 s.sx) ∧ ∀ i, V.frozen? ⟨p, i, none⟩ = false) := fun V h => by
    obtain ⟨cv, tv, gv, rv, hblk⟩ := (ShAt.next HS.out h).block
    obtain ⟨⟨-, -, -, -, -, -, c6, c7, c8, -⟩, -, fz⟩ := sh_cells hblk
    exact ⟨cell_stay h q1, c6, c7, c8, fz⟩
  have HF : Hid (∀ V, Below W.heap.size W V → ShAt 64 (V.setCells p 6 [.int .i64 a1, .int .i64 a2, .int .i64 a3]) M w.heap.size p s' rows ∧ Below w.heap.size W (V.setCells p 6 [.int .i64 a1, .int .i64 a2, .int .i64 a3])) := fun V h => by
    rw [HLS.out]
    exact ⟨(ShAt.next HS.out h).look sheet_is a1 a2 a3, below_cells (h.mono hb.size) hlo _ _⟩
  have b0 : Below W.heap.size W W.drew := (Below.refl _ _).drew
  obtain ⟨u1, u2, u3, u4, u5⟩ := SK.out _ (Below.refl _ _)
  clear hS hB1 hT hI hlen hw u5 q1
  show Calls _ _ #[.pointer (some ⟨p, 0, none⟩), .pointer (some ⟨B1, 0, none⟩)] _ _
  go_enter Tryz.func58, Tryz.ntmps58
  go_upto_region 0 with fail
  go_region_with (first | (go_at_call 59; refine (HAP.out _ b0).mono ?_; rintro e V ⟨rfl, bV⟩; have k1 : Below W.heap.size W V := b0.trans (bV.mono b0.size); obtain ⟨v1, v2, v3, v4, v5⟩ := SK.out _ k1; have f6 := v5 6; have f7 := v5 7; have f8 := v5 8; clear v1 v5))
  all_goals go_end0
  all_goals exact ⟨rfl, HF.out _ k1⟩
end
end Put
end Go.Proofs.YtnkeahfcpbepjaaGreatDoor
