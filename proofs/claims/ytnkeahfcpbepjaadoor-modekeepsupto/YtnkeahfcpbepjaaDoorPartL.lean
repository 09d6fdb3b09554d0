/- Package move: the calls that hand a closure on. (Written by gen_call.py.) -/
import Derived.Test.YtnkeahfcpbepjaaDoorPartI
import Derived.Test.YtnkeahfcpbepjaaDoorPartK
import Derived.BigRegion
import Derived.BigQuiet
import Derived.Deep.RegionHeld3
import Derived.Test.YtnkeahfcpbepjaaDoorPartF
namespace Go.Proofs.YtnkeahfcpbepjaaDoor
set_option linter.unusedVariables false
open Go.ChangeShapes Go.WideShapes Go.ChangeAt Go.RowKit
namespace Put
open Grd (C)
theorem cell_one {W : World} {R : Nat} {v : Value} {t : TypeId} (h : W.heap[R]? = some (.cells #[v] t (0, 0))) : W.cell? ⟨R, 0, none⟩ = some v := by simp [World.cell?, h]
set_option maxHeartbeats 2000000 in
set_option maxRecDepth 100000 in
theorem moved_calls (s s' : Scr) (cv tv gv : Value) (tf : FuncId) (tcaps : Array Value) (er : Int) (w0 w : World) (hV : ScrV w0 s cv tv gv) (hM : w0.heap.size ≤ w.heap.size)
    (hC : ∀ (W : World) (B1 : Nat), Below w.heap.size w W → W.cell? ⟨B1, 0, none⟩ = some (.func (.func tf) #[] tcaps) → Calls Tryd.prog 121 #[.agg (scrA s cv tv gv), .func (.func 122) #[] #[.pointer (some ⟨B1, 0, none⟩)]] W (Made w0 W s' er)) :
    Calls Tryd.prog 71 #[.agg (scrA s cv tv gv), .func (.func tf) #[] tcaps] w (Made w0 w s' er) := by
  obtain ⟨ca, cc, rfl⟩ := hV.c.shape
  obtain ⟨ta, tc, rfl⟩ := hV.t.slice
  obtain ⟨ga, gc, rfl⟩ := hV.g.slice
  have hkb : Below w.heap.size w (((w.alloc (.cells (scrA s (.slice ca s.cs.length cc) (.slice ta s.tabs.length tc) (.slice ga s.gone.length gc)) 32)).alloc (.cells #[.func (.func tf) #[] tcaps] 83)).alloc (.cells #[.int .i64 0, .int .i64 0, .slice none 0 0, .int .i64 0, .int .i64 0, .bool false, .int .i64 0, .int .i64 0, .int .i64 0, .int .i64 0, .int .i64 0, .int .i64 0, .slice none 0 0, .int .i64 0, .int .i64 0, .int .i64 0, .int .i64 0, .int .i64 0, .int .i64 0, .int .i32 0, .string ⟨#[]⟩, .slice none 0 0] 32)) := ((((Below.refl _ _).alloc (by simp) _).alloc (by simp) _).alloc (by simp; omega) _)
  have hx0 : (w.alloc (.cells (scrA s (.slice ca s.cs.length cc) (.slice ta s.tabs.length tc) (.slice ga s.gone.length gc)) 32)).heap[w.heap.size]? = some (.cells (scrA s (.slice ca s.cs.length cc) (.slice ta s.tabs.length tc) (.slice ga s.gone.length gc)) 32 (0, 0)) := by
    have h := heap_alloc_new w (.cells (scrA s (.slice ca s.cs.length cc) (.slice ta s.tabs.length tc) (.slice ga s.gone.length gc)) 32)
    have e : w.heap.size = w.heap.size := by simp
    rw [e] at h
    exact h
  have hx0 := (Below.heap_alloc (w.alloc (.cells (scrA s (.slice ca s.cs.length cc) (.slice ta s.tabs.length tc) (.slice ga s.gone.length gc)) 32)) (.cells #[.func (.func tf) #[] tcaps] 83) _ (heap_lt hx0)).trans hx0
  have hx0 := (Below.heap_alloc ((w.alloc (.cells (scrA s (.slice ca s.cs.length cc) (.slice ta s.tabs.length tc) (.slice ga s.gone.length gc)) 32)).alloc (.cells #[.func (.func tf) #[] tcaps] 83)) (.cells #[.int .i64 0, .int .i64 0, .slice none 0 0, .int .i64 0, .int .i64 0, .bool false, .int .i64 0, .int .i64 0, .int .i64 0, .int .i64 0, .int .i64 0, .int .i64 0, .slice none 0 0, .int .i64 0, .int .i64 0, .int .i64 0, .int .i64 0, .int .i64 0, .int .i64 0, .int .i32 0, .string ⟨#[]⟩, .slice none 0 0] 32) _ (heap_lt hx0)).trans hx0
  have hx1 : ((w.alloc (.cells (scrA s (.slice ca s.cs.length cc) (.slice ta s.tabs.length tc) (.slice ga s.gone.length gc)) 32)).alloc (.cells #[.func (.func tf) #[] tcaps] 83)).heap[w.heap.size + 1]? = some (.cells #[.func (.func tf) #[] tcaps] 83 (0, 0)) := by
    have h := heap_alloc_new (w.alloc (.cells (scrA s (.slice ca s.cs.length cc) (.slice ta s.tabs.length tc) (.slice ga s.gone.length gc)) 32)) (.cells #[.func (.func tf) #[] tcaps] 83)
    have e : (w.alloc (.cells (scrA s (.slice ca s.cs.length cc) (.slice ta s.tabs.length tc) (.slice ga s.gone.length gc)) 32)).heap.size = w.heap.size + 1 := by simp
    rw [e] at h
    exact h
  have hx1 := (Below.heap_alloc ((w.alloc (.cells (scrA s (.slice ca s.cs.length cc) (.slice ta s.tabs.length tc) (.slice ga s.gone.length gc)) 32)).alloc (.cells #[.func (.func tf) #[] tcaps] 83)) (.cells #[.int .i64 0, .int .i64 0, .slice none 0 0, .int .i64 0, .int .i64 0, .bool false, .int .i64 0, .int .i64 0, .int .i64 0, .int .i64 0, .int .i64 0, .int .i64 0, .slice none 0 0, .int .i64 0, .int .i64 0, .int .i64 0, .int .i64 0, .int .i64 0, .int .i64 0, .int .i32 0, .string ⟨#[]⟩, .slice none 0 0] 32) _ (heap_lt hx1)).trans hx1
  have hx2 : (((w.alloc (.cells (scrA s (.slice ca s.cs.length cc) (.slice ta s.tabs.length tc) (.slice ga s.gone.length gc)) 32)).alloc (.cells #[.func (.func tf) #[] tcaps] 83)).alloc (.cells #[.int .i64 0, .int .i64 0, .slice none 0 0, .int .i64 0, .int .i64 0, .bool false, .int .i64 0, .int .i64 0, .int .i64 0, .int .i64 0, .int .i64 0, .int .i64 0, .slice none 0 0, .int .i64 0, .int .i64 0, .int .i64 0, .int .i64 0, .int .i64 0, .int .i64 0, .int .i32 0, .string ⟨#[]⟩, .slice none 0 0] 32)).heap[w.heap.size + 2]? = some (.cells #[.int .i64 0, .int .i64 0, .slice none 0 0, .int .i64 0, .int .i64 0, .bool false, .int .i64 0, .int .i64 0, .int .i64 0, .int .i64 0, .int .i64 0, .int .i64 0, .slice none 0 0, .int .i64 0, .int .i64 0, .int .i64 0, .int .i64 0, .int .i64 0, .int .i64 0, .int .i32 0, .string ⟨#[]⟩, .slice none 0 0] 32 (0, 0)) := by
    have h := heap_alloc_new ((w.alloc (.cells (scrA s (.slice ca s.cs.length cc) (.slice ta s.tabs.length tc) (.slice ga s.gone.length gc)) 32)).alloc (.cells #[.func (.func tf) #[] tcaps] 83)) (.cells #[.int .i64 0, .int .i64 0, .slice none 0 0, .int .i64 0, .int .i64 0, .bool false, .int .i64 0, .int .i64 0, .int .i64 0, .int .i64 0, .int .i64 0, .int .i64 0, .slice none 0 0, .int .i64 0, .int .i64 0, .int .i64 0, .int .i64 0, .int .i64 0, .int .i64 0, .int .i32 0, .string ⟨#[]⟩, .slice none 0 0] 32)
    have e : ((w.alloc (.cells (scrA s (.slice ca s.cs.length cc) (.slice ta s.tabs.length tc) (.slice ga s.gone.length gc)) 32)).alloc (.cells #[.func (.func tf) #[] tcaps] 83)).heap.size = w.heap.size + 2 := by simp
    rw [e] at h
    exact h
  have HX0 : Hid _ := hx0
  have HXR : Hid _ := hx2
  have HKB : Hid _ := hkb
  have HC := hC _ (w.heap.size + 1) hkb (cell_one hx1)
  have hsz : w.heap.size ≤ (((w.alloc (.cells (scrA s (.slice ca s.cs.length cc) (.slice ta s.tabs.length tc) (.slice ga s.gone.length gc)) 32)).alloc (.cells #[.func (.func tf) #[] tcaps] 83)).alloc (.cells #[.int .i64 0, .int .i64 0, .slice none 0 0, .int .i64 0, .int .i64 0, .bool false, .int .i64 0, .int .i64 0, .int .i64 0, .int .i64 0, .int .i64 0, .int .i64 0, .slice none 0 0, .int .i64 0, .int .i64 0, .int .i64 0, .int .i64 0, .int .i64 0, .int .i64 0, .int .i32 0, .string ⟨#[]⟩, .slice none 0 0] 32)).heap.size := hkb.size
  clear hkb hV hC hx0 hx1 hx2
  go_enter Tryd.func71, Tryd.ntmps71
  go_upto_region 1 with fail
  generalize (((w.alloc (.cells (scrA s (.slice ca s.cs.length cc) (.slice ta s.tabs.length tc) (.slice ga s.gone.length gc)) 32)).alloc (.cells #[.func (.func tf) #[] tcaps] 83)).alloc (.cells #[.int .i64 0, .int .i64 0, .slice none 0 0, .int .i64 0, .int .i64 0, .bool false, .int .i64 0, .int .i64 0, .int .i64 0, .int .i64 0, .int .i64 0, .int .i64 0, .slice none 0 0, .int .i64 0, .int .i64 0, .int .i64 0, .int .i64 0, .int .i64 0, .int .i64 0, .int .i32 0, .string ⟨#[]⟩, .slice none 0 0] 32)) = X at *
  go_wp2_with (refine wpList_load_row rfl 32 (.tmp 2) rfl w.heap.size rfl _ _ _ _ HX0.out Tryd.underlying32 rfl (by kernel_rfl) ?_)
  refine HC.mono ?_
  rintro e V ⟨cv', tv', gv', rfl, hO, c2⟩
  obtain ⟨a1, n1, c1, a2, n2, c2', a3, n3, c3, rfl, rfl, rfl⟩ := hO.shapes
  have HO : Hid (ScrO V 0 _ s' _ _ _) := hO
  have HR : Hid (V.heap[w.heap.size + 2]? = _) := Grd.carry HXR.out c2
  have HB : Hid (Below w.heap.size w V) := HKB.out.trans (c2.mono HKB.out.size)
  clear hO c2 HC
  go_wp2_with (refine wpList_store_row rfl 32 (.tmp 4) (.tmp 9) rfl (w.heap.size + 2) (scrA s' (.slice a1 n1 c1) (.slice a2 n2 c2') (.slice a3 n3 c3)) rfl rfl _ _ HR.out (by kernel_rfl) rfl (scr_one _ _ _ _ _ _ _ _ _ _) ?_)
  (try simp only [Exit.inBlock, Exit.then])
  refine bodyPost_ret (v := .tuple #[.agg (scrA s' (.slice a1 n1 c1) (.slice a2 n2 c2') (.slice a3 n3 c3)), .int .i64 er]) ?_ rfl ⟨_, _, _, rfl, ?_, below_setRow HB.out (by omega) _⟩
  · exact Grd.results_row_tmp rfl _ _ (w.heap.size + 2) _ _ _ _ rfl (setRow_heap _ _ _ _ _ _ HR.out) Tryd.underlying32 rfl (by kernel_rfl) _ rfl
  · exact (ScrO.off HO.out HR.out screen_is (by omega) fun k hk => setRow_other _ _ _ _ hk).mono hsz
set_option maxHeartbeats 2000000 in
set_option maxRecDepth 100000 in
theorem left_calls (s s' : Scr) (cv tv gv : Value) (n : Int) (er : Int) (w0 w : World) (hV : ScrV w0 s cv tv gv) (hM : w0.heap.size ≤ w.heap.size)
    (hC : ∀ (W : World) (B1 : Nat), Below w.heap.size w W → W.cell? ⟨B1, 0, none⟩ = some (.int .i64 n) → Calls Tryd.prog 71 #[.agg (scrA s cv tv gv), .func (.func 74) #[] #[.pointer (some ⟨B1, 0, none⟩)]] W (Made w0 W s' er)) :
    Calls Tryd.prog 30 #[.agg (scrA s cv tv gv), .int .i64 n] w (Made w0 w s' er) := by
  obtain ⟨ca, cc, rfl⟩ := hV.c.shape
  obtain ⟨ta, tc, rfl⟩ := hV.t.slice
  obtain ⟨ga, gc, rfl⟩ := hV.g.slice
  have hkb : Below w.heap.size w (((w.alloc (.cells (scrA s (.slice ca s.cs.length cc) (.slice ta s.tabs.length tc) (.slice ga s.gone.length gc)) 32)).alloc (.cells #[.int .i64 n] 3)).alloc (.cells #[.int .i64 0, .int .i64 0, .slice none 0 0, .int .i64 0, .int .i64 0, .bool false, .int .i64 0, .int .i64 0, .int .i64 0, .int .i64 0, .int .i64 0, .int .i64 0, .slice none 0 0, .int .i64 0, .int .i64 0, .int .i64 0, .int .i64 0, .int .i64 0, .int .i64 0, .int .i32 0, .string ⟨#[]⟩, .slice none 0 0] 32)) := ((((Below.refl _ _).alloc (by simp) _).alloc (by simp) _).alloc (by simp; omega) _)
  have hx0 : (w.alloc (.cells (scrA s (.slice ca s.cs.length cc) (.slice ta s.tabs.length tc) (.slice ga s.gone.length gc)) 32)).heap[w.heap.size]? = some (.cells (scrA s (.slice ca s.cs.length cc) (.slice ta s.tabs.length tc) (.slice ga s.gone.length gc)) 32 (0, 0)) := by
    have h := heap_alloc_new w (.cells (scrA s (.slice ca s.cs.length cc) (.slice ta s.tabs.length tc) (.slice ga s.gone.length gc)) 32)
    have e : w.heap.size = w.heap.size := by simp
    rw [e] at h
    exact h
  have hx0 := (Below.heap_alloc (w.alloc (.cells (scrA s (.slice ca s.cs.length cc) (.slice ta s.tabs.length tc) (.slice ga s.gone.length gc)) 32)) (.cells #[.int .i64 n] 3) _ (heap_lt hx0)).trans hx0
  have hx0 := (Below.heap_alloc ((w.alloc (.cells (scrA s (.slice ca s.cs.length cc) (.slice ta s.tabs.length tc) (.slice ga s.gone.length gc)) 32)).alloc (.cells #[.int .i64 n] 3)) (.cells #[.int .i64 0, .int .i64 0, .slice none 0 0, .int .i64 0, .int .i64 0, .bool false, .int .i64 0, .int .i64 0, .int .i64 0, .int .i64 0, .int .i64 0, .int .i64 0, .slice none 0 0, .int .i64 0, .int .i64 0, .int .i64 0, .int .i64 0, .int .i64 0, .int .i64 0, .int .i32 0, .string ⟨#[]⟩, .slice none 0 0] 32) _ (heap_lt hx0)).trans hx0
  have hx1 : ((w.alloc (.cells (scrA s (.slice ca s.cs.length cc) (.slice ta s.tabs.length tc) (.slice ga s.gone.length gc)) 32)).alloc (.cells #[.int .i64 n] 3)).heap[w.heap.size + 1]? = some (.cells #[.int .i64 n] 3 (0, 0)) := by
    have h := heap_alloc_new (w.alloc (.cells (scrA s (.slice ca s.cs.length cc) (.slice ta s.tabs.length tc) (.slice ga s.gone.length gc)) 32)) (.cells #[.int .i64 n] 3)
    have e : (w.alloc (.cells (scrA s (.slice ca s.cs.length cc) (.slice ta s.tabs.length tc) (.slice ga s.gone.length gc)) 32)).heap.size = w.heap.size + 1 := by simp
    rw [e] at h
    exact h
  have hx1 := (Below.heap_alloc ((w.alloc (.cells (scrA s (.slice ca s.cs.length cc) (.slice ta s.tabs.length tc) (.slice ga s.gone.length gc)) 32)).alloc (.cells #[.int .i64 n] 3)) (.cells #[.int .i64 0, .int .i64 0, .slice none 0 0, .int .i64 0, .int .i64 0, .bool false, .int .i64 0, .int .i64 0, .int .i64 0, .int .i64 0, .int .i64 0, .int .i64 0, .slice none 0 0, .int .i64 0, .int .i64 0, .int .i64 0, .int .i64 0, .int .i64 0, .int .i64 0, .int .i32 0, .string ⟨#[]⟩, .slice none 0 0] 32) _ (heap_lt hx1)).trans hx1
  have hx2 : (((w.alloc (.cells (scrA s (.slice ca s.cs.length cc) (.slice ta s.tabs.length tc) (.slice ga s.gone.length gc)) 32)).alloc (.cells #[.int .i64 n] 3)).alloc (.cells #[.int .i64 0, .int .i64 0, .slice none 0 0, .int .i64 0, .int .i64 0, .bool false, .int .i64 0, .int .i64 0, .int .i64 0, .int .i64 0, .int .i64 0, .int .i64 0, .slice none 0 0, .int .i64 0, .int .i64 0, .int .i64 0, .int .i64 0, .int .i64 0, .int .i64 0, .int .i32 0, .string ⟨#[]⟩, .slice none 0 0] 32)).heap[w.heap.size + 2]? = some (.cells #[.int .i64 0, .int .i64 0, .slice none 0 0, .int .i64 0, .int .i64 0, .bool false, .int .i64 0, .int .i64 0, .int .i64 0, .int .i64 0, .int .i64 0, .int .i64 0, .slice none 0 0, .int .i64 0, .int .i64 0, .int .i64 0, .int .i64 0, .int .i64 0, .int .i64 0, .int .i32 0, .string ⟨#[]⟩, .slice none 0 0] 32 (0, 0)) := by
    have h := heap_alloc_new ((w.alloc (.cells (scrA s (.slice ca s.cs.length cc) (.slice ta s.tabs.length tc) (.slice ga s.gone.length gc)) 32)).alloc (.cells #[.int .i64 n] 3)) (.cells #[.int .i64 0, .int .i64 0, .slice none 0 0, .int .i64 0, .int .i64 0, .bool false, .int .i64 0, .int .i64 0, .int .i64 0, .int .i64 0, .int .i64 0, .int .i64 0, .slice none 0 0, .int .i64 0, .int .i64 0, .int .i64 0, .int .i64 0, .int .i64 0, .int .i64 0, .int .i32 0, .string ⟨#[]⟩, .slice none 0 0] 32)
    have e : ((w.alloc (.cells (scrA s (.slice ca s.cs.length cc) (.slice ta s.tabs.length tc) (.slice ga s.gone.length gc)) 32)).alloc (.cells #[.int .i64 n] 3)).heap.size = w.heap.size + 2 := by simp
    rw [e] at h
    exact h
  have HX0 : Hid _ := hx0
  have HXR : Hid _ := hx2
  have HKB : Hid _ := hkb
  have HC := hC _ (w.heap.size + 1) hkb (cell_one hx1)
  have hsz : w.heap.size ≤ (((w.alloc (.cells (scrA s (.slice ca s.cs.length cc) (.slice ta s.tabs.length tc) (.slice ga s.gone.length gc)) 32)).alloc (.cells #[.int .i64 n] 3)).alloc (.cells #[.int .i64 0, .int .i64 0, .slice none 0 0, .int .i64 0, .int .i64 0, .bool false, .int .i64 0, .int .i64 0, .int .i64 0, .int .i64 0, .int .i64 0, .int .i64 0, .slice none 0 0, .int .i64 0, .int .i64 0, .int .i64 0, .int .i64 0, .int .i64 0, .int .i64 0, .int .i32 0, .string ⟨#[]⟩, .slice none 0 0] 32)).heap.size := hkb.size
  clear hkb hV hC hx0 hx1 hx2
  go_enter Tryd.func30, Tryd.ntmps30
  go_upto_region 1 with fail
  generalize (((w.alloc (.cells (scrA s (.slice ca s.cs.length cc) (.slice ta s.tabs.length tc) (.slice ga s.gone.length gc)) 32)).alloc (.cells #[.int .i64 n] 3)).alloc (.cells #[.int .i64 0, .int .i64 0, .slice none 0 0, .int .i64 0, .int .i64 0, .bool false, .int .i64 0, .int .i64 0, .int .i64 0, .int .i64 0, .int .i64 0, .int .i64 0, .slice none 0 0, .int .i64 0, .int .i64 0, .int .i64 0, .int .i64 0, .int .i64 0, .int .i64 0, .int .i32 0, .string ⟨#[]⟩, .slice none 0 0] 32)) = X at *
  go_wp2_with (refine wpList_load_row rfl 32 (.tmp 2) rfl w.heap.size rfl _ _ _ _ HX0.out Tryd.underlying32 rfl (by kernel_rfl) ?_)
  refine HC.mono ?_
  rintro e V ⟨cv', tv', gv', rfl, hO, c2⟩
  obtain ⟨a1, n1, c1, a2, n2, c2', a3, n3, c3, rfl, rfl, rfl⟩ := hO.shapes
  have HO : Hid (ScrO V 0 _ s' _ _ _) := hO
  have HR : Hid (V.heap[w.heap.size + 2]? = _) := Grd.carry HXR.out c2
  have HB : Hid (Below w.heap.size w V) := HKB.out.trans (c2.mono HKB.out.size)
  clear hO c2 HC
  go_wp2_with (refine wpList_store_row rfl 32 (.tmp 4) (.tmp 9) rfl (w.heap.size + 2) (scrA s' (.slice a1 n1 c1) (.slice a2 n2 c2') (.slice a3 n3 c3)) rfl rfl _ _ HR.out (by kernel_rfl) rfl (scr_one _ _ _ _ _ _ _ _ _ _) ?_)
  (try simp only [Exit.inBlock, Exit.then])
  refine bodyPost_ret (v := .tuple #[.agg (scrA s' (.slice a1 n1 c1) (.slice a2 n2 c2') (.slice a3 n3 c3)), .int .i64 er]) ?_ rfl ⟨_, _, _, rfl, ?_, below_setRow HB.out (by omega) _⟩
  · exact Grd.results_row_tmp rfl _ _ (w.heap.size + 2) _ _ _ _ rfl (setRow_heap _ _ _ _ _ _ HR.out) Tryd.underlying32 rfl (by kernel_rfl) _ rfl
  · exact (ScrO.off HO.out HR.out screen_is (by omega) fun k hk => setRow_other _ _ _ _ hk).mono hsz
set_option maxHeartbeats 2000000 in
set_option maxRecDepth 100000 in
theorem right_calls (s s' : Scr) (cv tv gv : Value) (n : Int) (er : Int) (w0 w : World) (hV : ScrV w0 s cv tv gv) (hM : w0.heap.size ≤ w.heap.size)
    (hC : ∀ (W : World) (B1 : Nat), Below w.heap.size w W → W.cell? ⟨B1, 0, none⟩ = some (.int .i64 n) → Calls Tryd.prog 71 #[.agg (scrA s cv tv gv), .func (.func 72) #[] #[.pointer (some ⟨B1, 0, none⟩)]] W (Made w0 W s' er)) :
    Calls Tryd.prog 29 #[.agg (scrA s cv tv gv), .int .i64 n] w (Made w0 w s' er) := by
  obtain ⟨ca, cc, rfl⟩ := hV.c.shape
  obtain ⟨ta, tc, rfl⟩ := hV.t.slice
  obtain ⟨ga, gc, rfl⟩ := hV.g.slice
  have hkb : Below w.heap.size w (((w.alloc (.cells (scrA s (.slice ca s.cs.length cc) (.slice ta s.tabs.length tc) (.slice ga s.gone.length gc)) 32)).alloc (.cells #[.int .i64 n] 3)).alloc (.cells #[.int .i64 0, .int .i64 0, .slice none 0 0, .int .i64 0, .int .i64 0, .bool false, .int .i64 0, .int .i64 0, .int .i64 0, .int .i64 0, .int .i64 0, .int .i64 0, .slice none 0 0, .int .i64 0, .int .i64 0, .int .i64 0, .int .i64 0, .int .i64 0, .int .i64 0, .int .i32 0, .string ⟨#[]⟩, .slice none 0 0] 32)) := ((((Below.refl _ _).alloc (by simp) _).alloc (by simp) _).alloc (by simp; omega) _)
  have hx0 : (w.alloc (.cells (scrA s (.slice ca s.cs.length cc) (.slice ta s.tabs.length tc) (.slice ga s.gone.length gc)) 32)).heap[w.heap.size]? = some (.cells (scrA s (.slice ca s.cs.length cc) (.slice ta s.tabs.length tc) (.slice ga s.gone.length gc)) 32 (0, 0)) := by
    have h := heap_alloc_new w (.cells (scrA s (.slice ca s.cs.length cc) (.slice ta s.tabs.length tc) (.slice ga s.gone.length gc)) 32)
    have e : w.heap.size = w.heap.size := by simp
    rw [e] at h
    exact h
  have hx0 := (Below.heap_alloc (w.alloc (.cells (scrA s (.slice ca s.cs.length cc) (.slice ta s.tabs.length tc) (.slice ga s.gone.length gc)) 32)) (.cells #[.int .i64 n] 3) _ (heap_lt hx0)).trans hx0
  have hx0 := (Below.heap_alloc ((w.alloc (.cells (scrA s (.slice ca s.cs.length cc) (.slice ta s.tabs.length tc) (.slice ga s.gone.length gc)) 32)).alloc (.cells #[.int .i64 n] 3)) (.cells #[.int .i64 0, .int .i64 0, .slice none 0 0, .int .i64 0, .int .i64 0, .bool false, .int .i64 0, .int .i64 0, .int .i64 0, .int .i64 0, .int .i64 0, .int .i64 0, .slice none 0 0, .int .i64 0, .int .i64 0, .int .i64 0, .int .i64 0, .int .i64 0, .int .i64 0, .int .i32 0, .string ⟨#[]⟩, .slice none 0 0] 32) _ (heap_lt hx0)).trans hx0
  have hx1 : ((w.alloc (.cells (scrA s (.slice ca s.cs.length cc) (.slice ta s.tabs.length tc) (.slice ga s.gone.length gc)) 32)).alloc (.cells #[.int .i64 n] 3)).heap[w.heap.size + 1]? = some (.cells #[.int .i64 n] 3 (0, 0)) := by
    have h := heap_alloc_new (w.alloc (.cells (scrA s (.slice ca s.cs.length cc) (.slice ta s.tabs.length tc) (.slice ga s.gone.length gc)) 32)) (.cells #[.int .i64 n] 3)
    have e : (w.alloc (.cells (scrA s (.slice ca s.cs.length cc) (.slice ta s.tabs.length tc) (.slice ga s.gone.length gc)) 32)).heap.size = w.heap.size + 1 := by simp
    rw [e] at h
    exact h
  have hx1 := (Below.heap_alloc ((w.alloc (.cells (scrA s (.slice ca s.cs.length cc) (.slice ta s.tabs.length tc) (.slice ga s.gone.length gc)) 32)).alloc (.cells #[.int .i64 n] 3)) (.cells #[.int .i64 0, .int .i64 0, .slice none 0 0, .int .i64 0, .int .i64 0, .bool false, .int .i64 0, .int .i64 0, .int .i64 0, .int .i64 0, .int .i64 0, .int .i64 0, .slice none 0 0, .int .i64 0, .int .i64 0, .int .i64 0, .int .i64 0, .int .i64 0, .int .i64 0, .int .i32 0, .string ⟨#[]⟩, .slice none 0 0] 32) _ (heap_lt hx1)).trans hx1
  have hx2 : (((w.alloc (.cells (scrA s (.slice ca s.cs.length cc) (.slice ta s.tabs.length tc) (.slice ga s.gone.length gc)) 32)).alloc (.cells #[.int .i64 n] 3)).alloc (.cells #[.int .i64 0, .int .i64 0, .slice none 0 0, .int .i64 0, .int .i64 0, .bool false, .int .i64 0, .int .i64 0, .int .i64 0, .int .i64 0, .int .i64 0, .int .i64 0, .slice none 0 0, .int .i64 0, .int .i64 0, .int .i64 0, .int .i64 0, .int .i64 0, .int .i64 0, .int .i32 0, .string ⟨#[]⟩, .slice none 0 0] 32)).heap[w.heap.size + 2]? = some (.cells #[.int .i64 0, .int .i64 0, .slice none 0 0, .int .i64 0, .int .i64 0, .bool false, .int .i64 0, .int .i64 0, .int .i64 0, .int .i64 0, .int .i64 0, .int .i64 0, .slice none 0 0, .int .i64 0, .int .i64 0, .int .i64 0, .int .i64 0, .int .i64 0, .int .i64 0, .int .i32 0, .string ⟨#[]⟩, .slice none 0 0] 32 (0, 0)) := by
    have h := heap_alloc_new ((w.alloc (.cells (scrA s (.slice ca s.cs.length cc) (.slice ta s.tabs.length tc) (.slice ga s.gone.length gc)) 32)).alloc (.cells #[.int .i64 n] 3)) (.cells #[.int .i64 0, .int .i64 0, .slice none 0 0, .int .i64 0, .int .i64 0, .bool false, .int .i64 0, .int .i64 0, .int .i64 0, .int .i64 0, .int .i64 0, .int .i64 0, .slice none 0 0, .int .i64 0, .int .i64 0, .int .i64 0, .int .i64 0, .int .i64 0, .int .i64 0, .int .i32 0, .string ⟨#[]⟩, .slice none 0 0] 32)
    have e : ((w.alloc (.cells (scrA s (.slice ca s.cs.length cc) (.slice ta s.tabs.length tc) (.slice ga s.gone.length gc)) 32)).alloc (.cells #[.int .i64 n] 3)).heap.size = w.heap.size + 2 := by simp
    rw [e] at h
    exact h
  have HX0 : Hid _ := hx0
  have HXR : Hid _ := hx2
  have HKB : Hid _ := hkb
  have HC := hC _ (w.heap.size + 1) hkb (cell_one hx1)
  have hsz : w.heap.size ≤ (((w.alloc (.cells (scrA s (.slice ca s.cs.length cc) (.slice ta s.tabs.length tc) (.slice ga s.gone.length gc)) 32)).alloc (.cells #[.int .i64 n] 3)).alloc (.cells #[.int .i64 0, .int .i64 0, .slice none 0 0, .int .i64 0, .int .i64 0, .bool false, .int .i64 0, .int .i64 0, .int .i64 0, .int .i64 0, .int .i64 0, .int .i64 0, .slice none 0 0, .int .i64 0, .int .i64 0, .int .i64 0, .int .i64 0, .int .i64 0, .int .i64 0, .int .i32 0, .string ⟨#[]⟩, .slice none 0 0] 32)).heap.size := hkb.size
  clear hkb hV hC hx0 hx1 hx2
  go_enter Tryd.func29, Tryd.ntmps29
  go_upto_region 1 with fail
  generalize (((w.alloc (.cells (scrA s (.slice ca s.cs.length cc) (.slice ta s.tabs.length tc) (.slice ga s.gone.length gc)) 32)).alloc (.cells #[.int .i64 n] 3)).alloc (.cells #[.int .i64 0, .int .i64 0, .slice none 0 0, .int .i64 0, .int .i64 0, .bool false, .int .i64 0, .int .i64 0, .int .i64 0, .int .i64 0, .int .i64 0, .int .i64 0, .slice none 0 0, .int .i64 0, .int .i64 0, .int .i64 0, .int .i64 0, .int .i64 0, .int .i64 0, .int .i32 0, .string ⟨#[]⟩, .slice none 0 0] 32)) = X at *
  go_wp2_with (refine wpList_load_row rfl 32 (.tmp 2) rfl w.heap.size rfl _ _ _ _ HX0.out Tryd.underlying32 rfl (by kernel_rfl) ?_)
  refine HC.mono ?_
  rintro e V ⟨cv', tv', gv', rfl, hO, c2⟩
  obtain ⟨a1, n1, c1, a2, n2, c2', a3, n3, c3, rfl, rfl, rfl⟩ := hO.shapes
  have HO : Hid (ScrO V 0 _ s' _ _ _) := hO
  have HR : Hid (V.heap[w.heap.size + 2]? = _) := Grd.carry HXR.out c2
  have HB : Hid (Below w.heap.size w V) := HKB.out.trans (c2.mono HKB.out.size)
  clear hO c2 HC
  go_wp2_with (refine wpList_store_row rfl 32 (.tmp 4) (.tmp 9) rfl (w.heap.size + 2) (scrA s' (.slice a1 n1 c1) (.slice a2 n2 c2') (.slice a3 n3 c3)) rfl rfl _ _ HR.out (by kernel_rfl) rfl (scr_one _ _ _ _ _ _ _ _ _ _) ?_)
  (try simp only [Exit.inBlock, Exit.then])
  refine bodyPost_ret (v := .tuple #[.agg (scrA s' (.slice a1 n1 c1) (.slice a2 n2 c2') (.slice a3 n3 c3)), .int .i64 er]) ?_ rfl ⟨_, _, _, rfl, ?_, below_setRow HB.out (by omega) _⟩
  · exact Grd.results_row_tmp rfl _ _ (w.heap.size + 2) _ _ _ _ rfl (setRow_heap _ _ _ _ _ _ HR.out) Tryd.underlying32 rfl (by kernel_rfl) _ rfl
  · exact (ScrO.off HO.out HR.out screen_is (by omega) fun k hk => setRow_other _ _ _ _ hk).mono hsz
set_option maxHeartbeats 2000000 in
set_option maxRecDepth 100000 in
theorem to_calls (s s' : Scr) (cv tv gv : Value) (a : Int) (b : Int) (er : Int) (w0 w : World) (hV : ScrV w0 s cv tv gv) (hM : w0.heap.size ≤ w.heap.size)
    (hC : ∀ (W : World) (B1 B2 : Nat), Below w.heap.size w W → W.cell? ⟨B1, 0, none⟩ = some (.int .i64 a) → W.cell? ⟨B2, 0, none⟩ = some (.int .i64 b) → Calls Tryd.prog 71 #[.agg (scrA s cv tv gv), .func (.func 75) #[] #[.pointer (some ⟨B1, 0, none⟩), .pointer (some ⟨B2, 0, none⟩)]] W (Made w0 W s' er)) :
    Calls Tryd.prog 31 #[.agg (scrA s cv tv gv), .int .i64 a, .int .i64 b] w (Made w0 w s' er) := by
  obtain ⟨ca, cc, rfl⟩ := hV.c.shape
  obtain ⟨ta, tc, rfl⟩ := hV.t.slice
  obtain ⟨ga, gc, rfl⟩ := hV.g.slice
  have hkb : Below w.heap.size w ((((w.alloc (.cells (scrA s (.slice ca s.cs.length cc) (.slice ta s.tabs.length tc) (.slice ga s.gone.length gc)) 32)).alloc (.cells #[.int .i64 a] 3)).alloc (.cells #[.int .i64 b] 3)).alloc (.cells #[.int .i64 0, .int .i64 0, .slice none 0 0, .int .i64 0, .int .i64 0, .bool false, .int .i64 0, .int .i64 0, .int .i64 0, .int .i64 0, .int .i64 0, .int .i64 0, .slice none 0 0, .int .i64 0, .int .i64 0, .int .i64 0, .int .i64 0, .int .i64 0, .int .i64 0, .int .i32 0, .string ⟨#[]⟩, .slice none 0 0] 32)) := (((((Below.refl _ _).alloc (by simp) _).alloc (by simp) _).alloc (by simp; omega) _).alloc (by simp; omega) _)
  have hx0 : (w.alloc (.cells (scrA s (.slice ca s.cs.length cc) (.slice ta s.tabs.length tc) (.slice ga s.gone.length gc)) 32)).heap[w.heap.size]? = some (.cells (scrA s (.slice ca s.cs.length cc) (.slice ta s.tabs.length tc) (.slice ga s.gone.length gc)) 32 (0, 0)) := by
    have h := heap_alloc_new w (.cells (scrA s (.slice ca s.cs.length cc) (.slice ta s.tabs.length tc) (.slice ga s.gone.length gc)) 32)
    have e : w.heap.size = w.heap.size := by simp
    rw [e] at h
    exact h
  have hx0 := (Below.heap_alloc (w.alloc (.cells (scrA s (.slice ca s.cs.length cc) (.slice ta s.tabs.length tc) (.slice ga s.gone.length gc)) 32)) (.cells #[.int .i64 a] 3) _ (heap_lt hx0)).trans hx0
  have hx0 := (Below.heap_alloc ((w.alloc (.cells (scrA s (.slice ca s.cs.length cc) (.slice ta s.tabs.length tc) (.slice ga s.gone.length gc)) 32)).alloc (.cells #[.int .i64 a] 3)) (.cells #[.int .i64 b] 3) _ (heap_lt hx0)).trans hx0
  have hx0 := (Below.heap_alloc (((w.alloc (.cells (scrA s (.slice ca s.cs.length cc) (.slice ta s.tabs.length tc) (.slice ga s.gone.length gc)) 32)).alloc (.cells #[.int .i64 a] 3)).alloc (.cells #[.int .i64 b] 3)) (.cells #[.int .i64 0, .int .i64 0, .slice none 0 0, .int .i64 0, .int .i64 0, .bool false, .int .i64 0, .int .i64 0, .int .i64 0, .int .i64 0, .int .i64 0, .int .i64 0, .slice none 0 0, .int .i64 0, .int .i64 0, .int .i64 0, .int .i64 0, .int .i64 0, .int .i64 0, .int .i32 0, .string ⟨#[]⟩, .slice none 0 0] 32) _ (heap_lt hx0)).trans hx0
  have hx1 : ((w.alloc (.cells (scrA s (.slice ca s.cs.length cc) (.slice ta s.tabs.length tc) (.slice ga s.gone.length gc)) 32)).alloc (.cells #[.int .i64 a] 3)).heap[w.heap.size + 1]? = some (.cells #[.int .i64 a] 3 (0, 0)) := by
    have h := heap_alloc_new (w.alloc (.cells (scrA s (.slice ca s.cs.length cc) (.slice ta s.tabs.length tc) (.slice ga s.gone.length gc)) 32)) (.cells #[.int .i64 a] 3)
    have e : (w.alloc (.cells (scrA s (.slice ca s.cs.length cc) (.slice ta s.tabs.length tc) (.slice ga s.gone.length gc)) 32)).heap.size = w.heap.size + 1 := by simp
    rw [e] at h
    exact h
  have hx1 := (Below.heap_alloc ((w.alloc (.cells (scrA s (.slice ca s.cs.length cc) (.slice ta s.tabs.length tc) (.slice ga s.gone.length gc)) 32)).alloc (.cells #[.int .i64 a] 3)) (.cells #[.int .i64 b] 3) _ (heap_lt hx1)).trans hx1
  have hx1 := (Below.heap_alloc (((w.alloc (.cells (scrA s (.slice ca s.cs.length cc) (.slice ta s.tabs.length tc) (.slice ga s.gone.length gc)) 32)).alloc (.cells #[.int .i64 a] 3)).alloc (.cells #[.int .i64 b] 3)) (.cells #[.int .i64 0, .int .i64 0, .slice none 0 0, .int .i64 0, .int .i64 0, .bool false, .int .i64 0, .int .i64 0, .int .i64 0, .int .i64 0, .int .i64 0, .int .i64 0, .slice none 0 0, .int .i64 0, .int .i64 0, .int .i64 0, .int .i64 0, .int .i64 0, .int .i64 0, .int .i32 0, .string ⟨#[]⟩, .slice none 0 0] 32) _ (heap_lt hx1)).trans hx1
  have hx2 : (((w.alloc (.cells (scrA s (.slice ca s.cs.length cc) (.slice ta s.tabs.length tc) (.slice ga s.gone.length gc)) 32)).alloc (.cells #[.int .i64 a] 3)).alloc (.cells #[.int .i64 b] 3)).heap[w.heap.size + 2]? = some (.cells #[.int .i64 b] 3 (0, 0)) := by
    have h := heap_alloc_new ((w.alloc (.cells (scrA s (.slice ca s.cs.length cc) (.slice ta s.tabs.length tc) (.slice ga s.gone.length gc)) 32)).alloc (.cells #[.int .i64 a] 3)) (.cells #[.int .i64 b] 3)
    have e : ((w.alloc (.cells (scrA s (.slice ca s.cs.length cc) (.slice ta s.tabs.length tc) (.slice ga s.gone.length gc)) 32)).alloc (.cells #[.int .i64 a] 3)).heap.size = w.heap.size + 2 := by simp
    rw [e] at h
    exact h
  have hx2 := (Below.heap_alloc (((w.alloc (.cells (scrA s (.slice ca s.cs.length cc) (.slice ta s.tabs.length tc) (.slice ga s.gone.length gc)) 32)).alloc (.cells #[.int .i64 a] 3)).alloc (.cells #[.int .i64 b] 3)) (.cells #[.int .i64 0, .int .i64 0, .slice none 0 0, .int .i64 0, .int .i64 0, .bool false, .int .i64 0, .int .i64 0, .int .i64 0, .int .i64 0, .int .i64 0, .int .i64 0, .slice none 0 0, .int .i64 0, .int .i64 0, .int .i64 0, .int .i64 0, .int .i64 0, .int .i64 0, .int .i32 0, .string ⟨#[]⟩, .slice none 0 0] 32) _ (heap_lt hx2)).trans hx2
  have hx3 : ((((w.alloc (.cells (scrA s (.slice ca s.cs.length cc) (.slice ta s.tabs.length tc) (.slice ga s.gone.length gc)) 32)).alloc (.cells #[.int .i64 a] 3)).alloc (.cells #[.int .i64 b] 3)).alloc (.cells #[.int .i64 0, .int .i64 0, .slice none 0 0, .int .i64 0, .int .i64 0, .bool false, .int .i64 0, .int .i64 0, .int .i64 0, .int .i64 0, .int .i64 0, .int .i64 0, .slice none 0 0, .int .i64 0, .int .i64 0, .int .i64 0, .int .i64 0, .int .i64 0, .int .i64 0, .int .i32 0, .string ⟨#[]⟩, .slice none 0 0] 32)).heap[w.heap.size + 3]? = some (.cells #[.int .i64 0, .int .i64 0, .slice none 0 0, .int .i64 0, .int .i64 0, .bool false, .int .i64 0, .int .i64 0, .int .i64 0, .int .i64 0, .int .i64 0, .int .i64 0, .slice none 0 0, .int .i64 0, .int .i64 0, .int .i64 0, .int .i64 0, .int .i64 0, .int .i64 0, .int .i32 0, .string ⟨#[]⟩, .slice none 0 0] 32 (0, 0)) := by
    have h := heap_alloc_new (((w.alloc (.cells (scrA s (.slice ca s.cs.length cc) (.slice ta s.tabs.length tc) (.slice ga s.gone.length gc)) 32)).alloc (.cells #[.int .i64 a] 3)).alloc (.cells #[.int .i64 b] 3)) (.cells #[.int .i64 0, .int .i64 0, .slice none 0 0, .int .i64 0, .int .i64 0, .bool false, .int .i64 0, .int .i64 0, .int .i64 0, .int .i64 0, .int .i64 0, .int .i64 0, .slice none 0 0, .int .i64 0, .int .i64 0, .int .i64 0, .int .i64 0, .int .i64 0, .int .i64 0, .int .i32 0, .string ⟨#[]⟩, .slice none 0 0] 32)
    have e : (((w.alloc (.cells (scrA s (.slice ca s.cs.length cc) (.slice ta s.tabs.length tc) (.slice ga s.gone.length gc)) 32)).alloc (.cells #[.int .i64 a] 3)).alloc (.cells #[.int .i64 b] 3)).heap.size = w.heap.size + 3 := by simp
    rw [e] at h
    exact h
  have HX0 : Hid _ := hx0
  have HXR : Hid _ := hx3
  have HKB : Hid _ := hkb
  have HC := hC _ (w.heap.size + 1) (w.heap.size + 2) hkb (cell_one hx1) (cell_one hx2)
  have hsz : w.heap.size ≤ ((((w.alloc (.cells (scrA s (.slice ca s.cs.length cc) (.slice ta s.tabs.length tc) (.slice ga s.gone.length gc)) 32)).alloc (.cells #[.int .i64 a] 3)).alloc (.cells #[.int .i64 b] 3)).alloc (.cells #[.int .i64 0, .int .i64 0, .slice none 0 0, .int .i64 0, .int .i64 0, .bool false, .int .i64 0, .int .i64 0, .int .i64 0, .int .i64 0, .int .i64 0, .int .i64 0, .slice none 0 0, .int .i64 0, .int .i64 0, .int .i64 0, .int .i64 0, .int .i64 0, .int .i64 0, .int .i32 0, .string ⟨#[]⟩, .slice none 0 0] 32)).heap.size := hkb.size
  clear hkb hV hC hx0 hx1 hx2 hx3
  go_enter Tryd.func31, Tryd.ntmps31
  go_upto_region 1 with fail
  generalize ((((w.alloc (.cells (scrA s (.slice ca s.cs.length cc) (.slice ta s.tabs.length tc) (.slice ga s.gone.length gc)) 32)).alloc (.cells #[.int .i64 a] 3)).alloc (.cells #[.int .i64 b] 3)).alloc (.cells #[.int .i64 0, .int .i64 0, .slice none 0 0, .int .i64 0, .int .i64 0, .bool false, .int .i64 0, .int .i64 0, .int .i64 0, .int .i64 0, .int .i64 0, .int .i64 0, .slice none 0 0, .int .i64 0, .int .i64 0, .int .i64 0, .int .i64 0, .int .i64 0, .int .i64 0, .int .i32 0, .string ⟨#[]⟩, .slice none 0 0] 32)) = X at *
  go_wp2_with (refine wpList_load_row rfl 32 (.tmp 3) rfl w.heap.size rfl _ _ _ _ HX0.out Tryd.underlying32 rfl (by kernel_rfl) ?_)
  refine HC.mono ?_
  rintro e V ⟨cv', tv', gv', rfl, hO, c2⟩
  obtain ⟨a1, n1, c1, a2, n2, c2', a3, n3, c3, rfl, rfl, rfl⟩ := hO.shapes
  have HO : Hid (ScrO V 0 _ s' _ _ _) := hO
  have HR : Hid (V.heap[w.heap.size + 3]? = _) := Grd.carry HXR.out c2
  have HB : Hid (Below w.heap.size w V) := HKB.out.trans (c2.mono HKB.out.size)
  clear hO c2 HC
  go_wp2_with (refine wpList_store_row rfl 32 (.tmp 6) (.tmp 11) rfl (w.heap.size + 3) (scrA s' (.slice a1 n1 c1) (.slice a2 n2 c2') (.slice a3 n3 c3)) rfl rfl _ _ HR.out (by kernel_rfl) rfl (scr_one _ _ _ _ _ _ _ _ _ _) ?_)
  (try simp only [Exit.inBlock, Exit.then])
  refine bodyPost_ret (v := .tuple #[.agg (scrA s' (.slice a1 n1 c1) (.slice a2 n2 c2') (.slice a3 n3 c3)), .int .i64 er]) ?_ rfl ⟨_, _, _, rfl, ?_, below_setRow HB.out (by omega) _⟩
  · exact Grd.results_row_tmp rfl _ _ (w.heap.size + 3) _ _ _ _ rfl (setRow_heap _ _ _ _ _ _ HR.out) Tryd.underlying32 rfl (by kernel_rfl) _ rfl
  · exact (ScrO.off HO.out HR.out screen_is (by omega) fun k hk => setRow_other _ _ _ _ hk).mono hsz
end Put
end Go.Proofs.YtnkeahfcpbepjaaDoor

/- Package move: what its calls make of a screen. -/
namespace Go.Proofs.YtnkeahfcpbepjaaDoor
set_option linter.unusedVariables false
open Go.ChangeShapes Go.WideShapes Go.ChangeAt Go.RowKit
namespace Put
open Grd (C SliceAt CellsAt gridErr z0 nilV flat rowsL)
/-- A screen that came in, where it lies. -/
structure Came (w0 w : World) (s : Scr) (cv tv gv : Value) : Prop where
  t : Txt.Tab w
  v : ScrV w0 s cv tv gv
  b : Below w0.heap.size w0 w
  f : Fits s
theorem Came.next {w0 w W : World} {s : Scr} {cv tv gv : Value} (h : Came w0 w s cv tv gv) (hb : Below w.heap.size w W) : Came w0 W s cv tv gv := ⟨Grd.Tab.next h.t hb, h.v, h.b.trans (hb.mono h.b.size), h.f⟩
theorem mchange_bad {w0 w : World} {s : Scr} {cv tv gv : Value} (h : Came w0 w s cv tv gv) (hz : scrErr s ≠ 0) (df : FuncId) (caps : Array Value) : Calls Tryd.prog 121 #[.agg (scrA s cv tv gv), .func (.func df) #[] caps] w (Made w0 w zScr (scrErr s)) :=
  mchange_any s zScr cv tv gv df caps w0 w h.t h.v h.b h.f fun W _ => made_bad s cv tv gv (scrErr s) hz _ w0 W h.v
/-- What a closure makes of a right screen. -/
def Makes (df : FuncId) (caps : Array Value) (w0 w : World) (n hh : Nat) (s s' : Scr) (rows' : List (List C)) : Prop := ∀ w1, Below w.heap.size w w1 → Does df caps w0.heap.size w1 s s' (rowsL n s.cs hh) rows'
theorem mchange_good {w0 w : World} {s s' : Scr} {cv tv gv : Value} {n hh : Nat} (h : Came w0 w s cv tv gv) (hz : scrErr s = 0) (hR : RightS s n hh) (df : FuncId) (hpl : Plain df) (caps : Array Value) (rows' : List (List C)) (cs' : List C) (hM : Makes df caps w0 w n hh s s' rows') (hO : RowsOk s' rows') (hcs : rows'.flatten = cs') :
    Calls Tryd.prog 121 #[.agg (scrA s cv tv gv), .func (.func df) #[] caps] w (Made w0 w { s' with cs := cs' } (scrErr s)) :=
  mchange_any s _ cv tv gv df caps w0 w h.t h.v h.b h.f fun W hW => by
    rw [hz]
    exact change_good n hh s s' rows' cv tv gv df hpl caps w0 W h.v (h.b.trans (hW.mono h.b.size)) h.f hR.w hR.h hR.gz (fun w1 hw1 => hM w1 (hW.trans (hw1.mono hW.size))) hO cs' hcs
theorem plain_moved : Plain 122 := by
  intro args W
  kernel_rfl
theorem moved_bad {w0 w : World} {s : Scr} {cv tv gv : Value} (h : Came w0 w s cv tv gv) (hz : scrErr s ≠ 0) (tf : FuncId) (tcaps : Array Value) : Calls Tryd.prog 71 #[.agg (scrA s cv tv gv), .func (.func tf) #[] tcaps] w (Made w0 w zScr (scrErr s)) :=
  moved_calls s zScr cv tv gv tf tcaps (scrErr s) w0 w h.v h.b.size fun _ _ hW _ => mchange_bad (h.next hW) hz _ _
theorem moved_good {w0 w : World} {s s1 : Scr} {cv tv gv : Value} {n hh : Nat} (h : Came w0 w s cv tv gv) (hz : scrErr s = 0) (hR : RightS s n hh) (tf : FuncId) (hpl : Plain tf) (tcaps : Array Value)
    (hM : ∀ w1, Below w.heap.size w w1 → Does tf tcaps w0.heap.size w1 (onTime s) s1 (rowsL n s.cs hh) (rowsL n s.cs hh)) (hw : s1.w = s.w) (hh' : s1.h = s.h) (hg : s1.gone = s.gone) :
    Calls Tryd.prog 71 #[.agg (scrA s cv tv gv), .func (.func tf) #[] tcaps] w (Made w0 w { heldScr s1 with cs := s.cs } 0) := by
  have n1 := hR.n1
  have n2 := hR.n2
  have h1 := hR.h1
  have h2 := hR.h2
  have ew := hR.w
  have eh := hR.h
  rw [← hz]
  exact moved_calls s _ cv tv gv tf tcaps (scrErr s) w0 w h.v h.b.size fun W B hW hB => mchange_good (h.next hW) hz hR _ plain_moved _ (rowsL n s.cs hh) s.cs (fun w1 hw1 => moved_does tf hpl tcaps B _ w1 s s1 _ _ (cell_stay hw1 hB) (hM w1 (hW.trans (hw1.mono hW.size))) (by omega) (by omega) (by omega) (by omega)) (hR.rows hg) hR.flatten
end Put
end Go.Proofs.YtnkeahfcpbepjaaDoor

/- move.Left's closure. -/
namespace Go.Proofs.YtnkeahfcpbepjaaDoor
open Go.ChangeShapes Go.WideShapes Go.ChangeAt Go.RowKit
namespace Put
open Grd (C)
set_option maxHeartbeats 2000000 in
theorem left_does (n : Int) (B M : Nat) (w : World) (s : Scr) (rows : List (List C)) (hB : w.cell? ⟨B, 0, none⟩ = some (.int .i64 n)) (h0 : 0 ≤ s.x) (h1 : s.x ≤ 120) :
    Does 74 #[.pointer (some ⟨B, 0, none⟩)] M w s { s with x := s.x - cnt n } rows rows := by
  intro W p hb hS
  have hc := cnt_range n
  obtain ⟨c0, c1, c3, c4, c5, c9, c10, c11, c19, f⟩ := hS.words
  have f3 := f 3
  have q0 := cell_stay hb hB
  have HE : Hid (∀ v', v' = Value.int .i64 (s.x - cnt n) → ShAt 109 (W.setCell ⟨p, 3, none⟩ v').drew M w.heap.size p { s with x := s.x - cnt n } rows ∧ Below w.heap.size W (W.setCell ⟨p, 3, none⟩ v').drew) := hS.fin sheet_is 3 _ (fun _ _ _ _ => rfl) rfl rfl
  have HC : Hid (∀ W, Calls Tryd.prog 73 #[.int .i64 n] W fun e w' => e = .returned (.int .i64 (cnt n)) ∧ W = w') := fun W => counted_any n W
  clear hS hb hB c0 c1 c4 c5 c9 c10 c11 c19 f
  generalize cnt n = k at *
  go_enter Tryd.func74, Tryd.ntmps74
  go_upto_region 0 with fail
  go_region_with (first | (go_at_call 73; refine (HC.out _).mono ?_; rintro e V ⟨rfl, hv⟩; subst hv))
  all_goals go_end0
  all_goals exact ⟨rfl, HE.out _ (int_wrap _ (by omega) (by omega))⟩
end Put
end Go.Proofs.YtnkeahfcpbepjaaDoor

/- move.Right's closure. -/
namespace Go.Proofs.YtnkeahfcpbepjaaDoor
open Go.ChangeShapes Go.WideShapes Go.ChangeAt Go.RowKit
namespace Put
open Grd (C)
set_option maxHeartbeats 2000000 in
theorem right_does (n : Int) (B M : Nat) (w : World) (s : Scr) (rows : List (List C)) (hB : w.cell? ⟨B, 0, none⟩ = some (.int .i64 n)) (h0 : 0 ≤ s.x) (h1 : s.x ≤ 120) :
    Does 72 #[.pointer (some ⟨B, 0, none⟩)] M w s { s with x := s.x + cnt n } rows rows := by
  intro W p hb hS
  have hc := cnt_range n
  obtain ⟨c0, c1, c3, c4, c5, c9, c10, c11, c19, f⟩ := hS.words
  have f3 := f 3
  have q0 := cell_stay hb hB
  have HE : Hid (∀ v', v' = Value.int .i64 (s.x + cnt n) → ShAt 109 (W.setCell ⟨p, 3, none⟩ v').drew M w.heap.size p { s with x := s.x + cnt n } rows ∧ Below w.heap.size W (W.setCell ⟨p, 3, none⟩ v').drew) := hS.fin sheet_is 3 _ (fun _ _ _ _ => rfl) rfl rfl
  have HC : Hid (∀ W, Calls Tryd.prog 73 #[.int .i64 n] W fun e w' => e = .returned (.int .i64 (cnt n)) ∧ W = w') := fun W => counted_any n W
  clear hS hb hB c0 c1 c4 c5 c9 c10 c11 c19 f
  generalize cnt n = k at *
  go_enter Tryd.func72, Tryd.ntmps72
  go_upto_region 0 with fail
  go_region_with (first | (go_at_call 73; refine (HC.out _).mono ?_; rintro e V ⟨rfl, hv⟩; subst hv))
  all_goals go_end0
  all_goals exact ⟨rfl, HE.out _ (int_wrap _ (by omega) (by omega))⟩
end Put
end Go.Proofs.YtnkeahfcpbepjaaDoor

/- toRow, toColumn; move.To's closure. -/
namespace Go.Proofs.YtnkeahfcpbepjaaDoor
open Go.ChangeShapes Go.WideShapes Go.ChangeAt Go.RowKit
namespace Put
open Grd (C)
theorem toColumn_any {M N p : Nat} {s : Scr} {rows : List (List C)} (n : Int) (W : World) (hS : ShAt 109 W M N p s rows) : Calls Tryd.prog 77 #[.pointer (some ⟨p, 0, none⟩), .int .i64 n] W fun e W' => e = .returned (.tuple #[]) ∧ ShAt 109 W' M N p { s with x := cnt n - 1 } rows ∧ Below N W W' := by
  obtain ⟨c0, c1, c3, c4, c5, c9, c10, c11, c19, f⟩ := hS.words
  have f3 := f 3
  have hc := cnt_range n
  have H1 := counted_any n W
  have HE : Hid (ShAt 109 (W.setCell ⟨p, 3, none⟩ (.int .i64 (cnt n - 1))) M N p { s with x := cnt n - 1 } rows ∧ Below N W (W.setCell ⟨p, 3, none⟩ (.int .i64 (cnt n - 1)))) := ⟨hS.set sheet_is 3 _ (fun _ _ _ _ => rfl) rfl rfl, (Below.refl _ _).setCell hS.lo _⟩
  clear c0 c1 c4 c5 c9 c10 c11 c19 f hS
  generalize cnt n = k at *
  go_enter Tryd.func77, Tryd.ntmps77
  go_wp2_with fail
  refine H1.mono ?_
  rintro e V ⟨rfl, hv⟩
  subst hv
  go_wp2_with fail
  go_end0
  exact ⟨rfl, HE.out⟩
/-- The row that a number tells. -/
def rowTo (s : Scr) (n : Int) : Int := if hasB s.modes 2 then min (s.top + (cnt n - 1)) s.bot else cnt n - 1
set_option maxHeartbeats 2000000 in
theorem toRow_any {M N p : Nat} {s : Scr} {rows : List (List C)} (n : Int) (W : World) (hS : ShAt 109 W M N p s rows) (h0 : 0 ≤ s.top) (h1 : s.top ≤ 60) : Calls Tryd.prog 76 #[.pointer (some ⟨p, 0, none⟩), .int .i64 n] W fun e W' => e = .returned (.tuple #[]) ∧ ShAt 109 W' M N p { s with y := rowTo s n } rows ∧ Below N W W' := by
  obtain ⟨c0, c1, c3, c4, c5, c9, c10, c11, c19, f⟩ := hS.words
  have f4 := f 4
  have hc := cnt_range n
  have H1 := counted_any n W
  have hS1 : ShAt 109 (W.setCell ⟨p, 4, none⟩ (.int .i64 (cnt n - 1))) M N p { s with y := cnt n - 1 } rows := hS.set sheet_is 4 _ (fun _ _ _ _ => rfl) rfl rfl
  have hB1 : Below N W (W.setCell ⟨p, 4, none⟩ (.int .i64 (cnt n - 1))) := (Below.refl _ _).setCell hS.lo _
  have H2 := has_any 2 _ hS1
  have HR : Hid (rowTo s n = if hasB s.modes 2 then min (s.top + (cnt n - 1)) s.bot else cnt n - 1) := rfl
  have hlo := hS.lo
  clear c0 c1 c5 c9 c10 c11 c19 f hS
  generalize rowTo s n = rt at *
  generalize cnt n = k at *
  cases hb : hasB s.modes 2 with
  | false =>
    rw [hb] at H2 HR
    go_enter Tryd.func76, Tryd.ntmps76
    go_wp2_with fail
    refine H1.mono ?_
    rintro e V ⟨rfl, hv⟩
    subst hv
    go_wp2_with fail
    refine H2.mono ?_
    rintro e V ⟨rfl, hv⟩
    subst hv
    go_wp2_with fail
    go_end0
    refine ⟨rfl, ?_, hB1⟩
    rw [HR.out]
    exact hS1
  | true =>
    rw [hb] at H2
    rw [hb] at HR
    have hmin := Grd.min2 (s.top + (k - 1)) s.bot
    have HS1 : Hid (ShAt 109 (W.setCell ⟨p, 4, none⟩ (.int .i64 (k - 1))) M N p { s with y := k - 1 } rows) := hS1
    have HB1 : Hid (Below N W (W.setCell ⟨p, 4, none⟩ (.int .i64 (k - 1)))) := hB1
    have HE : Hid (∀ v', v' = Value.int .i64 (min (s.top + (k - 1)) s.bot) → ShAt 109 ((W.setCell ⟨p, 4, none⟩ (.int .i64 (k - 1))).setCell ⟨p, 4, none⟩ v').drew M N p { s with y := min (s.top + (k - 1)) s.bot } rows ∧ Below N (W.setCell ⟨p, 4, none⟩ (.int .i64 (k - 1))) ((W.setCell ⟨p, 4, none⟩ (.int .i64 (k - 1))).setCell ⟨p, 4, none⟩ v').drew) := hS1.fin sheet_is 4 _ (fun _ _ _ _ => rfl) rfl rfl
    clear hS1 hB1
    go_enter Tryd.func76, Tryd.ntmps76
    go_wp2_with fail
    refine H1.mono ?_
    rintro e V ⟨rfl, hv⟩
    subst hv
    go_wp2_with fail
    refine H2.mono ?_
    rintro e V ⟨rfl, hv⟩
    subst hv
    go_upto_region 2 with fail
    obtain ⟨c0, c1, c3, d4, c5, c9, c10, c11, c19, f⟩ := HS1.out.words
    have g4 := f 4
    clear c0 c1 c3 c5 c11 c19 f c4 f4
    have hsum : IntKind.i64.wrap (s.top + (k - 1)) = s.top + (k - 1) := wrap_id _ (by omega) (by omega)
    generalize (W.setCell ⟨p, 4, none⟩ (.int .i64 (k - 1))) = X at *
    go_region
    all_goals go_end0
    all_goals refine ⟨rfl, ?_⟩
    all_goals rw [HR.out, if_pos trivial]
    all_goals exact ⟨(HE.out _ rfl).1, HB1.out.trans (HE.out _ rfl).2⟩
theorem to_does (a b : Int) (B1 B2 M : Nat) (w : World) (s : Scr) (rows : List (List C)) (hB1 : w.cell? ⟨B1, 0, none⟩ = some (.int .i64 a)) (hB2 : w.cell? ⟨B2, 0, none⟩ = some (.int .i64 b)) (h0 : 0 ≤ s.top) (h1 : s.top ≤ 60) :
    Does 75 #[.pointer (some ⟨B1, 0, none⟩), .pointer (some ⟨B2, 0, none⟩)] M w s { s with y := rowTo s a, x := cnt b - 1 } rows rows := by
  intro W p hb hS
  have q1 := cell_stay hb hB1
  have q2 : ∀ W', Below w.heap.size W W' → W'.cell? ⟨B2, 0, none⟩ = some (.int .i64 b) := fun W' h => cell_stay (hb.trans h) hB2
  have H1 := toRow_any a W hS h0 h1
  clear hS hB1 hB2
  go_enter Tryd.func75, Tryd.ntmps75
  go_wp2_with fail
  refine H1.mono ?_
  rintro e W1 ⟨rfl, hS1, b1⟩
  have q3 := q2 W1 b1
  have H2 := toColumn_any b W1 hS1
  clear q1 q2 hS1 H1
  go_wp2_with fail
  refine H2.mono ?_
  rintro e W2 ⟨rfl, hS2, b2⟩
  go_wp2_with fail
  go_end0
  exact ⟨rfl, hS2, b1.trans b2⟩
end Put
end Go.Proofs.YtnkeahfcpbepjaaDoor

/- Package move: each call, of a right screen. -/
namespace Go.Proofs.YtnkeahfcpbepjaaDoor
set_option linter.unusedVariables false
open Go.ChangeShapes Go.WideShapes Go.ChangeAt Go.RowKit
namespace Put
open Grd (C SliceAt CellsAt gridErr z0 nilV flat rowsL)
open Txt (wd)
/-- A screen whose cursor went somewhere, held within it. -/
def movedS (s : Scr) (x y : Int) : Scr := { s with late := false, x := withinI x 0 (s.w - 1), y := withinI y 0 (s.h - 1) }
theorem right_err {s : Scr} {n hh : Nat} (h : RightS s n hh) : scrErr s = 0 := by
  have hz := h.gz
  rw [← h.w, ← h.h] at hz
  have hp : placeOk s = true := by
    have := h.w
    have := h.h
    have := h.x0
    have := h.x1
    have := h.y0
    have := h.y1
    have := h.kx0
    have := h.kx1
    have := h.ky0
    have := h.ky1
    have := h.t0
    have := h.t1
    have := h.t2
    have := h.t3
    simp only [placeOk, hasC, regionOk, Bool.and_eq_true, Bool.or_eq_true, decide_eq_true_eq]
    omega
  have hr : restOk s = true := by
    simp only [restOk, Bool.and_eq_true, Bool.or_eq_true, Bool.not_eq_true', decide_eq_true_eq, decide_eq_false_iff_not]
    exact ⟨by rw [h.w, h.tl], h.la, h.ti⟩
  have hg : goneErr s.gone = 0 := by
    unfold goneErr
    rw [if_neg (by have := h.gl; omega)]
    have hb : goneBad s.gone = false := by
      unfold goneBad
      rw [List.any_eq_false]
      intro row hrow
      simp [h.gr row hrow]
    rw [hb]
    rfl
  unfold scrErr
  rw [if_neg (by rw [hz]; simp), if_neg (by rw [hp]; simp), if_neg (by rw [h.late]; simp), if_neg (by rw [h.looks]; simp), if_neg (by rw [hr]; simp), hg]
theorem moved_right {s : Scr} {n hh : Nat} (h : RightS s n hh) (x y : Int) : RightS (movedS s x y) n hh := by
  have n1 := h.n1
  have h1 := h.h1
  have ew := h.w
  have eh := h.h
  have hx : 0 ≤ withinI x 0 (s.w - 1) ∧ withinI x 0 (s.w - 1) < n := by unfold withinI; omega
  have hy : 0 ≤ withinI y 0 (s.h - 1) ∧ withinI y 0 (s.h - 1) < hh := by unfold withinI; omega
  exact ⟨h.w, h.h, h.n1, h.n2, h.h1, h.h2, h.cl, h.gz, hx.1, hx.2, hy.1, hy.2, h.kx0, h.kx1, h.ky0, h.ky1, h.t0, h.t1, h.t2, h.t3, rfl, h.looks, h.tl, h.la, h.ti, h.gl, h.gr⟩
theorem moved_fits {s : Scr} (h : Fits s) (x y : Int) : Fits (movedS s x y) := ⟨h.m0, h.m1, h.k0, h.k1, h.tl, h.gl, h.bl⟩
theorem plain_right : Plain 72 := by
  intro args W
  kernel_rfl
theorem right_any {w0 w : World} {s : Scr} {cv tv gv : Value} {n hh : Nat} (h : Came w0 w s cv tv gv) (hR : RightS s n hh) (k : Int) : Calls Tryd.prog 29 #[.agg (scrA s cv tv gv), .int .i64 k] w (Made w0 w (movedS s (s.x + cnt k) s.y) 0) := by
  have h1 := hR.x0
  have h2 := hR.x1
  have h3 := hR.n2
  exact right_calls s _ cv tv gv k 0 w0 w h.v h.b.size fun W B hW hB => moved_good (h.next hW) (right_err hR) hR _ plain_right _ (fun w1 hw1 => right_does k B _ w1 (onTime s) _ (cell_stay hw1 hB) h1 (by show s.x ≤ 120; omega)) rfl rfl rfl
theorem plain_left : Plain 74 := by
  intro args W
  kernel_rfl
theorem left_any {w0 w : World} {s : Scr} {cv tv gv : Value} {n hh : Nat} (h : Came w0 w s cv tv gv) (hR : RightS s n hh) (k : Int) : Calls Tryd.prog 30 #[.agg (scrA s cv tv gv), .int .i64 k] w (Made w0 w (movedS s (s.x - cnt k) s.y) 0) := by
  have h1 := hR.x0
  have h2 := hR.x1
  have h3 := hR.n2
  exact left_calls s _ cv tv gv k 0 w0 w h.v h.b.size fun W B hW hB => moved_good (h.next hW) (right_err hR) hR _ plain_left _ (fun w1 hw1 => left_does k B _ w1 (onTime s) _ (cell_stay hw1 hB) h1 (by show s.x ≤ 120; omega)) rfl rfl rfl
theorem plain_to : Plain 75 := by
  intro args W
  kernel_rfl
theorem to_any {w0 w : World} {s : Scr} {cv tv gv : Value} {n hh : Nat} (h : Came w0 w s cv tv gv) (hR : RightS s n hh) (a b : Int) : Calls Tryd.prog 31 #[.agg (scrA s cv tv gv), .int .i64 a, .int .i64 b] w (Made w0 w (movedS s (cnt b - 1) (rowTo s a)) 0) := by
  have h1 := hR.t0
  have h2 := hR.t1
  have h3 := hR.t2
  have h4 := hR.h2
  exact to_calls s _ cv tv gv a b 0 w0 w h.v h.b.size fun W B1 B2 hW hB1 hB2 => moved_good (h.next hW) (right_err hR) hR _ plain_to _ (fun w1 hw1 => to_does a b B1 B2 _ w1 (onTime s) _ (cell_stay hw1 hB1) (cell_stay hw1 hB2) h1 (by show s.top ≤ 60; omega)) rfl rfl rfl
end Put
end Go.Proofs.YtnkeahfcpbepjaaDoor

/- (*sheet.Sheet).alter: a row is made anew. -/
namespace Go.Proofs.YtnkeahfcpbepjaaDoor
open Go.ChangeShapes Go.WideShapes Go.ChangeAt Go.RowKit
namespace Put
open Grd (C SliceAt CellsAt gridErr z0 nilV flat rowsL OwnG RowB)
/-- Blocks of other types than those that a sheet writes to are kept. -/
def Other (t : TypeId) : Prop := t ≠ 109 ∧ t ≠ 4 ∧ t ≠ 22
def OtherO (o : Obj) : Prop := ∀ (A : Array Value) (t : TypeId) (f : Nat × Nat), o = .cells A t f → Other t
def Framed (W W' : World) : Prop := ∀ (k : Nat) (o : Obj), W.heap[k]? = some o → OtherO o → W'.heap[k]? = some o
theorem Framed.refl (W : World) : Framed W W := fun _ _ h _ => h
theorem Framed.trans {a b c : World} (h : Framed a b) (k : Framed b c) : Framed a c := fun i o hi ho => k i o (h i o hi ho) ho
theorem Framed.of_below {W W' : World} (h : Below W.heap.size W W') : Framed W W' := fun k _ hk _ => (h.block k (heap_lt hk)).trans hk
theorem Framed.store {W : World} {p i : Nat} {v : Value} {A : Array Value} {t : TypeId} (hp : W.heap[p]? = some (.cells A t (0, 0))) (ht : ¬ Other t) : Framed W (W.setCell ⟨p, i, none⟩ v) := fun k o hk ho => by
  have hne : k ≠ p := by
    intro e
    rw [e, hp] at hk
    injection hk with hk
    exact ht (ho A t (0, 0) hk.symm)
  exact (store_off hne).trans hk
theorem other_cells {A : Array Value} {t : TypeId} {f : Nat × Nat} (h : Other t) : OtherO (.cells A t f) := fun B u g e => by
  injection e with _ e _
  rw [← e]
  exact h
theorem not_other_sheet : ¬ Other 109 := fun h => h.1 rfl
theorem not_other_rows : ¬ Other 22 := fun h => h.2.2 rfl
theorem not_other_bool : ¬ Other 4 := fun h => h.2.1 rfl
theorem Framed.cell {W W' : World} (h : Framed W W') {k i : Nat} {A : Array Value} {t : TypeId} (hk : W.heap[k]? = some (.cells A t (0, 0))) (ho : Other t) : W'.cell? ⟨k, i, none⟩ = W.cell? ⟨k, i, none⟩ := by
  have h1 := h k _ hk (other_cells ho)
  simp only [World.cell?, h1, hk]
/-- What a sheet is behind a call that changes it. -/
def Ran (W : World) (M N p : Nat) (s' : Scr) (rows' : List (List C)) (e : Ending) (W' : World) : Prop := e = .returned (.tuple #[]) ∧ ShAt 109 W' M N p s' rows' ∧ Below N W W' ∧ Framed W W'
theorem own_rowB {W : World} {base : Nat} {v : Value} {row : List C} (h : OwnG W base v row) : ∃ g, base ≤ g ∧ RowB W g v row := by
  obtain ⟨g, cap, rest, ⟨t, rfl⟩, hv, hg, h1, h2, h3⟩ := h
  exact ⟨g, hg, cap, rest, hv, h1, h2, h3⟩
theorem ShA.storeRow {V : World} {M N p : Nat} {s : Scr} {rows : List (List C)} {cv tv gv rv : Value} {gvs vs : List Value} (h : ShA 109 V M N p s rows cv tv gv rv gvs vs) {rb rc y : Nat} (hrv : rv = .slice (some ⟨rb, 0, none⟩) rows.length rc) {v : Value} {row' : List C} (hr : RowIn V M v row') : ShA 109 (V.setCell ⟨rb, y, none⟩ v) M N p s (rows.set y row') cv tv gv rv gvs (vs.set y v) := by
  obtain ⟨hlo, A, f, hA⟩ := owns_block h.rws rb (by rw [hrv]; rfl)
  have hA0 : ∃ A, V.heap[rb]? = some (.cells A 22 (0, 0)) := by
    have h1 := h.rws
    rw [hrv] at h1
    obtain ⟨-, ⟨h1, -⟩ | ⟨g', cap, cur, hv, -, hh, -⟩⟩ := h1
    · injection h1 with h1
      cases h1
    · injection hv with hv1 _ _
      injection hv1 with hv1
      injection hv1 with hv1
      subst hv1
      exact ⟨cur, hh⟩
  obtain ⟨B, hB⟩ := hA0
  have hne : p ≠ rb := by
    intro e
    rw [← e, h.blk] at hB
    injection hB with hB
    injection hB with _ hB _
    exact absurd hB (by decide)
  have hK : Kept M V (V.setCell ⟨rb, y, none⟩ v) := Kept.store hB (by decide) (Nat.le_trans h.ml hlo)
  refine ⟨(store_off hne).trans h.blk, h.lo, h.ml, h.cvs, own_off h.tabs hB (by decide), owns_kept h.gone fun g hg => store_off fun e => h.two rb (by rw [hrv]; rfl) (by rw [hg, e]), h.gin.keep hK, ?_, (h.rin.set y v row' hr).keep hK, h.two⟩
  have h1 := h.rws
  rw [hrv] at h1 ⊢
  rw [List.length_set]
  exact own_set h1
end Put
end Go.Proofs.YtnkeahfcpbepjaaDoor

/- advance; (*sheet.Sheet).Feed. -/
namespace Go.Proofs.YtnkeahfcpbepjaaDoor
open Go.ChangeShapes Go.WideShapes Go.ChangeAt Go.RowKit
namespace Put
open Grd (C)
theorem ShAt.framed {W : World} {M N p i : Nat} {s : Scr} {rows : List (List C)} {v : Value} (h : ShAt 109 W M N p s rows) : Framed W (W.setCell ⟨p, i, none⟩ v) := by
  obtain ⟨cv, tv, gv, rv, gvs, vs, h⟩ := h
  exact Framed.store h.blk not_other_sheet
theorem ShAt.put {W : World} {M N p : Nat} {s s' : Scr} {rows : List (List C)} (h : ShAt 109 W M N p s rows) (i : Nat) (v : Value) (e : ∀ cv tv gv rv, (shA s cv tv gv rv).setIfInBounds i v = shA s' cv tv gv rv) (h1 : s'.tabs = s.tabs) (h2 : s'.gone = s.gone) : ShAt 109 (W.setCell ⟨p, i, none⟩ v) M N p s' rows ∧ Below N W (W.setCell ⟨p, i, none⟩ v) ∧ Framed W (W.setCell ⟨p, i, none⟩ v) := ⟨h.set sheet_is i v e h1 h2, (Below.refl _ _).setCell h.lo _, h.framed⟩
/-- Behind what was written. -/
def advS (s : Scr) (k : Int) : Scr := if s.x + k = s.w then { s with x := s.w - 1, late := hasB s.modes 4 } else { s with x := s.x + k }
set_option maxHeartbeats 2000000 in
theorem advance_any (W : World) (M N p : Nat) (s : Scr) (rows : List (List C)) (k : Int) (hS : ShAt 109 W M N p s rows) (h0 : 0 ≤ s.x) (h1 : s.x ≤ 120) (h2 : 0 ≤ k) (h3 : k ≤ 2) (w1 : 1 ≤ s.w) (w2 : s.w ≤ 120) :
    Calls Tryd.prog 106 #[.pointer (some ⟨p, 0, none⟩), .int .i64 k] W (Ran W M N p (advS s k) rows) := by
  obtain ⟨c0, c1, c3, c4, c5, c9, c10, c11, c19, f⟩ := hS.words
  have f3 := f 3
  obtain ⟨hS1, hB1, hF1⟩ := hS.put 3 (.int .i64 (s.x + k)) (s' := { s with x := s.x + k }) (fun _ _ _ _ => rfl) rfl rfl
  have HE : Hid (advS s k = if s.x + k = s.w then { s with x := s.w - 1, late := hasB s.modes 4 } else { s with x := s.x + k }) := rfl
  generalize advS s k = s' at *
  by_cases heq : s.x + k = s.w
  · have HE2 : Hid (s' = { s with x := s.w - 1, late := hasB s.modes 4 }) := by unfold Hid; rw [HE.out, if_pos heq]
    have hq : (s.x + k == s.w) = true := by rw [beq_iff_eq]; exact heq
    have HQ : Hid (s.x + k = s.w) := heq
    clear heq c1 c4 c5 c9 c10 c11 c19 f HE hS
    have HS1 : Hid (ShAt 109 (W.setCell ⟨p, 3, none⟩ (.int .i64 (s.x + k))) M N p { s with x := s.x + k } rows) := hS1
    have HB1 : Hid _ := hB1
    have HF1 : Hid (Framed W (W.setCell ⟨p, 3, none⟩ (.int .i64 (s.x + k)))) := hF1
    clear hS1 hB1 hF1
    have hwr : IntKind.i64.wrap (s.x + k) = s.x + k := wrap_id _ (by omega) (by omega)
    go_enter Tryd.func106, Tryd.ntmps106
    go_upto_region 1 with fail
    obtain ⟨d0, -, d3, -, -, -, -, -, -, df⟩ := HS1.out.words
    clear c0 c3 f3
    generalize (W.setCell ⟨p, 3, none⟩ (.int .i64 (s.x + k))) = X at *
    go_region
    have HSd : Hid (ShAt 109 X.drew M N p { s with x := s.x + k } rows) := HS1.out.drew
    have HB2 : Hid (Below N W X.drew) := HB1.out.drew
    have HF2 : Hid (Framed W X.drew) := HF1.out.trans (Framed.of_below ((Below.refl _ _).drew))
    obtain ⟨d0, -, d3, -, -, -, -, -, -, df⟩ := HSd.out.words
    have g3 := df 3
    clear HS1 HB1 HF1 df
    generalize X.drew = Y at *
    obtain ⟨hS3, hB3, hF3⟩ := HSd.out.put 3 (.int .i64 (s.w - 1)) (s' := { s with x := s.w - 1 }) (fun _ _ _ _ => rfl) rfl rfl
    have H2 := has_any 4 _ hS3
    obtain ⟨e0, -, e3, -, e5, -, -, -, -, ef⟩ := hS3.words
    obtain ⟨hS4, hB4, hF4⟩ := hS3.put 5 (.bool (hasB s.modes 4)) (s' := { s with x := s.w - 1, late := hasB s.modes 4 }) (fun _ _ _ _ => rfl) rfl rfl
    have HR : Hid (Ran W M N p s' rows (.returned (.tuple #[])) ((Y.setCell ⟨p, 3, none⟩ (.int .i64 (s.w - 1))).setCell ⟨p, 5, none⟩ (.bool (hasB s.modes 4)))) := by
      unfold Hid
      rw [HE2.out]
      exact ⟨rfl, hS4, HB2.out.trans (hB3.trans hB4), HF2.out.trans (hF3.trans hF4)⟩
    have g5 := ef 5
    clear hS3 hB3 hF3 hS4 hB4 hF4 ef e0 e3
    generalize hasB s.modes 4 = hb at *
    go_wp2_with fail
    refine H2.mono ?_
    rintro e V ⟨rfl, hv⟩
    subst hv
    go_wp2_with fail
    go_end0
    exact HR.out
  · have HE2 : Hid (s' = { s with x := s.x + k }) := by unfold Hid; rw [HE.out, if_neg heq]
    have hq : (s.x + k == s.w) = false := by rw [beq_eq_false_iff_ne]; exact heq
    clear heq c1 c4 c5 c9 c10 c11 c19 f HE hS
    have HS1 : Hid (ShAt 109 (W.setCell ⟨p, 3, none⟩ (.int .i64 (s.x + k))) M N p { s with x := s.x + k } rows) := hS1
    have HB1 : Hid _ := hB1
    have HF1 : Hid (Framed W (W.setCell ⟨p, 3, none⟩ (.int .i64 (s.x + k)))) := hF1
    clear hS1 hB1 hF1
    have hwr : IntKind.i64.wrap (s.x + k) = s.x + k := wrap_id _ (by omega) (by omega)
    go_enter Tryd.func106, Tryd.ntmps106
    go_upto_region 1 with fail
    obtain ⟨d0, -, d3, -, -, -, -, -, -, df⟩ := HS1.out.words
    clear c0 c3 f3 df
    generalize (W.setCell ⟨p, 3, none⟩ (.int .i64 (s.x + k))) = X at *
    go_region
    go_wp2_with fail
    go_end0
    rw [HE2.out]
    exact ⟨rfl, HS1.out.drew, HB1.out.drew, HF1.out.trans (Framed.of_below ((Below.refl _ _).drew))⟩
/-- A row further, where nothing rolls. -/
def feedS (s : Scr) : Scr := if s.y < s.h - 1 then { s with late := false, y := s.y + 1 } else { s with late := false }
set_option maxHeartbeats 2000000 in
theorem feed_plain (W : World) (M N p : Nat) (s : Scr) (rows : List (List C)) (hS : ShAt 109 W M N p s rows) (h0 : 0 ≤ s.y) (h1 : s.y ≤ 60) (w1 : 1 ≤ s.h) (w2 : s.h ≤ 60) (hne : s.y ≠ s.bot) :
    Calls Tryd.prog 103 #[.pointer (some ⟨p, 0, none⟩)] W (Ran W M N p (feedS s) rows) := by
  obtain ⟨c0, c1, c3, c4, c5, c9, c10, c11, c19, f⟩ := hS.words
  have f5 := f 5
  obtain ⟨hS1, hB1, hF1⟩ := hS.put 5 (.bool false) (s' := { s with late := false }) (fun _ _ _ _ => rfl) rfl rfl
  have HE : Hid (feedS s = if s.y < s.h - 1 then { s with late := false, y := s.y + 1 } else { s with late := false }) := rfl
  generalize feedS s = s' at *
  have hq : (s.y == s.bot) = false := by rw [beq_eq_false_iff_ne]; exact hne
  have HS1 : Hid (ShAt 109 (W.setCell ⟨p, 5, none⟩ (.bool false)) M N p { s with late := false } rows) := hS1
  have HB1 : Hid _ := hB1
  have HF1 : Hid (Framed W (W.setCell ⟨p, 5, none⟩ (.bool false))) := hF1
  clear hS1 hB1 hF1 hS hne c0 c1 c3 c4 c9 c10 c11 c19 f
  have hwr : IntKind.i64.wrap (s.h - 1) = s.h - 1 := wrap_id _ (by omega) (by omega)
  go_enter Tryd.func103, Tryd.ntmps103
  go_upto_region 1 with fail
  obtain ⟨-, d1, -, d4, -, -, d10, -, -, df⟩ := HS1.out.words
  clear c5 f5 df
  generalize (W.setCell ⟨p, 5, none⟩ (.bool false)) = X at *
  go_region
  have HSd : Hid (ShAt 109 X.drew M N p { s with late := false } rows) := HS1.out.drew
  have HB2 : Hid (Below N W X.drew) := HB1.out.drew
  have HF2 : Hid (Framed W X.drew) := HF1.out.trans (Framed.of_below ((Below.refl _ _).drew))
  clear d1 d4 d10 HS1 HB1 HF1
  generalize X.drew = Y at *
  obtain ⟨-, d1, -, d4, -, -, d10, -, -, df⟩ := HSd.out.words
  clear df
  by_cases hlt : s.y < s.h - 1
  · have HE2 : Hid (s' = { s with late := false, y := s.y + 1 }) := by unfold Hid; rw [HE.out, if_pos hlt]
    go_upto_region 3 with fail
    go_region
    have HSe : Hid (ShAt 109 Y.drew M N p { s with late := false } rows) := HSd.out.drew
    have HB3 : Hid (Below N W Y.drew) := HB2.out.drew
    have HF3 : Hid (Framed W Y.drew) := HF2.out.trans (Framed.of_below ((Below.refl _ _).drew))
    clear d1 d4 d10 HSd HB2 HF2
    generalize Y.drew = Z at *
    obtain ⟨-, d1, -, d4, -, -, d10, -, -, df⟩ := HSe.out.words
    have g4 := df 4
    have hw2 : IntKind.i64.wrap (s.y + 1) = s.y + 1 := wrap_id _ (by omega) (by omega)
    obtain ⟨hS4, hB4, hF4⟩ := HSe.out.put 4 (.int .i64 (s.y + 1)) (s' := { s with late := false, y := s.y + 1 }) (fun _ _ _ _ => rfl) rfl rfl
    have HR : Hid (Ran W M N p s' rows (.returned (.tuple #[])) (Z.setCell ⟨p, 4, none⟩ (.int .i64 (s.y + 1)))) := by
      unfold Hid
      rw [HE2.out]
      exact ⟨rfl, hS4, HB3.out.trans hB4, HF3.out.trans hF4⟩
    clear hS4 hB4 hF4 df
    go_wp2_with fail
    go_end0
    exact HR.out
  · have HE2 : Hid (s' = { s with late := false }) := by unfold Hid; rw [HE.out, if_neg hlt]
    go_upto_region 3 with fail
    go_region
    go_wp2_with fail
    go_end0
    rw [HE2.out]
    exact ⟨rfl, HSd.out.drew, HB2.out.drew, HF2.out.trans (Framed.of_below ((Below.refl _ _).drew))⟩
end Put
end Go.Proofs.YtnkeahfcpbepjaaDoor

/- halves.Mend of any row: halves of two runes that came together become blanks, too. -/
namespace Go.Proofs.YtnkeahfcpbepjaaDoor
open Go.ChangeShapes Go.WideShapes Go.ChangeAt Go.RowKit
namespace Grd
open Txt (wd)
/-- Does the cell have the half of another rune behind it? -/
def partB (cs : List C) (x : Nat) : Bool := decide (wd (cs.getD x z0).1 = 2) && decide (x + 1 < cs.length ∧ (cs.getD (x + 1) z0).1 = 0 ∧ (cs.getD x z0).2 ≠ (cs.getD (x + 1) z0).2)
/-- First halves of runes whose second half isn't theirs: blanks. -/
def unpart (cs : List C) : List C := (List.range cs.length).map fun x => if partB cs x then (32, (cs.getD x z0).2) else cs.getD x z0
theorem unpart_len (cs : List C) : (unpart cs).length = cs.length := by simp [unpart]
theorem unpart_at (cs : List C) (x : Nat) (hx : x < cs.length) : (unpart cs).getD x z0 = if partB cs x then (32, (cs.getD x z0).2) else cs.getD x z0 := by
  simp [unpart, List.getD, hx]
theorem unpart_alike (cs : List C) (h : Alike cs) : unpart cs = cs := by
  refine List.ext_getElem (unpart_len cs) fun i h1 h2 => ?_
  have e1 : (unpart cs).getD i z0 = (unpart cs)[i] := by simp [List.getD, h1]
  have e2 : cs.getD i z0 = cs[i] := by simp [List.getD, h2]
  rw [← e1, ← e2, unpart_at cs i h2]
  have hp : partB cs i = false := by
    unfold partB
    by_cases hw : wd (cs.getD i z0).1 = 2
    · by_cases hq : i + 1 < cs.length ∧ (cs.getD (i + 1) z0).1 = 0 ∧ (cs.getD i z0).2 ≠ (cs.getD (i + 1) z0).2
      · exact absurd (h i hq.1 hw hq.2.1) hq.2.2
      · rw [decide_eq_false hq, Bool.and_false]
    · rw [decide_eq_false hw, Bool.false_and]
  rw [hp]
  rfl
theorem wd_blank : wd 32 ≠ 2 := by decide +kernel
theorem wd_zero : wd 0 ≠ 2 := by decide +kernel
def mendStepG (cs : List C) (x : Nat) : List C := if loose cs x || partB cs x then setR cs x else cs
def mendToG (cs : List C) : Nat → List C
  | 0 => cs
  | k + 1 => mendStepG (mendToG cs k) k
theorem mendStepG_len (cs : List C) (x : Nat) : (mendStepG cs x).length = cs.length := by
  unfold mendStepG setR
  split <;> simp
theorem mendToG_len (cs : List C) : ∀ k, (mendToG cs k).length = cs.length
  | 0 => rfl
  | k + 1 => by
    show (mendStepG (mendToG cs k) k).length = _
    rw [mendStepG_len, mendToG_len cs k]
theorem step_at (cs : List C) (k j : Nat) (hk : k < cs.length) (b : Bool) : (if b then setR cs k else cs).getD j z0 = if j = k ∧ b = true then (32, (cs.getD k z0).2) else cs.getD j z0 := by
  cases b with
  | false => simp
  | true =>
    rw [if_pos rfl, setR_at cs k j hk]
    by_cases e : j = k
    · rw [if_pos e, if_pos ⟨e, rfl⟩]
    · rw [if_neg e, if_neg (fun h => e h.1)]
/-- Cell by cell: what is mended is what mending the other row makes; what isn't yet is as it was. -/
theorem mendG_at (cs : List C) : ∀ k, k ≤ cs.length → ∀ j, j < cs.length → (mendToG cs k).getD j z0 = (if j < k then (mendTo (unpart cs) k).getD j z0 else cs.getD j z0) ∧ (k ≤ j → (mendTo (unpart cs) k).getD j z0 = (unpart cs).getD j z0)
  | 0, _, j, _ => by
    rw [if_neg (by omega)]
    exact ⟨rfl, fun _ => rfl⟩
  | k + 1, hk, j, hj => by
    have ih := mendG_at cs k (by omega)
    have hkl : k < cs.length := by omega
    have lA := mendToG_len cs k
    have lB : (mendTo (unpart cs) k).length = cs.length := by rw [mendTo_len, unpart_len]
    have Ak : (mendToG cs k).getD k z0 = cs.getD k z0 := by rw [(ih k hkl).1, if_neg (by omega)]
    have Bk : (mendTo (unpart cs) k).getD k z0 = (unpart cs).getD k z0 := (ih k hkl).2 (Nat.le_refl _)
    have Ak1 : k + 1 < cs.length → (mendToG cs k).getD (k + 1) z0 = cs.getD (k + 1) z0 := fun h => by rw [(ih (k + 1) h).1, if_neg (by omega)]
    have Bk1 : k + 1 < cs.length → (mendTo (unpart cs) k).getD (k + 1) z0 = (unpart cs).getD (k + 1) z0 := fun h => (ih (k + 1) h).2 (by omega)
    have Ap : 0 < k → (mendToG cs k).getD (k - 1) z0 = (mendTo (unpart cs) k).getD (k - 1) z0 := fun h => by rw [(ih (k - 1) (by omega)).1, if_pos (by omega)]
    have pA : partB (mendToG cs k) k = partB cs k := by
      unfold partB
      rw [Ak, lA]
      by_cases h1 : k + 1 < cs.length
      · rw [Ak1 h1]
      · have e1 : ¬ (k + 1 < cs.length ∧ ((mendToG cs k).getD (k + 1) z0).1 = 0 ∧ (cs.getD k z0).2 ≠ ((mendToG cs k).getD (k + 1) z0).2) := fun h => h1 h.1
        have e2 : ¬ (k + 1 < cs.length ∧ (cs.getD (k + 1) z0).1 = 0 ∧ (cs.getD k z0).2 ≠ (cs.getD (k + 1) z0).2) := fun h => h1 h.1
        rw [decide_eq_false e1, decide_eq_false e2]
    have zero1 : k + 1 < cs.length → (((unpart cs).getD (k + 1) z0).1 = 0 ↔ (cs.getD (k + 1) z0).1 = 0) := fun h1 => by
      rw [unpart_at cs (k + 1) h1]
      by_cases hp : partB cs (k + 1) = true
      · rw [if_pos hp]
        unfold partB at hp
        simp only [Bool.and_eq_true, decide_eq_true_eq] at hp
        constructor
        · intro h
          exact absurd (show (32 : Int) = 0 from h) (by decide)
        · intro h
          rw [h] at hp
          exact absurd hp.1 wd_zero
      · rw [if_neg hp]
    -- the cell k, behind both steps
    have key : (if loose (mendToG cs k) k || partB (mendToG cs k) k then ((32 : Int), ((mendToG cs k).getD k z0).2) else (mendToG cs k).getD k z0) = (if loose (mendTo (unpart cs) k) k then ((32 : Int), ((mendTo (unpart cs) k).getD k z0).2) else (mendTo (unpart cs) k).getD k z0) := by
      rw [pA]
      by_cases hp : partB cs k = true
      · have hu : (unpart cs).getD k z0 = (32, (cs.getD k z0).2) := by rw [unpart_at cs k hkl, if_pos hp]
        have hlB : loose (mendTo (unpart cs) k) k = false := by
          unfold loose
          rw [Bk, hu]
          show (if (32 : Int) = 0 then _ else _) = false
          rw [if_neg (by decide)]
          show (decide (wd 32 = 2) && _) = false
          rw [decide_eq_false wd_blank]
          rfl
        rw [hp, Bool.or_true, if_pos rfl, hlB, if_neg (by decide), Bk, hu, Ak]
      · have hp' : partB cs k = false := by simpa using hp
        have hu : (unpart cs).getD k z0 = cs.getD k z0 := by rw [unpart_at cs k hkl, if_neg hp]
        have hll : loose (mendToG cs k) k = loose (mendTo (unpart cs) k) k := by
          unfold loose
          rw [Ak, Bk, hu, lA, lB]
          by_cases h0 : (cs.getD k z0).1 = 0
          · rw [if_pos h0, if_pos h0]
            by_cases hk0 : k = 0
            · simp [hk0]
            · rw [Ap (by omega)]
          · rw [if_neg h0, if_neg h0]
            by_cases h1 : k + 1 = cs.length
            · simp [h1]
            · have h2 : k + 1 < cs.length := by omega
              rw [Ak1 h2, Bk1 h2]
              congr 2
              rw [decide_eq_decide]
              exact not_congr (zero1 h2).symm
        rw [hp', Bool.or_false, hll, Ak, Bk, hu]
    have eA : (mendToG cs (k + 1)).getD j z0 = if j = k ∧ (loose (mendToG cs k) k || partB (mendToG cs k) k) = true then (32, ((mendToG cs k).getD k z0).2) else (mendToG cs k).getD j z0 := step_at _ k j (by rw [lA]; exact hkl) _
    have eB : (mendTo (unpart cs) (k + 1)).getD j z0 = if j = k ∧ loose (mendTo (unpart cs) k) k = true then (32, ((mendTo (unpart cs) k).getD k z0).2) else (mendTo (unpart cs) k).getD j z0 := step_at _ k j (by rw [lB]; exact hkl) _
    by_cases e : j = k
    · rw [eA, eB]
      subst e
      refine ⟨?_, fun h => by omega⟩
      rw [if_pos (by omega : j < j + 1)]
      simp only [true_and]
      exact key
    · have eA' : (mendToG cs (k + 1)).getD j z0 = (mendToG cs k).getD j z0 := by rw [eA, if_neg (fun h => e h.1)]
      have eB' : (mendTo (unpart cs) (k + 1)).getD j z0 = (mendTo (unpart cs) k).getD j z0 := by rw [eB, if_neg (fun h => e h.1)]
      rw [eA', eB']
      by_cases hlt : j < k
      · rw [if_pos (by omega : j < k + 1), (ih j hj).1, if_pos hlt]
        exact ⟨rfl, fun h => by omega⟩
      · rw [if_neg (by omega : ¬ j < k + 1), (ih j hj).1, if_neg hlt]
        exact ⟨rfl, fun _ => (ih j hj).2 (by omega)⟩
theorem mendG_eq (cs : List C) : mendToG cs cs.length = mendL (unpart cs) := by
  have hl : (mendL (unpart cs)).length = cs.length := by unfold mendL; rw [mendTo_len, unpart_len]
  refine List.ext_getElem (by rw [mendToG_len, hl]) fun i h1 h2 => ?_
  have hi : i < cs.length := by rw [mendToG_len] at h1; exact h1
  have e1 : (mendToG cs cs.length).getD i z0 = (mendToG cs cs.length)[i] := by simp [List.getD, h1]
  have e2 : (mendL (unpart cs)).getD i z0 = (mendL (unpart cs))[i] := by simp [List.getD, h2]
  rw [← e1, ← e2, (mendG_at cs cs.length (Nat.le_refl _) i hi).1, if_pos hi]
  unfold mendL
  rw [unpart_len]
end Grd
end Go.Proofs.YtnkeahfcpbepjaaDoor

/- halves.isParted and Mend of any row: the walks. -/
namespace Go.Proofs.YtnkeahfcpbepjaaDoor
open Go.ChangeShapes Go.WideShapes Go.ChangeAt Go.RowKit
namespace Grd
open Txt (wd)
set_option maxHeartbeats 1000000 in
theorem parted_two (b o c : Nat) (cs : List C) (x : Nat) (r f bk xx f2 b2 x2 : Int) (w : World) (hT : Txt.Tab w) (hx : x + 1 < cs.length) (hn : cs.length ≤ 1000000)
    (h0 : w.cell? ⟨b, o + x * 4, none⟩ = some (.int .i32 r)) (h1 : w.cell? ⟨b, o + x * 4 + 1, none⟩ = some (.int .i64 f)) (h2 : w.cell? ⟨b, o + x * 4 + 2, none⟩ = some (.int .i64 bk)) (h3 : w.cell? ⟨b, o + x * 4 + 3, none⟩ = some (.int .i64 xx))
    (p1 : w.cell? ⟨b, o + (x + 1) * 4 + 1, none⟩ = some (.int .i64 f2)) (p2 : w.cell? ⟨b, o + (x + 1) * 4 + 2, none⟩ = some (.int .i64 b2)) (p3 : w.cell? ⟨b, o + (x + 1) * 4 + 3, none⟩ = some (.int .i64 x2)) (hw : wd r = 2) (d : Bool) (hd : d = decide ((f, bk, xx) ≠ (f2, b2, x2))) :
    Calls Tryd.prog 164 #[.slice (some ⟨b, o, none⟩) cs.length c, .int .i64 (x : Int)] w fun e w' => e = .returned (.bool d) ∧ Below w.heap.size w w' := by
  have HT : Hid (Txt.Tab w) := hT
  have hx0 : x < cs.length := by omega
  have hwr : IntKind.i64.wrap ((x : Int) + 1) = (x : Int) + 1 := by unfold IntKind.wrap; simp [IntKind.bits, IntKind.signed]; omega
  have hx1 : (0 : Int) ≤ (x : Int) + 1 := by omega
  have hx2 : (x : Int) + 1 < (cs.length : Int) := by omega
  have hx3 : ((x : Int) + 1).toNat = x + 1 := by omega
  have nq : ∀ w, (binOp .neq 26 (.agg #[.int .i64 f, .int .i64 bk, .int .i64 xx]) (.agg #[.int .i64 f2, .int .i64 b2, .int .i64 x2])).run Tryd.prog w = .ok (.bool d) w := fun w => by
    rw [Sty.neq_agg, hd]
    simp
  clear hd
  have y0 : ∀ d os, (Sort.grow (redrawn w d) os).cell? ⟨b, o + x * 4, none⟩ = some (.int .i32 r) := fun d os => cell_regrown h0 d os
  have y1 : ∀ d os, (Sort.grow (redrawn w d) os).cell? ⟨b, o + x * 4 + 1, none⟩ = some (.int .i64 f) := fun d os => cell_regrown h1 d os
  have y2 : ∀ d os, (Sort.grow (redrawn w d) os).cell? ⟨b, o + x * 4 + 2, none⟩ = some (.int .i64 bk) := fun d os => cell_regrown h2 d os
  have y3 : ∀ d os, (Sort.grow (redrawn w d) os).cell? ⟨b, o + x * 4 + 3, none⟩ = some (.int .i64 xx) := fun d os => cell_regrown h3 d os
  have u1 : ∀ d os, (Sort.grow (redrawn w d) os).cell? ⟨b, o + (x + 1) * 4 + 1, none⟩ = some (.int .i64 f2) := fun d os => cell_regrown p1 d os
  have u2 : ∀ d os, (Sort.grow (redrawn w d) os).cell? ⟨b, o + (x + 1) * 4 + 2, none⟩ = some (.int .i64 b2) := fun d os => cell_regrown p2 d os
  have u3 : ∀ d os, (Sort.grow (redrawn w d) os).cell? ⟨b, o + (x + 1) * 4 + 3, none⟩ = some (.int .i64 x2) := fun d os => cell_regrown p3 d os
  have K4 : Hid (∀ d os, Calls Tryd.prog 45 #[.int .i32 r] (Sort.grow (redrawn w d) os) fun e w'' => e = .returned (.int .i64 2) ∧ ∃ p : Regrown, w'' = Sort.grow (redrawn w p.d) p.os) := fun d os => Calls.regrown_of (width_to r _ (Tab.next HT.out (below_regrown w d os)) 2 hw)
  clear hT hw h0 h1 h2 h3 p1 p2 p3
  go_enter Tryd.func164, Tryd.ntmps164
  go_wp2_with fail
  refine wp_region_quiet_below (by kernel_rfl) (by kernel_rfl) ?_
  repeat (first | go_big_quiet_skip | quiet_step (first | (go_at_call 45; exact K4.out _ _)))
  refine wpQuiet_nil ?_
  intro _ hw'
  obtain ⟨⟨dq, os⟩, hw''⟩ := hw'
  subst hw''
  have k3 : Below w.heap.size w (Sort.grow (redrawn w dq) os) := below_regrown w dq os
  generalize Sort.grow (redrawn w dq) os = W3 at *
  go_wp2_with fail
  go_ret
  exact ⟨rfl, k3⟩
/-- What isParted says of a cell that isn't loose. -/
theorem parted_any (b o c : Nat) (cs : List C) (x : Nat) (w : World) (hT : Txt.Tab w) (hC : CellsAt w b o cs) (hx : x < cs.length) (hn : cs.length ≤ 1000000) (hl : loose cs x = false) :
    Calls Tryd.prog 164 #[.slice (some ⟨b, o, none⟩) cs.length c, .int .i64 (x : Int)] w fun e w' => e = .returned (.bool (partB cs x)) ∧ Below w.heap.size w w' := by
  obtain ⟨h0, h1, h2, h3⟩ := hC x hx
  by_cases hw : wd (cs.getD x z0).1 = 2
  · have hn0 : ¬ (cs.getD x z0).1 = 0 := by intro e; rw [e] at hw; exact absurd hw (by decide +kernel)
    unfold loose at hl
    rw [if_neg hn0] at hl
    simp only [hw, decide_true, Bool.true_and, Bool.or_eq_false_iff, decide_eq_false_iff_not, Decidable.not_not] at hl
    have hx1 : x + 1 < cs.length := by omega
    obtain ⟨-, p1, p2, p3⟩ := hC (x + 1) hx1
    refine parted_two b o c cs x _ _ _ _ _ _ _ w hT hx1 hn h0 h1 h2 h3 p1 p2 p3 hw _ ?_
    unfold partB
    rw [decide_eq_true hw, Bool.true_and, decide_eq_decide]
    exact ⟨fun h => h.2.2, fun h => ⟨hx1, hl.2, h⟩⟩
  · have e : partB cs x = false := by unfold partB; rw [decide_eq_false hw, Bool.false_and]
    rw [e]
    exact parted_thin b o c cs x _ w hT hx h0 hw
set_option maxHeartbeats 2000000 in
theorem mendG_any (g c : Nat) (cs : List C) (pre post : List Value) (t : TypeId) (w : World) (hh : w.heap[g]? = some (.cells (pre ++ (flat cs ++ post)).toArray t (0, 0))) (hn : cs.length ≤ 1000000) (hT : Txt.Tab w) (hg : 2 < g) :
    Calls Tryd.prog 155 #[.slice (some ⟨g, pre.length, none⟩) cs.length c] w fun e w' => e = .returned (.tuple #[]) ∧ w'.heap[g]? = some (.cells (pre ++ (flat (mendL (unpart cs)) ++ post)).toArray t (0, 0)) ∧ Apart g [g] w w' := by
  have HT : Hid (∀ W, Apart g [g] w W → Txt.Tab W) := fun W b => hT.below b.1 hg
  have HG : Hid (g < w.heap.size) := blk_lt hh
  clear hT hg
  generalize hl : cs.length = L at *
  have HL : Hid (cs.length = L) := hl
  clear hl
  generalize hp : pre.length = o at *
  have HP : Hid (pre.length = o) := hp
  clear hp
  go_enter Tryd.func155, Tryd.ntmps155
  go_wp2_with fail
  go_loopg [5] L (fun q i wr => ∃ k : Nat, i = .int .i64 (k : Int) ∧ k ≤ L ∧ L - k ≤ q ∧ Apart g [g] w wr ∧ wr.heap[g]? = some (.cells (pre ++ (flat (mendToG cs k) ++ post)).toArray t (0, 0)))
  case atStart => exact ⟨0, rfl, by omega, by omega, Apart.refl _ _ _, hh⟩
  case round =>
    obtain ⟨k, rfl, hk, hq, hb, hv⟩ := hrel
    clear hh
    have hlen : (mendToG cs k).length = L := by rw [mendToG_len, HL.out]
    by_cases hlt : k < L
    · have lt1 : ((k : Int) < (L : Int)) := by omega
      have hC : CellsAt wr g o (mendToG cs k) := by have := cellsAt_mid hv; rwa [HP.out] at this
      have hcell := (hC k (by rw [hlen]; exact hlt)).1
      have KL := isLoose_any g o c (mendToG cs k) k wr (HT.out wr hb) hC (by rw [hlen]; exact hlt) (by rw [hlen]; exact hn)
      rw [hlen] at KL
      cases hlo : loose (mendToG cs k) k with
      | false =>
        cases hpa : partB (mendToG cs k) k with
        | false =>
          rw [hlo] at KL
          have HK : Hid (Calls Tryd.prog 131 #[.slice (some ⟨g, o, none⟩) L c, .int .i64 (k : Int)] wr fun e w' => e = .returned (.bool false) ∧ Below wr.heap.size wr w') := KL
          have HKP : Hid (∀ W, Below wr.heap.size wr W → Calls Tryd.prog 164 #[.slice (some ⟨g, o, none⟩) L c, .int .i64 (k : Int)] W fun e w' => e = .returned (.bool false) ∧ Below W.heap.size W w') := fun W bW => by
            have := parted_any g o c (mendToG cs k) k W (Tab.next (HT.out wr hb) bW) (hC.below bW) (by rw [hlen]; exact hlt) (by rw [hlen]; exact hn) hlo
            rwa [hlen, hpa] at this
          have HE : Hid (mendToG cs (k + 1) = mendToG cs k) := by
            show mendStepG (mendToG cs k) k = _
            unfold mendStepG
            rw [hlo, hpa]
            rfl
          clear KL hlo hC hcell hlen
          go_wp2_with (first
            | (go_at_call 131; refine HK.out.mono ?_; rintro e W1 ⟨rfl, b1⟩)
            | (go_at_call 164; refine (HKP.out _ b1).mono ?_; rintro e W2 ⟨rfl, b2⟩; have b3 := b1.trans (b2.mono b1.size)))
          go_roundg (L - (k + 1))
          case measure => omega
          case rel => exact ⟨k + 1, rfl, by omega, by omega, hb.step b3 (Nat.le_of_lt (blk_lt hv)), by rw [HE.out]; exact carry hv b3⟩
        | true =>
          rw [hlo] at KL
          have HK : Hid (Calls Tryd.prog 131 #[.slice (some ⟨g, o, none⟩) L c, .int .i64 (k : Int)] wr fun e w' => e = .returned (.bool false) ∧ Below wr.heap.size wr w') := KL
          have HKP : Hid (∀ W, Below wr.heap.size wr W → Calls Tryd.prog 164 #[.slice (some ⟨g, o, none⟩) L c, .int .i64 (k : Int)] W fun e w' => e = .returned (.bool true) ∧ Below W.heap.size W w') := fun W bW => by
            have := parted_any g o c (mendToG cs k) k W (Tab.next (HT.out wr hb) bW) (hC.below bW) (by rw [hlen]; exact hlt) (by rw [hlen]; exact hn) hlo
            rwa [hlen, hpa] at this
          have HE : Hid (pre ++ (flat (mendToG cs (k + 1)) ++ post) = (pre ++ (flat (mendToG cs k) ++ post)).set (o + k * 4) (.int .i32 32)) := by
            have e : mendToG cs (k + 1) = setR (mendToG cs k) k := by
              show mendStepG (mendToG cs k) k = _
              unfold mendStepG
              rw [hlo, hpa]
              rfl
            unfold Hid
            rw [e, ← HP.out]
            exact (row_set pre post _ k (by rw [hlen]; exact hlt)).symm
          generalize ((mendToG cs k).getD k z0).1 = rr at hcell
          clear KL hlo hC hlen
          go_wp2_with (first
            | (go_at_call 131; refine HK.out.mono ?_; rintro e W0 ⟨rfl, b0⟩)
            | (go_at_call 164; refine (HKP.out _ b0).mono ?_; rintro e W1 ⟨rfl, b2⟩; have b1 := b0.trans (b2.mono b0.size); have hcell1 := cell_keep b1 hcell; have hv1 := carry hv b1; have hfz : W1.frozen? ⟨g, o + k * 4, none⟩ = false := frozen_of hv1 _))
          go_roundg (L - (k + 1))
          case measure => omega
          case rel =>
            refine ⟨k + 1, rfl, by omega, by omega, (hb.step b1 (Nat.le_of_lt (blk_lt hv))).setCell g _ _ (by simp) (Nat.le_refl _), ?_⟩
            rw [HE.out]
            have := heap_setCell_same W1 g (o + k * 4) _ t (.int .i32 32) hv1
            simpa using this
      | true =>
        rw [hlo] at KL
        have HK : Hid (Calls Tryd.prog 131 #[.slice (some ⟨g, o, none⟩) L c, .int .i64 (k : Int)] wr fun e w' => e = .returned (.bool true) ∧ Below wr.heap.size wr w') := KL
        have HE : Hid (pre ++ (flat (mendToG cs (k + 1)) ++ post) = (pre ++ (flat (mendToG cs k) ++ post)).set (o + k * 4) (.int .i32 32)) := by
          have e : mendToG cs (k + 1) = setR (mendToG cs k) k := by
            show mendStepG (mendToG cs k) k = _
            unfold mendStepG
            rw [hlo]
            rfl
          unfold Hid
          rw [e, ← HP.out]
          exact (row_set pre post _ k (by rw [hlen]; exact hlt)).symm
        generalize ((mendToG cs k).getD k z0).1 = rr at hcell
        clear KL hlo hC hlen
        go_wp2_with (first | (go_at_call 131; refine HK.out.mono ?_; rintro e W1 ⟨rfl, b1⟩; have hcell1 := cell_keep b1 hcell; have hv1 := carry hv b1; have hfz : W1.frozen? ⟨g, o + k * 4, none⟩ = false := frozen_of hv1 _))
        go_roundg (L - (k + 1))
        case measure => omega
        case rel =>
          refine ⟨k + 1, rfl, by omega, by omega, (hb.step b1 (Nat.le_of_lt (blk_lt hv))).setCell g _ _ (by simp) (Nat.le_refl _), ?_⟩
          rw [HE.out]
          have := heap_setCell_same W1 g (o + k * 4) _ t (.int .i32 32) hv1
          simpa using this
    · have lt1 : ¬ ((k : Int) < (L : Int)) := by omega
      have hkL : k = L := by omega
      go_wp2_with fail
      go_end0
      refine ⟨rfl, ?_, hb⟩
      rw [← mendG_eq, HL.out, ← hkL]
      exact hv
end Grd
end Go.Proofs.YtnkeahfcpbepjaaDoor
