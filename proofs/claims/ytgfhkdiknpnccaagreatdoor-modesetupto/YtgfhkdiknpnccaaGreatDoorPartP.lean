/- trellislaw.acts and one: a call, and what a name says. -/
import Derived.Test.YtgfhkdiknpnccaaGreatDoorPartO
import Derived.Test.YtgfhkdiknpnccaaGreatDoorPartK
import Derived.Test.YtgfhkdiknpnccaaGreatDoorPartJ
import Derived.BigRegion
import Derived.Deep.RegionHeld3
namespace Go.Proofs.YtgfhkdiknpnccaaGreatDoor
open Go.ChangeShapes Go.WideShapes Go.ChangeAt Go.RowKit
namespace Put
open Grd (C SliceAt CellsAt gridErr z0 nilV rowsL RowsAt RowB flat)
theorem cell_box {W : World} {R : Nat} {v : Value} {t : TypeId} (h : W.heap[R]? = some (.cells #[v] t (0, 0))) : W.cell? ⟨R, 0, none⟩ = some v := by simp [World.cell?, h]
/-- What a name does to a desk. -/
def ActMakes (what : ByteArray) (n m : Int) (s s2 : Scr) (rows rows2 : List (List C)) : Prop :=
  ∀ N W p, N ≤ W.heap.size → DkAt W N p s rows → Calls Tryz.prog 43 #[.pointer (some ⟨p, 0, none⟩), .string what, .int .i64 n, .int .i64 m] W fun e W' => e = .returned (.tuple #[]) ∧ DkAt W' N p s2 rows2 ∧ Below N W W'
theorem plain_acts : Plain 42 := by
  intro args W
  kernel_rfl
set_option maxHeartbeats 1000000 in
theorem acts1_acts {what : ByteArray} {n m : Int} {s s2 : Scr} {rows rows2 : List (List C)} (h : ActMakes what n m s s2 rows rows2) (B1 B2 B3 : Nat) (w : World) (h1 : w.cell? ⟨B1, 0, none⟩ = some (.string what)) (h2 : w.cell? ⟨B2, 0, none⟩ = some (.int .i64 n)) (h3 : w.cell? ⟨B3, 0, none⟩ = some (.int .i64 m)) :
    Acts 42 #[.pointer (some ⟨B1, 0, none⟩), .pointer (some ⟨B2, 0, none⟩), .pointer (some ⟨B3, 0, none⟩)] w s s2 rows rows2 := by
  intro N W p hb hN hN2 hD
  have q1 := cell_stay hb h1
  have q2 := cell_stay hb h2
  have q3 := cell_stay hb h3
  have H := h N W p hN2 hD
  clear h hD h1 h2 h3 hb
  show Calls _ _ #[.pointer (some ⟨p, 0, none⟩), .pointer (some ⟨B1, 0, none⟩), .pointer (some ⟨B2, 0, none⟩), .pointer (some ⟨B3, 0, none⟩)] _ _
  go_enter Tryz.func42, Tryz.ntmps42
  go_wp2_with fail
  refine H.mono ?_
  rintro e W1 ⟨rfl, hD1, b1⟩
  go_wp2_with fail
  go_end0
  exact ⟨rfl, hD1, b1⟩
set_option maxHeartbeats 2000000 in
set_option maxRecDepth 100000 in
theorem acts_calls (s : Scr) (cv tv gv fv : Value) (what : ByteArray) (n m : Int) (w : World) (hV : ScrV w s cv tv gv)
    (hD : ∀ W B1 B2 B3, Below w.heap.size w W → W.cell? ⟨B1, 0, none⟩ = some (.string what) → W.cell? ⟨B2, 0, none⟩ = some (.int .i64 n) → W.cell? ⟨B3, 0, none⟩ = some (.int .i64 m) → Calls Tryz.prog 29 #[.agg (scrA s cv tv gv), fv, .func (.func 42) #[] #[.pointer (some ⟨B1, 0, none⟩), .pointer (some ⟨B2, 0, none⟩), .pointer (some ⟨B3, 0, none⟩)]] W fun e w' => e = .returned (.bool true) ∧ Below W.heap.size W w') :
    Calls Tryz.prog 13 #[.agg (scrA s cv tv gv), fv, .string what, .int .i64 n, .int .i64 m] w fun e w' => e = .returned (.bool true) ∧ Below w.heap.size w w' := by
  obtain ⟨ca, cc, rfl⟩ := hV.c.shape
  obtain ⟨ta, tc, rfl⟩ := hV.t.slice
  obtain ⟨ga, gc, rfl⟩ := hV.g.slice
  have hkb : Below w.heap.size w ((((w.alloc (.cells (scrA s (.slice ca s.cs.length cc) (.slice ta s.tabs.length tc) (.slice ga s.gone.length gc)) 32)).alloc (.cells #[.string what] 9)).alloc (.cells #[.int .i64 n] 3)).alloc (.cells #[.int .i64 m] 3)) := (((((Below.refl _ _).alloc (by simp) _).alloc (by simp) _).alloc (by simp; omega) _).alloc (by simp; omega) _)
  have hx0 : (w.alloc (.cells (scrA s (.slice ca s.cs.length cc) (.slice ta s.tabs.length tc) (.slice ga s.gone.length gc)) 32)).heap[w.heap.size]? = some (.cells (scrA s (.slice ca s.cs.length cc) (.slice ta s.tabs.length tc) (.slice ga s.gone.length gc)) 32 (0, 0)) := by
    have h := heap_alloc_new w (.cells (scrA s (.slice ca s.cs.length cc) (.slice ta s.tabs.length tc) (.slice ga s.gone.length gc)) 32)
    have e : w.heap.size = w.heap.size := by simp
    rw [e] at h
    exact h
  have hx0 := (Below.heap_alloc (w.alloc (.cells (scrA s (.slice ca s.cs.length cc) (.slice ta s.tabs.length tc) (.slice ga s.gone.length gc)) 32)) (.cells #[.string what] 9) _ (heap_lt hx0)).trans hx0
  have hx0 := (Below.heap_alloc ((w.alloc (.cells (scrA s (.slice ca s.cs.length cc) (.slice ta s.tabs.length tc) (.slice ga s.gone.length gc)) 32)).alloc (.cells #[.string what] 9)) (.cells #[.int .i64 n] 3) _ (heap_lt hx0)).trans hx0
  have hx0 := (Below.heap_alloc (((w.alloc (.cells (scrA s (.slice ca s.cs.length cc) (.slice ta s.tabs.length tc) (.slice ga s.gone.length gc)) 32)).alloc (.cells #[.string what] 9)).alloc (.cells #[.int .i64 n] 3)) (.cells #[.int .i64 m] 3) _ (heap_lt hx0)).trans hx0
  have hx1 : ((w.alloc (.cells (scrA s (.slice ca s.cs.length cc) (.slice ta s.tabs.length tc) (.slice ga s.gone.length gc)) 32)).alloc (.cells #[.string what] 9)).heap[w.heap.size + 1]? = some (.cells #[.string what] 9 (0, 0)) := by
    have h := heap_alloc_new (w.alloc (.cells (scrA s (.slice ca s.cs.length cc) (.slice ta s.tabs.length tc) (.slice ga s.gone.length gc)) 32)) (.cells #[.string what] 9)
    have e : (w.alloc (.cells (scrA s (.slice ca s.cs.length cc) (.slice ta s.tabs.length tc) (.slice ga s.gone.length gc)) 32)).heap.size = w.heap.size + 1 := by simp
    rw [e] at h
    exact h
  have hx1 := (Below.heap_alloc ((w.alloc (.cells (scrA s (.slice ca s.cs.length cc) (.slice ta s.tabs.length tc) (.slice ga s.gone.length gc)) 32)).alloc (.cells #[.string what] 9)) (.cells #[.int .i64 n] 3) _ (heap_lt hx1)).trans hx1
  have hx1 := (Below.heap_alloc (((w.alloc (.cells (scrA s (.slice ca s.cs.length cc) (.slice ta s.tabs.length tc) (.slice ga s.gone.length gc)) 32)).alloc (.cells #[.string what] 9)).alloc (.cells #[.int .i64 n] 3)) (.cells #[.int .i64 m] 3) _ (heap_lt hx1)).trans hx1
  have hx2 : (((w.alloc (.cells (scrA s (.slice ca s.cs.length cc) (.slice ta s.tabs.length tc) (.slice ga s.gone.length gc)) 32)).alloc (.cells #[.string what] 9)).alloc (.cells #[.int .i64 n] 3)).heap[w.heap.size + 2]? = some (.cells #[.int .i64 n] 3 (0, 0)) := by
    have h := heap_alloc_new ((w.alloc (.cells (scrA s (.slice ca s.cs.length cc) (.slice ta s.tabs.length tc) (.slice ga s.gone.length gc)) 32)).alloc (.cells #[.string what] 9)) (.cells #[.int .i64 n] 3)
    have e : ((w.alloc (.cells (scrA s (.slice ca s.cs.length cc) (.slice ta s.tabs.length tc) (.slice ga s.gone.length gc)) 32)).alloc (.cells #[.string what] 9)).heap.size = w.heap.size + 2 := by simp
    rw [e] at h
    exact h
  have hx2 := (Below.heap_alloc (((w.alloc (.cells (scrA s (.slice ca s.cs.length cc) (.slice ta s.tabs.length tc) (.slice ga s.gone.length gc)) 32)).alloc (.cells #[.string what] 9)).alloc (.cells #[.int .i64 n] 3)) (.cells #[.int .i64 m] 3) _ (heap_lt hx2)).trans hx2
  have hx3 : ((((w.alloc (.cells (scrA s (.slice ca s.cs.length cc) (.slice ta s.tabs.length tc) (.slice ga s.gone.length gc)) 32)).alloc (.cells #[.string what] 9)).alloc (.cells #[.int .i64 n] 3)).alloc (.cells #[.int .i64 m] 3)).heap[w.heap.size + 3]? = some (.cells #[.int .i64 m] 3 (0, 0)) := by
    have h := heap_alloc_new (((w.alloc (.cells (scrA s (.slice ca s.cs.length cc) (.slice ta s.tabs.length tc) (.slice ga s.gone.length gc)) 32)).alloc (.cells #[.string what] 9)).alloc (.cells #[.int .i64 n] 3)) (.cells #[.int .i64 m] 3)
    have e : (((w.alloc (.cells (scrA s (.slice ca s.cs.length cc) (.slice ta s.tabs.length tc) (.slice ga s.gone.length gc)) 32)).alloc (.cells #[.string what] 9)).alloc (.cells #[.int .i64 n] 3)).heap.size = w.heap.size + 3 := by simp
    rw [e] at h
    exact h
  have HX0 : Hid _ := hx0
  have HKB : Hid _ := hkb
  have HC := hD _ (w.heap.size + 1) (w.heap.size + 2) (w.heap.size + 3) hkb (cell_box hx1) (cell_box hx2) (cell_box hx3)
  clear hkb hV hD hx0 hx1 hx2 hx3
  go_enter Tryz.func13, Tryz.ntmps13
  go_upto_region 1 with fail
  generalize ((((w.alloc (.cells (scrA s (.slice ca s.cs.length cc) (.slice ta s.tabs.length tc) (.slice ga s.gone.length gc)) 32)).alloc (.cells #[.string what] 9)).alloc (.cells #[.int .i64 n] 3)).alloc (.cells #[.int .i64 m] 3)) = X at *
  go_wp2_with (refine wpList_load_row rfl 32 (.tmp 5) rfl w.heap.size rfl _ _ _ _ HX0.out Tryz.underlying32 rfl (by kernel_rfl) ?_)
  refine HC.mono ?_
  rintro e V ⟨rfl, b⟩
  have HB : Hid (Below w.heap.size w V) := HKB.out.trans (b.mono HKB.out.size)
  clear HC b
  go_wp2_with fail
  go_ret
  exact ⟨rfl, HB.out⟩
set_option maxHeartbeats 2000000 in
set_option maxRecDepth 100000 in
theorem one1_calls (s s' : Scr) (cv tv gv : Value) (cf : FuncId) (hcf : Plain cf) (n : Int) (B1 B2 : Nat) (er : Int) (w0 w : World) (hV : ScrV w0 s cv tv gv) (hM : w0.heap.size ≤ w.heap.size) (h1 : w.cell? ⟨B1, 0, none⟩ = some (.func (.func cf) #[] #[])) (h2 : w.cell? ⟨B2, 0, none⟩ = some (.int .i64 n))
    (hC : ∀ W, Below w.heap.size w W → Calls Tryz.prog cf #[.agg (scrA s cv tv gv), .int .i64 n] W (Made w0 W s' er)) :
    Calls Tryz.prog 35 #[.agg (scrA s cv tv gv), .pointer (some ⟨B1, 0, none⟩), .pointer (some ⟨B2, 0, none⟩)] w (Made w0 w s' er) := by
  obtain ⟨ca, cc, rfl⟩ := hV.c.shape
  obtain ⟨ta, tc, rfl⟩ := hV.t.slice
  obtain ⟨ga, gc, rfl⟩ := hV.g.slice
  have hkb : Below w.heap.size w ((w.alloc (.cells (scrA s (.slice ca s.cs.length cc) (.slice ta s.tabs.length tc) (.slice ga s.gone.length gc)) 32)).alloc (.cells #[.int .i64 0, .int .i64 0, .slice none 0 0, .int .i64 0, .int .i64 0, .bool false, .int .i64 0, .int .i64 0, .int .i64 0, .int .i64 0, .int .i64 0, .int .i64 0, .slice none 0 0, .int .i64 0, .int .i64 0, .int .i64 0, .int .i64 0, .int .i64 0, .int .i64 0, .int .i32 0, .string ⟨#[]⟩, .slice none 0 0] 32)) := (((Below.refl _ _).alloc (by simp) _).alloc (by simp) _)
  have hx0 : (w.alloc (.cells (scrA s (.slice ca s.cs.length cc) (.slice ta s.tabs.length tc) (.slice ga s.gone.length gc)) 32)).heap[w.heap.size]? = some (.cells (scrA s (.slice ca s.cs.length cc) (.slice ta s.tabs.length tc) (.slice ga s.gone.length gc)) 32 (0, 0)) := by
    have h := heap_alloc_new w (.cells (scrA s (.slice ca s.cs.length cc) (.slice ta s.tabs.length tc) (.slice ga s.gone.length gc)) 32)
    have e : w.heap.size = w.heap.size := by simp
    rw [e] at h
    exact h
  have hx0 := (Below.heap_alloc (w.alloc (.cells (scrA s (.slice ca s.cs.length cc) (.slice ta s.tabs.length tc) (.slice ga s.gone.length gc)) 32)) (.cells #[.int .i64 0, .int .i64 0, .slice none 0 0, .int .i64 0, .int .i64 0, .bool false, .int .i64 0, .int .i64 0, .int .i64 0, .int .i64 0, .int .i64 0, .int .i64 0, .slice none 0 0, .int .i64 0, .int .i64 0, .int .i64 0, .int .i64 0, .int .i64 0, .int .i64 0, .int .i32 0, .string ⟨#[]⟩, .slice none 0 0] 32) _ (heap_lt hx0)).trans hx0
  have hx1 : ((w.alloc (.cells (scrA s (.slice ca s.cs.length cc) (.slice ta s.tabs.length tc) (.slice ga s.gone.length gc)) 32)).alloc (.cells #[.int .i64 0, .int .i64 0, .slice none 0 0, .int .i64 0, .int .i64 0, .bool false, .int .i64 0, .int .i64 0, .int .i64 0, .int .i64 0, .int .i64 0, .int .i64 0, .slice none 0 0, .int .i64 0, .int .i64 0, .int .i64 0, .int .i64 0, .int .i64 0, .int .i64 0, .int .i32 0, .string ⟨#[]⟩, .slice none 0 0] 32)).heap[w.heap.size + 1]? = some (.cells #[.int .i64 0, .int .i64 0, .slice none 0 0, .int .i64 0, .int .i64 0, .bool false, .int .i64 0, .int .i64 0, .int .i64 0, .int .i64 0, .int .i64 0, .int .i64 0, .slice none 0 0, .int .i64 0, .int .i64 0, .int .i64 0, .int .i64 0, .int .i64 0, .int .i64 0, .int .i32 0, .string ⟨#[]⟩, .slice none 0 0] 32 (0, 0)) := by
    have h := heap_alloc_new (w.alloc (.cells (scrA s (.slice ca s.cs.length cc) (.slice ta s.tabs.length tc) (.slice ga s.gone.length gc)) 32)) (.cells #[.int .i64 0, .int .i64 0, .slice none 0 0, .int .i64 0, .int .i64 0, .bool false, .int .i64 0, .int .i64 0, .int .i64 0, .int .i64 0, .int .i64 0, .int .i64 0, .slice none 0 0, .int .i64 0, .int .i64 0, .int .i64 0, .int .i64 0, .int .i64 0, .int .i64 0, .int .i32 0, .string ⟨#[]⟩, .slice none 0 0] 32)
    have e : (w.alloc (.cells (scrA s (.slice ca s.cs.length cc) (.slice ta s.tabs.length tc) (.slice ga s.gone.length gc)) 32)).heap.size = w.heap.size + 1 := by simp
    rw [e] at h
    exact h
  have HX0 : Hid _ := hx0
  have HXR : Hid _ := hx1
  have HKB : Hid _ := hkb
  have HC := hC _ hkb
  have q1 := cell_stay hkb h1
  have q2 := cell_stay hkb h2
  have hsz : w.heap.size ≤ ((w.alloc (.cells (scrA s (.slice ca s.cs.length cc) (.slice ta s.tabs.length tc) (.slice ga s.gone.length gc)) 32)).alloc (.cells #[.int .i64 0, .int .i64 0, .slice none 0 0, .int .i64 0, .int .i64 0, .bool false, .int .i64 0, .int .i64 0, .int .i64 0, .int .i64 0, .int .i64 0, .int .i64 0, .slice none 0 0, .int .i64 0, .int .i64 0, .int .i64 0, .int .i64 0, .int .i64 0, .int .i64 0, .int .i32 0, .string ⟨#[]⟩, .slice none 0 0] 32)).heap.size := hkb.size
  unfold Plain at hcf
  clear hkb hV hC hx0 hx1 h1 h2
  go_enter Tryz.func35, Tryz.ntmps35
  go_upto_region 1 with fail
  generalize ((w.alloc (.cells (scrA s (.slice ca s.cs.length cc) (.slice ta s.tabs.length tc) (.slice ga s.gone.length gc)) 32)).alloc (.cells #[.int .i64 0, .int .i64 0, .slice none 0 0, .int .i64 0, .int .i64 0, .bool false, .int .i64 0, .int .i64 0, .int .i64 0, .int .i64 0, .int .i64 0, .int .i64 0, .slice none 0 0, .int .i64 0, .int .i64 0, .int .i64 0, .int .i64 0, .int .i64 0, .int .i64 0, .int .i32 0, .string ⟨#[]⟩, .slice none 0 0] 32)) = X at *
  go_wp2_with (refine wpList_load_row rfl 32 (.tmp 3) rfl w.heap.size rfl _ _ _ _ HX0.out Tryz.underlying32 rfl (by kernel_rfl) ?_)
  refine HC.mono ?_
  rintro e V ⟨cv', tv', gv', rfl, hO, c2⟩
  obtain ⟨a1, n1, c1, a2, n2, c2', a3, n3, c3, rfl, rfl, rfl⟩ := hO.shapes
  have HO : Hid (ScrO V w0.heap.size _ s' _ _ _) := hO
  have HR : Hid (V.heap[w.heap.size + 1]? = _) := Grd.carry HXR.out c2
  have HB : Hid (Below w.heap.size w V) := HKB.out.trans (c2.mono HKB.out.size)
  clear hO c2 HC q1 q2
  go_wp2_with (refine wpList_store_row rfl 32 (.tmp 4) (.tmp 10) rfl (w.heap.size + 1) (scrA s' (.slice a1 n1 c1) (.slice a2 n2 c2') (.slice a3 n3 c3)) rfl rfl _ _ HR.out (by kernel_rfl) rfl (scr_one _ _ _ _ _ _ _ _ _ _) ?_)
  (try simp only [Exit.inBlock, Exit.then])
  refine bodyPost_ret (v := .tuple #[.agg (scrA s' (.slice a1 n1 c1) (.slice a2 n2 c2') (.slice a3 n3 c3)), .int .i64 er]) ?_ rfl ⟨_, _, _, rfl, ?_, below_setRow HB.out (by omega) _⟩
  · exact Grd.results_row_tmp rfl _ _ (w.heap.size + 1) _ _ _ _ rfl (setRow_heap _ _ _ _ _ _ HR.out) Tryz.underlying32 rfl (by kernel_rfl) _ rfl
  · exact (ScrO.off HO.out HR.out screen_is (by omega) fun k hk => setRow_other _ _ _ _ hk).mono hsz
set_option maxHeartbeats 2000000 in
set_option maxRecDepth 100000 in
theorem one_calls (s : Scr) (cv tv gv : Value) (cf : FuncId) (what : ByteArray) (n : Int) (w : World) (hV : ScrV w s cv tv gv)
    (hD : ∀ W B1 B2, Below w.heap.size w W → W.cell? ⟨B1, 0, none⟩ = some (.func (.func cf) #[] #[]) → W.cell? ⟨B2, 0, none⟩ = some (.int .i64 n) → Calls Tryz.prog 13 #[.agg (scrA s cv tv gv), .func (.func 35) #[] #[.pointer (some ⟨B1, 0, none⟩), .pointer (some ⟨B2, 0, none⟩)], .string what, .int .i64 n, .int .i64 0] W fun e w' => e = .returned (.bool true) ∧ Below W.heap.size W w') :
    Calls Tryz.prog 8 #[.agg (scrA s cv tv gv), .func (.func cf) #[] #[], .string what, .int .i64 n] w fun e w' => e = .returned (.bool true) ∧ Below w.heap.size w w' := by
  obtain ⟨ca, cc, rfl⟩ := hV.c.shape
  obtain ⟨ta, tc, rfl⟩ := hV.t.slice
  obtain ⟨ga, gc, rfl⟩ := hV.g.slice
  have hkb : Below w.heap.size w (((w.alloc (.cells (scrA s (.slice ca s.cs.length cc) (.slice ta s.tabs.length tc) (.slice ga s.gone.length gc)) 32)).alloc (.cells #[.func (.func cf) #[] #[]] 34)).alloc (.cells #[.int .i64 n] 3)) := ((((Below.refl _ _).alloc (by simp) _).alloc (by simp) _).alloc (by simp; omega) _)
  have hx0 : (w.alloc (.cells (scrA s (.slice ca s.cs.length cc) (.slice ta s.tabs.length tc) (.slice ga s.gone.length gc)) 32)).heap[w.heap.size]? = some (.cells (scrA s (.slice ca s.cs.length cc) (.slice ta s.tabs.length tc) (.slice ga s.gone.length gc)) 32 (0, 0)) := by
    have h := heap_alloc_new w (.cells (scrA s (.slice ca s.cs.length cc) (.slice ta s.tabs.length tc) (.slice ga s.gone.length gc)) 32)
    have e : w.heap.size = w.heap.size := by simp
    rw [e] at h
    exact h
  have hx0 := (Below.heap_alloc (w.alloc (.cells (scrA s (.slice ca s.cs.length cc) (.slice ta s.tabs.length tc) (.slice ga s.gone.length gc)) 32)) (.cells #[.func (.func cf) #[] #[]] 34) _ (heap_lt hx0)).trans hx0
  have hx0 := (Below.heap_alloc ((w.alloc (.cells (scrA s (.slice ca s.cs.length cc) (.slice ta s.tabs.length tc) (.slice ga s.gone.length gc)) 32)).alloc (.cells #[.func (.func cf) #[] #[]] 34)) (.cells #[.int .i64 n] 3) _ (heap_lt hx0)).trans hx0
  have hx1 : ((w.alloc (.cells (scrA s (.slice ca s.cs.length cc) (.slice ta s.tabs.length tc) (.slice ga s.gone.length gc)) 32)).alloc (.cells #[.func (.func cf) #[] #[]] 34)).heap[w.heap.size + 1]? = some (.cells #[.func (.func cf) #[] #[]] 34 (0, 0)) := by
    have h := heap_alloc_new (w.alloc (.cells (scrA s (.slice ca s.cs.length cc) (.slice ta s.tabs.length tc) (.slice ga s.gone.length gc)) 32)) (.cells #[.func (.func cf) #[] #[]] 34)
    have e : (w.alloc (.cells (scrA s (.slice ca s.cs.length cc) (.slice ta s.tabs.length tc) (.slice ga s.gone.length gc)) 32)).heap.size = w.heap.size + 1 := by simp
    rw [e] at h
    exact h
  have hx1 := (Below.heap_alloc ((w.alloc (.cells (scrA s (.slice ca s.cs.length cc) (.slice ta s.tabs.length tc) (.slice ga s.gone.length gc)) 32)).alloc (.cells #[.func (.func cf) #[] #[]] 34)) (.cells #[.int .i64 n] 3) _ (heap_lt hx1)).trans hx1
  have hx2 : (((w.alloc (.cells (scrA s (.slice ca s.cs.length cc) (.slice ta s.tabs.length tc) (.slice ga s.gone.length gc)) 32)).alloc (.cells #[.func (.func cf) #[] #[]] 34)).alloc (.cells #[.int .i64 n] 3)).heap[w.heap.size + 2]? = some (.cells #[.int .i64 n] 3 (0, 0)) := by
    have h := heap_alloc_new ((w.alloc (.cells (scrA s (.slice ca s.cs.length cc) (.slice ta s.tabs.length tc) (.slice ga s.gone.length gc)) 32)).alloc (.cells #[.func (.func cf) #[] #[]] 34)) (.cells #[.int .i64 n] 3)
    have e : ((w.alloc (.cells (scrA s (.slice ca s.cs.length cc) (.slice ta s.tabs.length tc) (.slice ga s.gone.length gc)) 32)).alloc (.cells #[.func (.func cf) #[] #[]] 34)).heap.size = w.heap.size + 2 := by simp
    rw [e] at h
    exact h
  have HX0 : Hid _ := hx0
  have HKB : Hid _ := hkb
  have HC := hD _ (w.heap.size + 1) (w.heap.size + 2) hkb (cell_box hx1) (cell_box hx2)
  have q2 := cell_box hx2
  clear hkb hV hD hx0 hx1 hx2
  go_enter Tryz.func8, Tryz.ntmps8
  go_upto_region 1 with fail
  generalize (((w.alloc (.cells (scrA s (.slice ca s.cs.length cc) (.slice ta s.tabs.length tc) (.slice ga s.gone.length gc)) 32)).alloc (.cells #[.func (.func cf) #[] #[]] 34)).alloc (.cells #[.int .i64 n] 3)) = X at *
  go_wp2_with (refine wpList_load_row rfl 32 (.tmp 4) rfl w.heap.size rfl _ _ _ _ HX0.out Tryz.underlying32 rfl (by kernel_rfl) ?_)
  refine HC.mono ?_
  rintro e V ⟨rfl, b⟩
  have HB : Hid (Below w.heap.size w V) := HKB.out.trans (b.mono HKB.out.size)
  clear HC b q2
  go_wp2_with fail
  go_ret
  exact ⟨rfl, HB.out⟩
theorem plain_one : Plain 35 := by
  intro args W
  kernel_rfl
/-- What a call makes, and what is to be done, of a right screen. -/
def Agrees (what : ByteArray) (n m : Int) (s s' : Scr) (nn hh : Nat) : Prop := Small s' ∧ ∃ s2 rows2, ActMakes what n m s s2 (rowsL nn s.cs hh) rows2 ∧ rows2.length = hh ∧ (∀ i, i < rows2.length → (rows2.getD i []).length = nn) ∧ { s2 with w := (nn : Int), h := (hh : Int), cs := rows2.flatten } = s'
/-- A call, by a name. -/
theorem acts_any (s : Scr) (cv tv gv : Value) (cf : FuncId) (hcf : Plain cf) (ccaps : Array Value) (what : ByteArray) (n m : Int) (w : World) (hT : Txt.Tab w) (hV : ScrV w s cv tv gv) (hB : Bulk s) (s' : Scr)
    (hbad : scrErr s ≠ 0 → ∀ w0 W cv tv gv, Below w.heap.size w w0 → Met w0 W s cv tv gv → Calls Tryz.prog cf (#[.agg (scrA s cv tv gv)] ++ ccaps) W (Made w0 W zScr (scrErr s)))
    (hgood : ∀ nn hh, RightS s nn hh → (∀ w0 W cv tv gv, Below w.heap.size w w0 → Met w0 W s cv tv gv → Calls Tryz.prog cf (#[.agg (scrA s cv tv gv)] ++ ccaps) W (Made w0 W s' 0)) ∧ Agrees what n m s s' nn hh) :
    Calls Tryz.prog 13 #[.agg (scrA s cv tv gv), .func (.func cf) #[] ccaps, .string what, .int .i64 n, .int .i64 m] w fun e w' => e = .returned (.bool true) ∧ Below w.heap.size w w' :=
  acts_calls s cv tv gv _ what n m w hV fun W B1 B2 B3 hW h1 h2 h3 => by
    by_cases hz : scrErr s = 0
    · obtain ⟨nn, hh, hR⟩ := right_of s hz
      obtain ⟨hc, hS, s2, rows2, hA, hrl, hrn, heq⟩ := hgood nn hh hR
      exact does_good s s' s2 nn hh rows2 cv tv gv cf _ ccaps _ hcf plain_acts W (Grd.Tab.next hT hW) (hV.next hW) hB hR hz hS (acts1_acts hA B1 B2 B3 W h1 h2 h3) hrl hrn heq fun w0 W' cv' tv' gv' hb hm => hc w0 W' cv' tv' gv' (hW.trans (hb.mono hW.size)) hm
    · exact does_bad s cv tv gv cf ccaps _ hcf W (Grd.Tab.next hT hW) (hV.next hW) hB hz fun w0 W' cv' tv' gv' hb hm => hbad hz w0 W' cv' tv' gv' (hW.trans (hb.mono hW.size)) hm
/-- A call with one number, by a name. -/
theorem one_any (s : Scr) (cv tv gv : Value) (cf : FuncId) (hcf : Plain cf) (what : ByteArray) (n : Int) (w : World) (hT : Txt.Tab w) (hV : ScrV w s cv tv gv) (hB : Bulk s) (s' : Scr)
    (hbad : scrErr s ≠ 0 → ∀ w0 W cv tv gv, Met w0 W s cv tv gv → Calls Tryz.prog cf #[.agg (scrA s cv tv gv), .int .i64 n] W (Made w0 W zScr (scrErr s)))
    (hgood : ∀ nn hh, RightS s nn hh → (∀ w0 W cv tv gv, Met w0 W s cv tv gv → Calls Tryz.prog cf #[.agg (scrA s cv tv gv), .int .i64 n] W (Made w0 W s' 0)) ∧ Agrees what n 0 s s' nn hh) :
    Calls Tryz.prog 8 #[.agg (scrA s cv tv gv), .func (.func cf) #[] #[], .string what, .int .i64 n] w fun e w' => e = .returned (.bool true) ∧ Below w.heap.size w w' :=
  one_calls s cv tv gv cf what n w hV fun W B1 B2 hW h1 h2 =>
    acts_any s cv tv gv _ plain_one _ what n 0 W (Grd.Tab.next hT hW) (hV.next hW) hB s'
      (fun hz w0 W' cv' tv' gv' hb hm => one1_calls s zScr cv' tv' gv' cf hcf n B1 B2 _ w0 W' hm.v hm.b.size (cell_stay (hb.trans (hm.b.mono hb.size)) h1) (cell_stay (hb.trans (hm.b.mono hb.size)) h2) fun V hV' => hbad hz w0 V cv' tv' gv' (hm.next hV'))
      (fun nn hh hR => ⟨fun w0 W' cv' tv' gv' hb hm => one1_calls s s' cv' tv' gv' cf hcf n B1 B2 _ w0 W' hm.v hm.b.size (cell_stay (hb.trans (hm.b.mono hb.size)) h1) (cell_stay (hb.trans (hm.b.mono hb.size)) h2) fun V hV' => (hgood nn hh hR).1 w0 V cv' tv' gv' (hm.next hV'), (hgood nn hh hR).2⟩)
end Put
end Go.Proofs.YtgfhkdiknpnccaaGreatDoor

/- Act: set, clear. (Written by gen_actmode.py.) -/
namespace Go.Proofs.YtgfhkdiknpnccaaGreatDoor
open Go.ChangeShapes Go.WideShapes Go.ChangeAt Go.RowKit
namespace Put
open Grd (C SliceAt CellsAt gridErr z0 nilV rowsL RowsAt RowB flat)
set_option maxHeartbeats 8000000 in
set_option maxRecDepth 100000 in
theorem act_set_a (n m : Int) (s : Scr) (rows : List (List C)) (hz : bits .and .i64 (bits .and .i64 n 63) 2 = 0) (hl : s.late = false) : ActMakes ⟨#[115, 101, 116]⟩ n m s (setR s (bits .and .i64 n 63) true) rows rows := by
  intro N W p hN hD
  obtain ⟨c0, c1, c3, c4, c5, c9, c10, c11, c19, f⟩ := hD.words
  have k1 : DkAt (W.setCell ⟨p, 11, none⟩ (.int .i64 (bits .or .i64 s.modes (bits .and .i64 n 63)))) N p { s with modes := modesR s.modes (bits .and .i64 n 63) true } rows := hD.set 11 _ (fun _ _ _ _ => rfl) rfl rfl
  have k2 : DkAt ((W.setCell ⟨p, 11, none⟩ (.int .i64 (bits .or .i64 s.modes (bits .and .i64 n 63)))).setCell ⟨p, 5, none⟩ (.bool false)) N p { s with modes := modesR s.modes (bits .and .i64 n 63) true, late := false } rows := k1.set 5 _ (fun _ _ _ _ => rfl) rfl rfl
  have HB : Hid (Below N W ((W.setCell ⟨p, 11, none⟩ (.int .i64 (bits .or .i64 s.modes (bits .and .i64 n 63)))).setCell ⟨p, 5, none⟩ (.bool false))) := (((Below.refl _ _).setCell hD.lo _).setCell hD.lo _)
  have HK : Hid (DkAt ((W.setCell ⟨p, 11, none⟩ (.int .i64 (bits .or .i64 s.modes (bits .and .i64 n 63)))).setCell ⟨p, 5, none⟩ (.bool false)) N p { s with modes := modesR s.modes (bits .and .i64 n 63) true, late := false } rows) := k2
  have HE : Hid (setR s (bits .and .i64 n 63) true = { s with modes := modesR s.modes (bits .and .i64 n 63) true, late := false }) := by
    unfold Hid
    simp only [setR, if_pos hz, hl, Bool.false_and]
  generalize setR s (bits .and .i64 n 63) true = s' at *
  have f3 := f 3
  have f4 := f 4
  have f5 := f 5
  have f11 := f 11
  rw [hl] at c5
  have hz2 : (bits .and .i64 (bits .and .i64 n 63) 2 == 0) = true := by simpa using hz
  clear hD c0 c1 c10 c19 f k1 k2
  clear hz
  go_enter Tryz.func43, Tryz.ntmps43
  go_wp2_with fail
  go_end0
  rw [HE.out]
  exact ⟨rfl, HK.out, HB.out⟩
set_option maxHeartbeats 8000000 in
set_option maxRecDepth 100000 in
theorem act_set_b (n m : Int) (s : Scr) (rows : List (List C)) (hz : bits .and .i64 (bits .and .i64 n 63) 2 = 0) (hl : s.late = true) : ActMakes ⟨#[115, 101, 116]⟩ n m s (setR s (bits .and .i64 n 63) true) rows rows := by
  intro N W p hN hD
  obtain ⟨c0, c1, c3, c4, c5, c9, c10, c11, c19, f⟩ := hD.words
  have k1 : DkAt (W.setCell ⟨p, 11, none⟩ (.int .i64 (bits .or .i64 s.modes (bits .and .i64 n 63)))) N p { s with modes := modesR s.modes (bits .and .i64 n 63) true } rows := hD.set 11 _ (fun _ _ _ _ => rfl) rfl rfl
  have k2 : DkAt ((W.setCell ⟨p, 11, none⟩ (.int .i64 (bits .or .i64 s.modes (bits .and .i64 n 63)))).setCell ⟨p, 5, none⟩ (.bool (bits .and .i64 (bits .or .i64 s.modes (bits .and .i64 n 63)) 4 != 0))) N p { s with modes := modesR s.modes (bits .and .i64 n 63) true, late := (bits .and .i64 (bits .or .i64 s.modes (bits .and .i64 n 63)) 4 != 0) } rows := k1.set 5 _ (fun _ _ _ _ => rfl) rfl rfl
  have HB : Hid (Below N W ((W.setCell ⟨p, 11, none⟩ (.int .i64 (bits .or .i64 s.modes (bits .and .i64 n 63)))).setCell ⟨p, 5, none⟩ (.bool (bits .and .i64 (bits .or .i64 s.modes (bits .and .i64 n 63)) 4 != 0)))) := (((Below.refl _ _).setCell hD.lo _).setCell hD.lo _)
  have HK : Hid (DkAt ((W.setCell ⟨p, 11, none⟩ (.int .i64 (bits .or .i64 s.modes (bits .and .i64 n 63)))).setCell ⟨p, 5, none⟩ (.bool (bits .and .i64 (bits .or .i64 s.modes (bits .and .i64 n 63)) 4 != 0))) N p { s with modes := modesR s.modes (bits .and .i64 n 63) true, late := (bits .and .i64 (bits .or .i64 s.modes (bits .and .i64 n 63)) 4 != 0) } rows) := k2
  have HE : Hid (setR s (bits .and .i64 n 63) true = { s with modes := modesR s.modes (bits .and .i64 n 63) true, late := (bits .and .i64 (bits .or .i64 s.modes (bits .and .i64 n 63)) 4 != 0) }) := by
    unfold Hid
    simp only [setR, if_pos hz, hl, Bool.true_and]
    rfl
  generalize setR s (bits .and .i64 n 63) true = s' at *
  have f3 := f 3
  have f4 := f 4
  have f5 := f 5
  have f11 := f 11
  rw [hl] at c5
  have hz2 : (bits .and .i64 (bits .and .i64 n 63) 2 == 0) = true := by simpa using hz
  clear hD c0 c1 c10 c19 f k1 k2
  clear hz
  go_enter Tryz.func43, Tryz.ntmps43
  go_wp2_with fail
  go_end0
  rw [HE.out]
  exact ⟨rfl, HK.out, HB.out⟩
set_option maxHeartbeats 8000000 in
set_option maxRecDepth 100000 in
theorem act_set_d (n m : Int) (s : Scr) (rows : List (List C)) (hz : ¬ bits .and .i64 (bits .and .i64 n 63) 2 = 0) : ActMakes ⟨#[115, 101, 116]⟩ n m s (setR s (bits .and .i64 n 63) true) rows rows := by
  intro N W p hN hD
  obtain ⟨c0, c1, c3, c4, c5, c9, c10, c11, c19, f⟩ := hD.words
  have k1 : DkAt (W.setCell ⟨p, 11, none⟩ (.int .i64 (bits .or .i64 s.modes (bits .and .i64 n 63)))) N p { s with modes := modesR s.modes (bits .and .i64 n 63) true } rows := hD.set 11 _ (fun _ _ _ _ => rfl) rfl rfl
  have k2 : DkAt ((W.setCell ⟨p, 11, none⟩ (.int .i64 (bits .or .i64 s.modes (bits .and .i64 n 63)))).setCell ⟨p, 3, none⟩ (.int .i64 0)) N p { s with modes := modesR s.modes (bits .and .i64 n 63) true, x := 0 } rows := k1.set 3 _ (fun _ _ _ _ => rfl) rfl rfl
  have k3 : DkAt (((W.setCell ⟨p, 11, none⟩ (.int .i64 (bits .or .i64 s.modes (bits .and .i64 n 63)))).setCell ⟨p, 3, none⟩ (.int .i64 0)).setCell ⟨p, 4, none⟩ (.int .i64 0)) N p { s with modes := modesR s.modes (bits .and .i64 n 63) true, x := 0, y := 0 } rows := k2.set 4 _ (fun _ _ _ _ => rfl) rfl rfl
  have k4 : DkAt ((((W.setCell ⟨p, 11, none⟩ (.int .i64 (bits .or .i64 s.modes (bits .and .i64 n 63)))).setCell ⟨p, 3, none⟩ (.int .i64 0)).setCell ⟨p, 4, none⟩ (.int .i64 0)).setCell ⟨p, 5, none⟩ (.bool false)) N p { s with modes := modesR s.modes (bits .and .i64 n 63) true, x := 0, y := 0, late := false } rows := k3.set 5 _ (fun _ _ _ _ => rfl) rfl rfl
  have k5 : DkAt (((((W.setCell ⟨p, 11, none⟩ (.int .i64 (bits .or .i64 s.modes (bits .and .i64 n 63)))).setCell ⟨p, 3, none⟩ (.int .i64 0)).setCell ⟨p, 4, none⟩ (.int .i64 0)).setCell ⟨p, 5, none⟩ (.bool false)).setCell ⟨p, 4, none⟩ (.int .i64 s.top)) N p { s with modes := modesR s.modes (bits .and .i64 n 63) true, x := 0, y := s.top, late := false } rows := k4.set 4 _ (fun _ _ _ _ => rfl) rfl rfl
  have k6 : DkAt ((((((W.setCell ⟨p, 11, none⟩ (.int .i64 (bits .or .i64 s.modes (bits .and .i64 n 63)))).setCell ⟨p, 3, none⟩ (.int .i64 0)).setCell ⟨p, 4, none⟩ (.int .i64 0)).setCell ⟨p, 5, none⟩ (.bool false)).setCell ⟨p, 4, none⟩ (.int .i64 s.top)).setCell ⟨p, 5, none⟩ (.bool false)) N p { s with modes := modesR s.modes (bits .and .i64 n 63) true, x := 0, y := s.top, late := false } rows := k5.set 5 _ (fun _ _ _ _ => rfl) rfl rfl
  have HB : Hid (Below N W ((((((W.setCell ⟨p, 11, none⟩ (.int .i64 (bits .or .i64 s.modes (bits .and .i64 n 63)))).setCell ⟨p, 3, none⟩ (.int .i64 0)).setCell ⟨p, 4, none⟩ (.int .i64 0)).setCell ⟨p, 5, none⟩ (.bool false)).setCell ⟨p, 4, none⟩ (.int .i64 s.top)).setCell ⟨p, 5, none⟩ (.bool false))) := (((((((Below.refl _ _).setCell hD.lo _).setCell hD.lo _).setCell hD.lo _).setCell hD.lo _).setCell hD.lo _).setCell hD.lo _)
  have HK : Hid (DkAt ((((((W.setCell ⟨p, 11, none⟩ (.int .i64 (bits .or .i64 s.modes (bits .and .i64 n 63)))).setCell ⟨p, 3, none⟩ (.int .i64 0)).setCell ⟨p, 4, none⟩ (.int .i64 0)).setCell ⟨p, 5, none⟩ (.bool false)).setCell ⟨p, 4, none⟩ (.int .i64 s.top)).setCell ⟨p, 5, none⟩ (.bool false)) N p { s with modes := modesR s.modes (bits .and .i64 n 63) true, x := 0, y := s.top, late := false } rows) := k6
  have HE : Hid (setR s (bits .and .i64 n 63) true = { s with modes := modesR s.modes (bits .and .i64 n 63) true, x := 0, y := s.top, late := false }) := by
    unfold Hid
    simp [setR, modesR, hz]
  generalize setR s (bits .and .i64 n 63) true = s' at *
  have f3 := f 3
  have f4 := f 4
  have f5 := f 5
  have f11 := f 11
  have hz2 : (bits .and .i64 (bits .and .i64 n 63) 2 == 0) = false := by simpa using hz
  clear hD c0 c1 c10 c19 f k1 k2 k3 k4 k5 k6
  clear hz
  go_enter Tryz.func43, Tryz.ntmps43
  go_wp2_with fail
  go_end0
  rw [HE.out]
  exact ⟨rfl, HK.out, HB.out⟩
theorem act_set (n m : Int) (s : Scr) (rows : List (List C)) : ActMakes ⟨#[115, 101, 116]⟩ n m s (setR s (bits .and .i64 n 63) true) rows rows := by
  by_cases hz : bits .and .i64 (bits .and .i64 n 63) 2 = 0
  · cases hl : s.late with
    | false => exact act_set_a n m s rows hz hl
    | true => exact act_set_b n m s rows hz hl
  · exact act_set_d n m s rows hz
set_option maxHeartbeats 8000000 in
set_option maxRecDepth 100000 in
theorem act_clear_a (n m : Int) (s : Scr) (rows : List (List C)) (hz : bits .and .i64 (bits .and .i64 n 63) 2 = 0) (hl : s.late = false) : ActMakes ⟨#[99, 108, 101, 97, 114]⟩ n m s (setR s (bits .and .i64 n 63) false) rows rows := by
  intro N W p hN hD
  obtain ⟨c0, c1, c3, c4, c5, c9, c10, c11, c19, f⟩ := hD.words
  have k1 : DkAt (W.setCell ⟨p, 11, none⟩ (.int .i64 (bits .and .i64 s.modes (63 - (bits .and .i64 n 63))))) N p { s with modes := modesR s.modes (bits .and .i64 n 63) false } rows := hD.set 11 _ (fun _ _ _ _ => rfl) rfl rfl
  have k2 : DkAt ((W.setCell ⟨p, 11, none⟩ (.int .i64 (bits .and .i64 s.modes (63 - (bits .and .i64 n 63))))).setCell ⟨p, 5, none⟩ (.bool false)) N p { s with modes := modesR s.modes (bits .and .i64 n 63) false, late := false } rows := k1.set 5 _ (fun _ _ _ _ => rfl) rfl rfl
  have HB : Hid (Below N W ((W.setCell ⟨p, 11, none⟩ (.int .i64 (bits .and .i64 s.modes (63 - (bits .and .i64 n 63))))).setCell ⟨p, 5, none⟩ (.bool false))) := (((Below.refl _ _).setCell hD.lo _).setCell hD.lo _)
  have HK : Hid (DkAt ((W.setCell ⟨p, 11, none⟩ (.int .i64 (bits .and .i64 s.modes (63 - (bits .and .i64 n 63))))).setCell ⟨p, 5, none⟩ (.bool false)) N p { s with modes := modesR s.modes (bits .and .i64 n 63) false, late := false } rows) := k2
  have HE : Hid (setR s (bits .and .i64 n 63) false = { s with modes := modesR s.modes (bits .and .i64 n 63) false, late := false }) := by
    unfold Hid
    simp only [setR, if_pos hz, hl, Bool.false_and]
  generalize setR s (bits .and .i64 n 63) false = s' at *
  have f3 := f 3
  have f4 := f 4
  have f5 := f 5
  have f11 := f 11
  have h63 := and63 n
  have hw63 : IntKind.i64.wrap (63 - (bits .and .i64 n 63)) = 63 - (bits .and .i64 n 63) := wrap_id _ (by omega) (by omega)
  rw [hl] at c5
  have hz2 : (bits .and .i64 (bits .and .i64 n 63) 2 == 0) = true := by simpa using hz
  clear hD c0 c1 c10 c19 f k1 k2
  clear h63 hz
  go_enter Tryz.func43, Tryz.ntmps43
  go_wp2_with fail
  go_end0
  rw [HE.out]
  exact ⟨rfl, HK.out, HB.out⟩
set_option maxHeartbeats 8000000 in
set_option maxRecDepth 100000 in
theorem act_clear_b (n m : Int) (s : Scr) (rows : List (List C)) (hz : bits .and .i64 (bits .and .i64 n 63) 2 = 0) (hl : s.late = true) : ActMakes ⟨#[99, 108, 101, 97, 114]⟩ n m s (setR s (bits .and .i64 n 63) false) rows rows := by
  intro N W p hN hD
  obtain ⟨c0, c1, c3, c4, c5, c9, c10, c11, c19, f⟩ := hD.words
  have k1 : DkAt (W.setCell ⟨p, 11, none⟩ (.int .i64 (bits .and .i64 s.modes (63 - (bits .and .i64 n 63))))) N p { s with modes := modesR s.modes (bits .and .i64 n 63) false } rows := hD.set 11 _ (fun _ _ _ _ => rfl) rfl rfl
  have k2 : DkAt ((W.setCell ⟨p, 11, none⟩ (.int .i64 (bits .and .i64 s.modes (63 - (bits .and .i64 n 63))))).setCell ⟨p, 5, none⟩ (.bool (bits .and .i64 (bits .and .i64 s.modes (63 - (bits .and .i64 n 63))) 4 != 0))) N p { s with modes := modesR s.modes (bits .and .i64 n 63) false, late := (bits .and .i64 (bits .and .i64 s.modes (63 - (bits .and .i64 n 63))) 4 != 0) } rows := k1.set 5 _ (fun _ _ _ _ => rfl) rfl rfl
  have HB : Hid (Below N W ((W.setCell ⟨p, 11, none⟩ (.int .i64 (bits .and .i64 s.modes (63 - (bits .and .i64 n 63))))).setCell ⟨p, 5, none⟩ (.bool (bits .and .i64 (bits .and .i64 s.modes (63 - (bits .and .i64 n 63))) 4 != 0)))) := (((Below.refl _ _).setCell hD.lo _).setCell hD.lo _)
  have HK : Hid (DkAt ((W.setCell ⟨p, 11, none⟩ (.int .i64 (bits .and .i64 s.modes (63 - (bits .and .i64 n 63))))).setCell ⟨p, 5, none⟩ (.bool (bits .and .i64 (bits .and .i64 s.modes (63 - (bits .and .i64 n 63))) 4 != 0))) N p { s with modes := modesR s.modes (bits .and .i64 n 63) false, late := (bits .and .i64 (bits .and .i64 s.modes (63 - (bits .and .i64 n 63))) 4 != 0) } rows) := k2
  have HE : Hid (setR s (bits .and .i64 n 63) false = { s with modes := modesR s.modes (bits .and .i64 n 63) false, late := (bits .and .i64 (bits .and .i64 s.modes (63 - (bits .and .i64 n 63))) 4 != 0) }) := by
    unfold Hid
    simp only [setR, if_pos hz, hl, Bool.true_and]
    rfl
  generalize setR s (bits .and .i64 n 63) false = s' at *
  have f3 := f 3
  have f4 := f 4
  have f5 := f 5
  have f11 := f 11
  have h63 := and63 n
  have hw63 : IntKind.i64.wrap (63 - (bits .and .i64 n 63)) = 63 - (bits .and .i64 n 63) := wrap_id _ (by omega) (by omega)
  rw [hl] at c5
  have hz2 : (bits .and .i64 (bits .and .i64 n 63) 2 == 0) = true := by simpa using hz
  clear hD c0 c1 c10 c19 f k1 k2
  clear h63 hz
  go_enter Tryz.func43, Tryz.ntmps43
  go_wp2_with fail
  go_end0
  rw [HE.out]
  exact ⟨rfl, HK.out, HB.out⟩
set_option maxHeartbeats 8000000 in
set_option maxRecDepth 100000 in
theorem act_clear_d (n m : Int) (s : Scr) (rows : List (List C)) (hz : ¬ bits .and .i64 (bits .and .i64 n 63) 2 = 0) : ActMakes ⟨#[99, 108, 101, 97, 114]⟩ n m s (setR s (bits .and .i64 n 63) false) rows rows := by
  intro N W p hN hD
  obtain ⟨c0, c1, c3, c4, c5, c9, c10, c11, c19, f⟩ := hD.words
  have k1 : DkAt (W.setCell ⟨p, 11, none⟩ (.int .i64 (bits .and .i64 s.modes (63 - (bits .and .i64 n 63))))) N p { s with modes := modesR s.modes (bits .and .i64 n 63) false } rows := hD.set 11 _ (fun _ _ _ _ => rfl) rfl rfl
  have k2 : DkAt ((W.setCell ⟨p, 11, none⟩ (.int .i64 (bits .and .i64 s.modes (63 - (bits .and .i64 n 63))))).setCell ⟨p, 3, none⟩ (.int .i64 0)) N p { s with modes := modesR s.modes (bits .and .i64 n 63) false, x := 0 } rows := k1.set 3 _ (fun _ _ _ _ => rfl) rfl rfl
  have k3 : DkAt (((W.setCell ⟨p, 11, none⟩ (.int .i64 (bits .and .i64 s.modes (63 - (bits .and .i64 n 63))))).setCell ⟨p, 3, none⟩ (.int .i64 0)).setCell ⟨p, 4, none⟩ (.int .i64 0)) N p { s with modes := modesR s.modes (bits .and .i64 n 63) false, x := 0, y := 0 } rows := k2.set 4 _ (fun _ _ _ _ => rfl) rfl rfl
  have k4 : DkAt ((((W.setCell ⟨p, 11, none⟩ (.int .i64 (bits .and .i64 s.modes (63 - (bits .and .i64 n 63))))).setCell ⟨p, 3, none⟩ (.int .i64 0)).setCell ⟨p, 4, none⟩ (.int .i64 0)).setCell ⟨p, 5, none⟩ (.bool false)) N p { s with modes := modesR s.modes (bits .and .i64 n 63) false, x := 0, y := 0, late := false } rows := k3.set 5 _ (fun _ _ _ _ => rfl) rfl rfl
  have k5 : DkAt (((((W.setCell ⟨p, 11, none⟩ (.int .i64 (bits .and .i64 s.modes (63 - (bits .and .i64 n 63))))).setCell ⟨p, 3, none⟩ (.int .i64 0)).setCell ⟨p, 4, none⟩ (.int .i64 0)).setCell ⟨p, 5, none⟩ (.bool false)).setCell ⟨p, 5, none⟩ (.bool false)) N p { s with modes := modesR s.modes (bits .and .i64 n 63) false, x := 0, y := 0, late := false } rows := k4.set 5 _ (fun _ _ _ _ => rfl) rfl rfl
  have HB : Hid (Below N W (((((W.setCell ⟨p, 11, none⟩ (.int .i64 (bits .and .i64 s.modes (63 - (bits .and .i64 n 63))))).setCell ⟨p, 3, none⟩ (.int .i64 0)).setCell ⟨p, 4, none⟩ (.int .i64 0)).setCell ⟨p, 5, none⟩ (.bool false)).setCell ⟨p, 5, none⟩ (.bool false))) := ((((((Below.refl _ _).setCell hD.lo _).setCell hD.lo _).setCell hD.lo _).setCell hD.lo _).setCell hD.lo _)
  have HK : Hid (DkAt (((((W.setCell ⟨p, 11, none⟩ (.int .i64 (bits .and .i64 s.modes (63 - (bits .and .i64 n 63))))).setCell ⟨p, 3, none⟩ (.int .i64 0)).setCell ⟨p, 4, none⟩ (.int .i64 0)).setCell ⟨p, 5, none⟩ (.bool false)).setCell ⟨p, 5, none⟩ (.bool false)) N p { s with modes := modesR s.modes (bits .and .i64 n 63) false, x := 0, y := 0, late := false } rows) := k5
  have HE : Hid (setR s (bits .and .i64 n 63) false = { s with modes := modesR s.modes (bits .and .i64 n 63) false, x := 0, y := 0, late := false }) := by
    unfold Hid
    simp [setR, modesR, hz]
  generalize setR s (bits .and .i64 n 63) false = s' at *
  have f3 := f 3
  have f4 := f 4
  have f5 := f 5
  have f11 := f 11
  have h63 := and63 n
  have hw63 : IntKind.i64.wrap (63 - (bits .and .i64 n 63)) = 63 - (bits .and .i64 n 63) := wrap_id _ (by omega) (by omega)
  have hz2 : (bits .and .i64 (bits .and .i64 n 63) 2 == 0) = false := by simpa using hz
  clear hD c0 c1 c10 c19 f k1 k2 k3 k4 k5
  clear h63 hz
  go_enter Tryz.func43, Tryz.ntmps43
  go_wp2_with fail
  go_end0
  rw [HE.out]
  exact ⟨rfl, HK.out, HB.out⟩
theorem act_clear (n m : Int) (s : Scr) (rows : List (List C)) : ActMakes ⟨#[99, 108, 101, 97, 114]⟩ n m s (setR s (bits .and .i64 n 63) false) rows rows := by
  by_cases hz : bits .and .i64 (bits .and .i64 n 63) 2 = 0
  · cases hl : s.late with
    | false => exact act_clear_a n m s rows hz hl
    | true => exact act_clear_b n m s rows hz hl
  · exact act_clear_d n m s rows hz
end Put
end Go.Proofs.YtgfhkdiknpnccaaGreatDoor

/- Act: save, restore. -/
namespace Go.Proofs.YtgfhkdiknpnccaaGreatDoor
open Go.ChangeShapes Go.WideShapes Go.ChangeAt Go.RowKit
namespace Put
open Grd (C SliceAt CellsAt gridErr z0 nilV rowsL RowsAt RowB flat)
theorem DkAt.block {W : World} {N p : Nat} {s : Scr} {rows : List (List C)} (h : DkAt W N p s rows) : ∃ cv tv gv rv, W.heap[p]? = some (.cells (shA s cv tv gv rv) 51 (0, 0)) := by
  obtain ⟨cv, tv, gv, rv, gvs, vs, gs, h⟩ := h
  exact ⟨cv, tv, gv, rv, h.blk⟩
theorem DkAt.look {W : World} {N p : Nat} {s : Scr} {rows : List (List C)} (h : DkAt W N p s rows) (a b c : Int) : DkAt (W.setCells p 6 [.int .i64 a, .int .i64 b, .int .i64 c]) N p { s with sf := a, sb := b, sx := c } rows := by
  have h1 : DkAt (W.setCell ⟨p, 6, none⟩ (.int .i64 a)) N p { s with sf := a } rows := h.set 6 _ (fun _ _ _ _ => rfl) rfl rfl
  have h2 : DkAt ((W.setCell ⟨p, 6, none⟩ (.int .i64 a)).setCell ⟨p, 7, none⟩ (.int .i64 b)) N p { s with sf := a, sb := b } rows := h1.set 7 _ (fun _ _ _ _ => rfl) rfl rfl
  exact h2.set 8 _ (fun _ _ _ _ => rfl) rfl rfl
theorem DkAt.kept {W : World} {N p : Nat} {s : Scr} {rows : List (List C)} (h : DkAt W N p s rows) (x y a b c m : Int) : DkAt (W.setCells p 13 [.int .i64 x, .int .i64 y, .int .i64 a, .int .i64 b, .int .i64 c, .int .i64 m]) N p { s with kx := x, ky := y, kf := a, kb := b, kbits := c, km := m } rows := by
  have h1 : DkAt (W.setCell ⟨p, 13, none⟩ (.int .i64 x)) N p { s with kx := x } rows := h.set 13 _ (fun _ _ _ _ => rfl) rfl rfl
  have h2 : DkAt ((W.setCell ⟨p, 13, none⟩ (.int .i64 x)).setCell ⟨p, 14, none⟩ (.int .i64 y)) N p { s with kx := x, ky := y } rows := h1.set 14 _ (fun _ _ _ _ => rfl) rfl rfl
  have h3 : DkAt (((W.setCell ⟨p, 13, none⟩ (.int .i64 x)).setCell ⟨p, 14, none⟩ (.int .i64 y)).setCell ⟨p, 15, none⟩ (.int .i64 a)) N p { s with kx := x, ky := y, kf := a } rows := h2.set 15 _ (fun _ _ _ _ => rfl) rfl rfl
  have h4 : DkAt ((((W.setCell ⟨p, 13, none⟩ (.int .i64 x)).setCell ⟨p, 14, none⟩ (.int .i64 y)).setCell ⟨p, 15, none⟩ (.int .i64 a)).setCell ⟨p, 16, none⟩ (.int .i64 b)) N p { s with kx := x, ky := y, kf := a, kb := b } rows := h3.set 16 _ (fun _ _ _ _ => rfl) rfl rfl
  have h5 : DkAt (((((W.setCell ⟨p, 13, none⟩ (.int .i64 x)).setCell ⟨p, 14, none⟩ (.int .i64 y)).setCell ⟨p, 15, none⟩ (.int .i64 a)).setCell ⟨p, 16, none⟩ (.int .i64 b)).setCell ⟨p, 17, none⟩ (.int .i64 c)) N p { s with kx := x, ky := y, kf := a, kb := b, kbits := c } rows := h4.set 17 _ (fun _ _ _ _ => rfl) rfl rfl
  exact h5.set 18 _ (fun _ _ _ _ => rfl) rfl rfl
section
attribute [local go_sem ↓] load_sty store_sty store_kept
attribute [local go_sem] isInts3 isInts6 ptrB_at ptrOff_at aggL_agg
set_option maxHeartbeats 8000000 in
set_option maxRecDepth 100000 in
theorem act_save (n m : Int) (s : Scr) (rows : List (List C)) : ActMakes ⟨#[115, 97, 118, 101]⟩ n m s (saveS s) rows rows := by
  intro N W p hN hS
  have hlo := hS.lo
  have HK : Hid (DkAt (W.drew.setCells p 13 [.int .i64 s.x, .int .i64 s.y, .int .i64 s.sf, .int .i64 s.sb, .int .i64 s.sx, .int .i64 (bits .and .i64 s.modes 6)]) N p (saveS s) rows) := hS.drew.kept _ _ _ _ _ _
  have HB : Hid (Below N W (W.drew.setCells p 13 [.int .i64 s.x, .int .i64 s.y, .int .i64 s.sf, .int .i64 s.sb, .int .i64 s.sx, .int .i64 (bits .and .i64 s.modes 6)]) ) := below_cells (Below.refl _ _).drew hlo _ _
  obtain ⟨c0, c1, c3, c4, c5, c9, c10, c11, c19, f⟩ := hS.words
  obtain ⟨cv, tv, gv, rv, hblk⟩ := hS.drew.block
  obtain ⟨l1, l2⟩ := sty_look hblk
  have l3 := has_sh hblk 6 13 (by omega)
  clear hS c0 c1 c5 c9 c10 c19 f hblk
  go_enter Tryz.func43, Tryz.ntmps43
  go_upto_region 120 with fail
  go_region
  all_goals go_end0
  all_goals exact ⟨rfl, HK.out, HB.out⟩
set_option maxHeartbeats 8000000 in
set_option maxRecDepth 100000 in
theorem act_restore (n m : Int) (s : Scr) (rows : List (List C)) (h0 : 0 ≤ bits .and .i64 s.modes 57 + s.km) (h1 : bits .and .i64 s.modes 57 + s.km ≤ 63) : ActMakes ⟨#[114, 101, 115, 116, 111, 114, 101]⟩ n m s (restR s) rows rows := by
  intro N W p hN hS
  have hw57 : IntKind.i64.wrap (bits .and .i64 s.modes 57 + s.km) = bits .and .i64 s.modes 57 + s.km := wrap_id _ (by omega) (by omega)
  clear h0 h1
  have hlo := hS.lo
  have hD := hS.drew
  have k1 : DkAt (W.setCell ⟨p, 3, none⟩ (.int .i64 s.kx)) N p { s with x := s.kx } rows := hS.set 3 _ (fun _ _ _ _ => rfl) rfl rfl
  have k2' : DkAt ((W.setCell ⟨p, 3, none⟩ (.int .i64 s.kx)).setCell ⟨p, 4, none⟩ (.int .i64 s.ky)) N p { s with x := s.kx, y := s.ky } rows := k1.set 4 _ (fun _ _ _ _ => rfl) rfl rfl
  have k2 := k2'.drew
  clear k2'
  have k3 : DkAt (((W.setCell ⟨p, 3, none⟩ (.int .i64 s.kx)).setCell ⟨p, 4, none⟩ (.int .i64 s.ky)).drew.setCells p 6 [.int .i64 s.kf, .int .i64 s.kb, .int .i64 s.kbits]) N p { s with x := s.kx, y := s.ky, sf := s.kf, sb := s.kb, sx := s.kbits } rows := k2.look s.kf s.kb s.kbits
  have k4 : DkAt ((((W.setCell ⟨p, 3, none⟩ (.int .i64 s.kx)).setCell ⟨p, 4, none⟩ (.int .i64 s.ky)).drew.setCells p 6 [.int .i64 s.kf, .int .i64 s.kb, .int .i64 s.kbits]).setCell ⟨p, 5, none⟩ (.bool false)) N p { s with x := s.kx, y := s.ky, sf := s.kf, sb := s.kb, sx := s.kbits, late := false } rows := k3.set 5 _ (fun _ _ _ _ => rfl) rfl rfl
  have HB : Hid (Below N W ((((W.setCell ⟨p, 3, none⟩ (.int .i64 s.kx)).setCell ⟨p, 4, none⟩ (.int .i64 s.ky)).drew.setCells p 6 [.int .i64 s.kf, .int .i64 s.kb, .int .i64 s.kbits]).setCell ⟨p, 5, none⟩ (.bool false))) := (below_cells (((Below.refl _ _).setCell hlo _).setCell hlo _).drew hlo _ _).setCell hlo _
  have HK : Hid _ := k4
  obtain ⟨c0, c1, c3, c4, c5, c9, c10, c11, c19, f⟩ := hS.words
  have f3 := f 3
  have f4 := (DkAt.words k1).2.2.2.2.2.2.2.2.2 4
  have c4' := (DkAt.words k1).2.2.2.1
  have f5 := (DkAt.words k3).2.2.2.2.2.2.2.2.2 5
  have c5' := (DkAt.words k3).2.2.2.2.1
  dsimp only at c4' c5'
  obtain ⟨cv, tv, gv, rv, hblk⟩ := hD.block
  obtain ⟨cv2, tv2, gv2, rv2, hblk2⟩ := k2.block
  obtain ⟨l1, l2⟩ := sty_kept hblk
  have l3 := has_sh hblk2 3 6 (by omega)
  obtain ⟨cv3, tv3, gv3, rv3, hblk3⟩ := hS.block
  obtain ⟨-, ⟨-, -, c13, c14, -⟩, -⟩ := sh_cells hblk3
  clear hS hD hblk3 k1 k2 k3 k4 c0 c1 c4 c5 c9 c10 c11 c19 f hblk hblk2
  go_enter Tryz.func43, Tryz.ntmps43
  go_upto_region 122 with fail
  go_region
  all_goals (
    generalize ((((W.setCell ⟨p, 3, none⟩ (.int .i64 s.kx)).setCell ⟨p, 4, none⟩ (.int .i64 s.ky)).drew.setCells p 6 [.int .i64 s.kf, .int .i64 s.kb, .int .i64 s.kbits]).setCell ⟨p, 5, none⟩ (.bool false)) = Y at *
    clear c3 f3 f4 c4' f5 c5' l1 l2 l3 c13 c14
    obtain ⟨c0, c1, c3, c4, c5, c9, c10, c11, c19, f⟩ := DkAt.words (DkAt.drew HK.out)
    have f11 := f 11
    obtain ⟨cv, tv, gv, rv, hblk⟩ := DkAt.block (DkAt.drew HK.out)
    obtain ⟨-, ⟨-, -, -, -, -, -, -, c18, -⟩, -⟩ := sh_cells hblk
    dsimp only at c11 c18
    have HK2 : Hid (DkAt (Y.drew.setCell ⟨p, 11, none⟩ (.int .i64 (bits .and .i64 s.modes 57 + s.km))) N p (restR s) rows) := DkAt.set (DkAt.drew HK.out) 11 _ (fun _ _ _ _ => rfl) rfl rfl
    have HB2 : Hid (Below N W (Y.drew.setCell ⟨p, 11, none⟩ (.int .i64 (bits .and .i64 s.modes 57 + s.km)))) := HB.out.drew.setCell hlo _
    clear HK HB f c0 c1 c3 c4 c5 c9 c10 c19 hblk
    go_upto_region 123 with fail
    go_region
    all_goals go_end0
    all_goals exact ⟨rfl, HK2.out, HB2.out⟩)
end
end Put
end Go.Proofs.YtgfhkdiknpnccaaGreatDoor

/- The law ModeSet. -/
namespace Go.Proofs.YtgfhkdiknpnccaaGreatDoor
open Go.ChangeShapes Go.WideShapes Go.ChangeAt Go.RowKit
namespace Put
open Grd (C SliceAt CellsAt gridErr z0 nilV flat rowsL)
theorem plain_setc : Plain 55 := by
  intro args W
  kernel_rfl
theorem plain_savec : Plain 57 := by
  intro args W
  kernel_rfl
theorem plain_restc : Plain 58 := by
  intro args W
  kernel_rfl
theorem plainF_set : Plain 21 := by
  intro args W
  kernel_rfl
theorem plainF_save : Plain 23 := by
  intro args W
  kernel_rfl
theorem plainF_rest : Plain 24 := by
  intro args W
  kernel_rfl
theorem with_cs (s' : Scr) (cs : List C) (h : cs = s'.cs) : ({ s' with cs := cs } : Scr) = s' := by
  subst h
  rfl
theorem mset_any {w0 w : World} {s : Scr} {cv tv gv : Value} {n hh : Nat} (h : Met w0 w s cv tv gv) (hR : RightS s n hh) (b : Int) (on : Bool) : Calls Tryz.prog 22 #[.agg (scrA s cv tv gv), .int .i64 b, .bool on] w (Made w0 w (setS s (bits .and .i64 b 63) on) 0) :=
  modeSet_calls s _ cv tv gv b on 0 w0 w h.v h.b.size fun W B1 B2 hW hB1 l1 l2 hB2 => by
    have hs := setS_same s (bits .and .i64 b 63) on
    have := md_good (h.next hW) hR _ plain_setc #[.pointer (some ⟨B1, 0, none⟩), .pointer (some ⟨B2, 0, none⟩)] (rowsL n s.cs hh) _ (fun w1 hw1 => set_does (bits .and .i64 b 63) on B1 B2 _ w1 s _ (cell_stay hw1 hB1) (cell_stay hw1 hB2) (Nat.lt_of_lt_of_le l1 hw1.size) (Nat.lt_of_lt_of_le l2 hw1.size)) (rowsOk_same hR _ hs.1) rfl
    rwa [with_cs _ _ (by rw [hs.2.2.1]; exact hR.flatten)] at this
theorem mset_bad {w0 w : World} {s : Scr} {cv tv gv : Value} (h : Met w0 w s cv tv gv) (hz : scrErr s ≠ 0) (b : Int) (on : Bool) : Calls Tryz.prog 22 #[.agg (scrA s cv tv gv), .int .i64 b, .bool on] w (Made w0 w zScr (scrErr s)) :=
  modeSet_calls s zScr cv tv gv b on (scrErr s) w0 w h.v h.b.size fun _ _ _ hW _ _ _ _ => md_bad (h.next hW) hz _ _
theorem save_any {w0 w : World} {s : Scr} {cv tv gv : Value} {n hh : Nat} (h : Met w0 w s cv tv gv) (hR : RightS s n hh) : Calls Tryz.prog 23 #[.agg (scrA s cv tv gv)] w (Made w0 w (saveS s) 0) :=
  modeSave_calls s _ cv tv gv 0 w0 w h.v h.b.size fun W _ hW => by
    have := md_good (h.next hW) hR _ plain_savec #[] (rowsL n s.cs hh) _ (fun w1 _ => save_does _ w1 s _) (rowsOk_same hR (saveS s) rfl) rfl
    rwa [with_cs (saveS s) _ hR.flatten] at this
theorem save_bad {w0 w : World} {s : Scr} {cv tv gv : Value} (h : Met w0 w s cv tv gv) (hz : scrErr s ≠ 0) : Calls Tryz.prog 23 #[.agg (scrA s cv tv gv)] w (Made w0 w zScr (scrErr s)) :=
  modeSave_calls s zScr cv tv gv (scrErr s) w0 w h.v h.b.size fun _ _ hW => md_bad (h.next hW) hz _ _
theorem rest_any {w0 w : World} {s : Scr} {cv tv gv : Value} {n hh : Nat} (h : Met w0 w s cv tv gv) (hR : RightS s n hh) : Calls Tryz.prog 24 #[.agg (scrA s cv tv gv)] w (Made w0 w (restS s) 0) :=
  modeRestore_calls s _ cv tv gv 0 w0 w h.v h.b.size fun W _ hW => by
    have := md_good (h.next hW) hR _ plain_restc #[] (rowsL n s.cs hh) _ (fun w1 _ => restore_does _ w1 s _) (rowsOk_same hR (restS s) rfl) rfl
    rwa [with_cs (restS s) _ hR.flatten] at this
theorem rest_bad {w0 w : World} {s : Scr} {cv tv gv : Value} (h : Met w0 w s cv tv gv) (hz : scrErr s ≠ 0) : Calls Tryz.prog 24 #[.agg (scrA s cv tv gv)] w (Made w0 w zScr (scrErr s)) :=
  modeRestore_calls s zScr cv tv gv (scrErr s) w0 w h.v h.b.size fun _ _ hW => md_bad (h.next hW) hz _ _
theorem small_same {s s' : Scr} (h0 : Small s) (hc : s'.cs = s.cs) (ht : s'.tabs = s.tabs) (hg : s'.gone = s.gone) : Small s' := ⟨by rw [hc]; exact h0.c, by rw [ht]; exact h0.t, by rw [hg]; exact h0.g, by rw [hg]; exact h0.r⟩
/-- What leaves the rows as they are: a name agrees. -/
theorem agree_same {what : ByteArray} {a b : Int} {s s' : Scr} {n hh : Nat} (hR : RightS s n hh) (hA : ActMakes what a b s s' (rowsL n s.cs hh) (rowsL n s.cs hh)) (hc : s'.cs = s.cs) (ht : s'.tabs = s.tabs) (hg : s'.gone = s.gone) (hw : s'.w = s.w) (hh' : s'.h = s.h) : Agrees what a b s s' n hh := by
  refine ⟨small_same (smallOf hR) hc ht hg, _, _, hA, Grd.rowsL_len _ _ _, rowsL_row hR, ?_⟩
  rw [hR.flatten, ← hR.w, ← hR.h, ← hc, ← hw, ← hh']
theorem mset_agree {s : Scr} {n hh : Nat} (hR : RightS s n hh) (b m : Int) (on : Bool) : Agrees (if on then ⟨#[115, 101, 116]⟩ else ⟨#[99, 108, 101, 97, 114]⟩) b m s (setS s (bits .and .i64 b 63) on) n hh := by
  have hmo := hR.modes
  have h63 := and63 b
  obtain ⟨h1, h2, h3, h4, h5⟩ := setS_same s (bits .and .i64 b 63) on
  refine agree_same hR ?_ h3 h2 h1 h4 h5
  rw [← setR_same s _ on hmo.1 hmo.2 h63.1 h63.2]
  cases on with
  | true => exact act_set b m s _
  | false => exact act_clear b m s _
theorem save_agree {s : Scr} {n hh : Nat} (hR : RightS s n hh) (a m : Int) : Agrees ⟨#[115, 97, 118, 101]⟩ a m s (saveS s) n hh := agree_same hR (act_save a m s _) rfl rfl rfl rfl rfl
theorem rest_agree {s : Scr} {n hh : Nat} (hR : RightS s n hh) (a m : Int) : Agrees ⟨#[114, 101, 115, 116, 111, 114, 101]⟩ a m s (restS s) n hh := by
  have hmo := hR.modes
  have hk : keptOk s.km = true := by
    have := hR.looks
    simp only [looksOk, Bool.and_eq_true] at this
    exact this.2.2.2
  have hr := rest_nums s.modes s.km hmo.1 hmo.2 hk
  have e : restR s = restS s := by unfold restR restS; rw [hr.1]
  refine agree_same hR ?_ rfl rfl rfl rfl rfl
  rw [← e]
  exact act_restore a m s _ hr.2.1 hr.2.2
set_option maxHeartbeats 2000000 in
set_option maxRecDepth 100000 in
theorem set1_calls (s s' : Scr) (cv tv gv : Value) (y : Int) (x : Bool) (B1 B2 : Nat) (er : Int) (w0 w : World) (hV : ScrV w0 s cv tv gv) (hM : w0.heap.size ≤ w.heap.size) (h1 : w.cell? ⟨B1, 0, none⟩ = some (.int .i64 y)) (h2 : w.cell? ⟨B2, 0, none⟩ = some (.bool x))
    (hC : ∀ W, Below w.heap.size w W → Calls Tryz.prog 22 #[.agg (scrA s cv tv gv), .int .i64 y, .bool x] W (Made w0 W s' er)) :
    Calls Tryz.prog 21 #[.agg (scrA s cv tv gv), .pointer (some ⟨B1, 0, none⟩), .pointer (some ⟨B2, 0, none⟩)] w (Made w0 w s' er) := by
  obtain ⟨ca, cc, rfl⟩ := hV.c.shape
  obtain ⟨ta, tc, rfl⟩ := hV.t.slice
  obtain ⟨ga, gc, rfl⟩ := hV.g.slice
  have hkb : Below w.heap.size w ((w.alloc (.cells (scrA s (.slice ca s.cs.length cc) (.slice ta s.tabs.length tc) (.slice ga s.gone.length gc)) 32)).alloc (.cells #[.int .i64 0, .int .i64 0, .slice none 0 0, .int .i64 0, .int .i64 0, .bool false, .int .i64 0, .int .i64 0, .int .i64 0, .int .i64 0, .int .i64 0, .int .i64 0, .slice none 0 0, .int .i64 0, .int .i64 0, .int .i64 0, .int .i64 0, .int .i64 0, .int .i64 0, .int .i32 0, .string ⟨#[]⟩, .slice none 0 0] 32)) := (((Below.refl _ _).alloc (by simp) _).alloc (by simp) _)
  have hx0 : (w.alloc (.cells (scrA s (.slice ca s.cs.length cc) (.slice ta s.tabs.length tc) (.slice ga s.gone.length gc)) 32)).heap[w.heap.size]? = some (.cells (scrA s (.slice ca s.cs.length cc) (.slice ta s.tabs.length tc) (.slice ga s.gone.length gc)) 32 (0, 0)) := by
    have h := heap_alloc_new w (.cells (scrA s (.slice ca s.cs.length cc) (.slice ta s.tabs.length tc) (.slice ga s.gone.length gc)) 32)
    have e : w.heap.size = w.heap.size := by simp
    rw [e] at h
    exact h
  have hx0 := (Below.heap_alloc (w.alloc (.cells (scrA s (.slice ca s.cs.length cc) (.slice ta s.tabs.length tc) (.slice ga s.gone.length gc)) 32)) (.cells #[.int .i64 0, .int .i64 0, .slice none 0 0, .int .i64 0, .int .i64 0, .bool false, .int .i64 0, .int .i64 0, .int .i64 0, .int .i64 0, .int .i64 0, .int .i64 0, .slice none 0 0, .int .i64 0, .int .i64 0, .int .i64 0, .int .i64 0, .int .i64 0, .int .i64 0, .int .i32 0, .string ⟨#[]⟩, .slice none 0 0] 32) _ (heap_lt hx0)).trans hx0
  have hx1 : ((w.alloc (.cells (scrA s (.slice ca s.cs.length cc) (.slice ta s.tabs.length tc) (.slice ga s.gone.length gc)) 32)).alloc (.cells #[.int .i64 0, .int .i64 0, .slice none 0 0, .int .i64 0, .int .i64 0, .bool false, .int .i64 0, .int .i64 0, .int .i64 0, .int .i64 0, .int .i64 0, .int .i64 0, .slice none 0 0, .int .i64 0, .int .i64 0, .int .i64 0, .int .i64 0, .int .i64 0, .int .i64 0, .int .i32 0, .string ⟨#[]⟩, .slice none 0 0] 32)).heap[w.heap.size + 1]? = some (.cells #[.int .i64 0, .int .i64 0, .slice none 0 0, .int .i64 0, .int .i64 0, .bool false, .int .i64 0, .int .i64 0, .int .i64 0, .int .i64 0, .int .i64 0, .int .i64 0, .slice none 0 0, .int .i64 0, .int .i64 0, .int .i64 0, .int .i64 0, .int .i64 0, .int .i64 0, .int .i32 0, .string ⟨#[]⟩, .slice none 0 0] 32 (0, 0)) := by
    have h := heap_alloc_new (w.alloc (.cells (scrA s (.slice ca s.cs.length cc) (.slice ta s.tabs.length tc) (.slice ga s.gone.length gc)) 32)) (.cells #[.int .i64 0, .int .i64 0, .slice none 0 0, .int .i64 0, .int .i64 0, .bool false, .int .i64 0, .int .i64 0, .int .i64 0, .int .i64 0, .int .i64 0, .int .i64 0, .slice none 0 0, .int .i64 0, .int .i64 0, .int .i64 0, .int .i64 0, .int .i64 0, .int .i64 0, .int .i32 0, .string ⟨#[]⟩, .slice none 0 0] 32)
    have e : (w.alloc (.cells (scrA s (.slice ca s.cs.length cc) (.slice ta s.tabs.length tc) (.slice ga s.gone.length gc)) 32)).heap.size = w.heap.size + 1 := by simp
    rw [e] at h
    exact h
  have HX0 : Hid _ := hx0
  have HXR : Hid _ := hx1
  have HKB : Hid _ := hkb
  have HC := hC _ hkb
  have q1 := cell_stay hkb h1
  have q2 := cell_stay hkb h2
  have hsz : w.heap.size ≤ ((w.alloc (.cells (scrA s (.slice ca s.cs.length cc) (.slice ta s.tabs.length tc) (.slice ga s.gone.length gc)) 32)).alloc (.cells #[.int .i64 0, .int .i64 0, .slice none 0 0, .int .i64 0, .int .i64 0, .bool false, .int .i64 0, .int .i64 0, .int .i64 0, .int .i64 0, .int .i64 0, .int .i64 0, .slice none 0 0, .int .i64 0, .int .i64 0, .int .i64 0, .int .i64 0, .int .i64 0, .int .i64 0, .int .i32 0, .string ⟨#[]⟩, .slice none 0 0] 32)).heap.size := hkb.size
  clear hkb hV hC hx0 hx1 h1 h2
  go_enter Tryz.func21, Tryz.ntmps21
  go_upto_region 1 with fail
  generalize ((w.alloc (.cells (scrA s (.slice ca s.cs.length cc) (.slice ta s.tabs.length tc) (.slice ga s.gone.length gc)) 32)).alloc (.cells #[.int .i64 0, .int .i64 0, .slice none 0 0, .int .i64 0, .int .i64 0, .bool false, .int .i64 0, .int .i64 0, .int .i64 0, .int .i64 0, .int .i64 0, .int .i64 0, .slice none 0 0, .int .i64 0, .int .i64 0, .int .i64 0, .int .i64 0, .int .i64 0, .int .i64 0, .int .i32 0, .string ⟨#[]⟩, .slice none 0 0] 32)) = X at *
  go_wp2_with (refine wpList_load_row rfl 32 (.tmp 3) rfl w.heap.size rfl _ _ _ _ HX0.out Tryz.underlying32 rfl (by kernel_rfl) ?_)
  refine HC.mono ?_
  rintro e V ⟨cv', tv', gv', rfl, hO, c2⟩
  obtain ⟨a1, n1, c1, a2, n2, c2', a3, n3, c3, rfl, rfl, rfl⟩ := hO.shapes
  have HO : Hid (ScrO V w0.heap.size _ s' _ _ _) := hO
  have HR : Hid (V.heap[w.heap.size + 1]? = _) := Grd.carry HXR.out c2
  have HB : Hid (Below w.heap.size w V) := HKB.out.trans (c2.mono HKB.out.size)
  clear hO c2 HC q1 q2
  go_wp2_with (refine wpList_store_row rfl 32 (.tmp 4) (.tmp 10) rfl (w.heap.size + 1) (scrA s' (.slice a1 n1 c1) (.slice a2 n2 c2') (.slice a3 n3 c3)) rfl rfl _ _ HR.out (by kernel_rfl) rfl (scr_one _ _ _ _ _ _ _ _ _ _) ?_)
  (try simp only [Exit.inBlock, Exit.then])
  refine bodyPost_ret (v := .tuple #[.agg (scrA s' (.slice a1 n1 c1) (.slice a2 n2 c2') (.slice a3 n3 c3)), .int .i64 er]) ?_ rfl ⟨_, _, _, rfl, ?_, below_setRow HB.out (by omega) _⟩
  · exact Grd.results_row_tmp rfl _ _ (w.heap.size + 1) _ _ _ _ rfl (setRow_heap _ _ _ _ _ _ HR.out) Tryz.underlying32 rfl (by kernel_rfl) _ rfl
  · exact (ScrO.off HO.out HR.out screen_is (by omega) fun k hk => setRow_other _ _ _ _ hk).mono hsz
theorem set_law (s : Scr) (cv tv gv : Value) (y : Int) (x : Bool) (B1 B2 : Nat) (w : World) (hT : Txt.Tab w) (hV : ScrV w s cv tv gv) (hB : Bulk s) (h1 : w.cell? ⟨B1, 0, none⟩ = some (.int .i64 y)) (h2 : w.cell? ⟨B2, 0, none⟩ = some (.bool x)) :
    Calls Tryz.prog 13 #[.agg (scrA s cv tv gv), .func (.func 21) #[] #[.pointer (some ⟨B1, 0, none⟩), .pointer (some ⟨B2, 0, none⟩)], .string (if x then ⟨#[115, 101, 116]⟩ else ⟨#[99, 108, 101, 97, 114]⟩), .int .i64 y, .int .i64 0] w fun e w' => e = .returned (.bool true) ∧ Below w.heap.size w w' :=
  acts_any s cv tv gv _ plainF_set _ _ y 0 w hT hV hB (setS s (bits .and .i64 y 63) x) (fun hz w0 W cv' tv' gv' hb hm => set1_calls s zScr cv' tv' gv' y x B1 B2 _ w0 W hm.v hm.b.size (cell_stay (hb.trans (hm.b.mono hb.size)) h1) (cell_stay (hb.trans (hm.b.mono hb.size)) h2) fun _ hV' => mset_bad (hm.next hV') hz y x) fun _ _ hR =>
    ⟨fun w0 W cv' tv' gv' hb hm => set1_calls s _ cv' tv' gv' y x B1 B2 _ w0 W hm.v hm.b.size (cell_stay (hb.trans (hm.b.mono hb.size)) h1) (cell_stay (hb.trans (hm.b.mono hb.size)) h2) fun _ hV' => mset_any (hm.next hV') hR y x, mset_agree hR y 0 x⟩
theorem save_law (s : Scr) (cv tv gv : Value) (w : World) (hT : Txt.Tab w) (hV : ScrV w s cv tv gv) (hB : Bulk s) :
    Calls Tryz.prog 13 #[.agg (scrA s cv tv gv), .func (.func 23) #[] #[], .string ⟨#[115, 97, 118, 101]⟩, .int .i64 0, .int .i64 0] w fun e w' => e = .returned (.bool true) ∧ Below w.heap.size w w' :=
  acts_any s cv tv gv _ plainF_save #[] _ 0 0 w hT hV hB (saveS s) (fun hz _ _ _ _ _ _ hm => save_bad hm hz) fun _ _ hR => ⟨fun _ _ _ _ _ _ hm => save_any hm hR, save_agree hR 0 0⟩
theorem rest_law (s : Scr) (cv tv gv : Value) (w : World) (hT : Txt.Tab w) (hV : ScrV w s cv tv gv) (hB : Bulk s) :
    Calls Tryz.prog 13 #[.agg (scrA s cv tv gv), .func (.func 24) #[] #[], .string ⟨#[114, 101, 115, 116, 111, 114, 101]⟩, .int .i64 0, .int .i64 0] w fun e w' => e = .returned (.bool true) ∧ Below w.heap.size w w' :=
  acts_any s cv tv gv _ plainF_rest #[] _ 0 0 w hT hV hB (restS s) (fun hz _ _ _ _ _ _ hm => rest_bad hm hz) fun _ _ hR => ⟨fun _ _ _ _ _ _ hm => rest_any hm hR, rest_agree hR 0 0⟩
set_option maxHeartbeats 4000000 in
set_option maxRecDepth 100000 in
theorem modeSet_walk (s : Scr) (cv tv gv : Value) (a : Int) (on : Bool) (w : World) (hT : Txt.Tab w) (hV : ScrV w s cv tv gv) (hB : Bulk s) :
    Calls Tryz.prog 6 #[.agg (scrA s cv tv gv), .int .i64 a, .bool on] w fun e w' => e = .returned (.bool true) ∧ Below w.heap.size w w' := by
  have HC1 : Hid (∀ W B1 B2, Below w.heap.size w W → W.cell? ⟨B1, 0, none⟩ = some (.int .i64 a) → W.cell? ⟨B2, 0, none⟩ = some (.bool on) → Calls Tryz.prog 13 #[.agg (scrA s cv tv gv), .func (.func 21) #[] #[.pointer (some ⟨B1, 0, none⟩), .pointer (some ⟨B2, 0, none⟩)], .string (if on then ⟨#[115, 101, 116]⟩ else ⟨#[99, 108, 101, 97, 114]⟩), .int .i64 a, .int .i64 0] W fun e w' => e = .returned (.bool true) ∧ Below W.heap.size W w') := fun W B1 B2 h h1 h2 => set_law s cv tv gv a on B1 B2 W (Grd.Tab.next hT h) (hV.next h) hB h1 h2
  have HC2 : Hid (∀ W, Below w.heap.size w W → Calls Tryz.prog 13 #[.agg (scrA s cv tv gv), .func (.func 23) #[] #[], .string ⟨#[115, 97, 118, 101]⟩, .int .i64 0, .int .i64 0] W fun e w' => e = .returned (.bool true) ∧ Below W.heap.size W w') := fun W h => save_law s cv tv gv W (Grd.Tab.next hT h) (hV.next h) hB
  have HC3 : Hid (∀ W, Below w.heap.size w W → Calls Tryz.prog 13 #[.agg (scrA s cv tv gv), .func (.func 24) #[] #[], .string ⟨#[114, 101, 115, 116, 111, 114, 101]⟩, .int .i64 0, .int .i64 0] W fun e w' => e = .returned (.bool true) ∧ Below W.heap.size W w') := fun W h => rest_law s cv tv gv W (Grd.Tab.next hT h) (hV.next h) hB
  obtain ⟨ca, cc, rfl⟩ := hV.c.shape
  obtain ⟨ta, tc, rfl⟩ := hV.t.slice
  obtain ⟨ga, gc, rfl⟩ := hV.g.slice
  have hkb : Below w.heap.size w (((w.alloc (.cells (scrA s (.slice ca s.cs.length cc) (.slice ta s.tabs.length tc) (.slice ga s.gone.length gc)) 32)).alloc (.cells #[.int .i64 a] 3)).alloc (.cells #[.bool on] 4)) := ((((Below.refl _ _).alloc (by simp) _).alloc (by simp) _).alloc (by simp; omega) _)
  have hx0 : (w.alloc (.cells (scrA s (.slice ca s.cs.length cc) (.slice ta s.tabs.length tc) (.slice ga s.gone.length gc)) 32)).heap[w.heap.size]? = some (.cells (scrA s (.slice ca s.cs.length cc) (.slice ta s.tabs.length tc) (.slice ga s.gone.length gc)) 32 (0, 0)) := by
    have h := heap_alloc_new w (.cells (scrA s (.slice ca s.cs.length cc) (.slice ta s.tabs.length tc) (.slice ga s.gone.length gc)) 32)
    have e : w.heap.size = w.heap.size := by simp
    rw [e] at h
    exact h
  have hx0 := (Below.heap_alloc (w.alloc (.cells (scrA s (.slice ca s.cs.length cc) (.slice ta s.tabs.length tc) (.slice ga s.gone.length gc)) 32)) (.cells #[.int .i64 a] 3) _ (heap_lt hx0)).trans hx0
  have hx0 := (Below.heap_alloc ((w.alloc (.cells (scrA s (.slice ca s.cs.length cc) (.slice ta s.tabs.length tc) (.slice ga s.gone.length gc)) 32)).alloc (.cells #[.int .i64 a] 3)) (.cells #[.bool on] 4) _ (heap_lt hx0)).trans hx0
  have hx1 : ((w.alloc (.cells (scrA s (.slice ca s.cs.length cc) (.slice ta s.tabs.length tc) (.slice ga s.gone.length gc)) 32)).alloc (.cells #[.int .i64 a] 3)).heap[w.heap.size + 1]? = some (.cells #[.int .i64 a] 3 (0, 0)) := by
    have h := heap_alloc_new (w.alloc (.cells (scrA s (.slice ca s.cs.length cc) (.slice ta s.tabs.length tc) (.slice ga s.gone.length gc)) 32)) (.cells #[.int .i64 a] 3)
    have e : (w.alloc (.cells (scrA s (.slice ca s.cs.length cc) (.slice ta s.tabs.length tc) (.slice ga s.gone.length gc)) 32)).heap.size = w.heap.size + 1 := by simp
    rw [e] at h
    exact h
  have hx1 := (Below.heap_alloc ((w.alloc (.cells (scrA s (.slice ca s.cs.length cc) (.slice ta s.tabs.length tc) (.slice ga s.gone.length gc)) 32)).alloc (.cells #[.int .i64 a] 3)) (.cells #[.bool on] 4) _ (heap_lt hx1)).trans hx1
  have hx2 : (((w.alloc (.cells (scrA s (.slice ca s.cs.length cc) (.slice ta s.tabs.length tc) (.slice ga s.gone.length gc)) 32)).alloc (.cells #[.int .i64 a] 3)).alloc (.cells #[.bool on] 4)).heap[w.heap.size + 2]? = some (.cells #[.bool on] 4 (0, 0)) := by
    have h := heap_alloc_new ((w.alloc (.cells (scrA s (.slice ca s.cs.length cc) (.slice ta s.tabs.length tc) (.slice ga s.gone.length gc)) 32)).alloc (.cells #[.int .i64 a] 3)) (.cells #[.bool on] 4)
    have e : ((w.alloc (.cells (scrA s (.slice ca s.cs.length cc) (.slice ta s.tabs.length tc) (.slice ga s.gone.length gc)) 32)).alloc (.cells #[.int .i64 a] 3)).heap.size = w.heap.size + 2 := by simp
    rw [e] at h
    exact h
  have HX0 : Hid _ := hx0
  have HKB : Hid _ := hkb
  have q1 := cell_box hx1
  have q2 := cell_box hx2
  clear hkb hV hx0 hx1 hx2 hT hB
  cases on with
  | true =>
    go_enter Tryz.func6, Tryz.ntmps6
    go_upto_region 5 with fail
    generalize (((w.alloc (.cells (scrA s (.slice ca s.cs.length cc) (.slice ta s.tabs.length tc) (.slice ga s.gone.length gc)) 32)).alloc (.cells #[.int .i64 a] 3)).alloc (.cells #[.bool true] 4)) = X at *
    have HQ1 : Hid _ := q1
    have HQ2 : Hid _ := q2
    go_wp2_with (refine wpList_load_row rfl 32 (.tmp 3) rfl w.heap.size rfl _ _ _ _ HX0.out Tryz.underlying32 rfl (by kernel_rfl) ?_)
    refine (HC1.out _ _ _ HKB.out HQ1.out HQ2.out).mono ?_
    rintro e V1 ⟨rfl, b1⟩
    have HB1 : Hid (Below w.heap.size w V1) := HKB.out.trans (b1.mono HKB.out.size)
    have HX1 : Hid (V1.heap[w.heap.size]? = _) := Grd.carry HX0.out b1
    clear b1 q1 q2 HQ1 HQ2
    go_wp2_with (refine BigFrame.wpList_want rfl fun K hK => wp_load_row 32 (.tmp 3) rfl w.heap.size rfl _ _ _ _ HX1.out Tryz.underlying32 rfl (by kernel_rfl) (hK _ _ ?_))
    refine (HC2.out _ HB1.out).mono ?_
    rintro e V2 ⟨rfl, b2⟩
    have HB2 : Hid (Below w.heap.size w V2) := HB1.out.trans (b2.mono HB1.out.size)
    have HX2 : Hid (V2.heap[w.heap.size]? = _) := Grd.carry HX1.out b2
    clear b2
    go_wp2_with (refine BigFrame.wpList_want rfl fun K hK => wp_load_row 32 (.tmp 3) rfl w.heap.size rfl _ _ _ _ HX2.out Tryz.underlying32 rfl (by kernel_rfl) (hK _ _ ?_))
    refine (HC3.out _ HB2.out).mono ?_
    rintro e V3 ⟨rfl, b3⟩
    have HB3 : Hid (Below w.heap.size w V3) := HB2.out.trans (b3.mono HB2.out.size)
    clear b3
    go_wp2_with fail
    go_ret
    exact ⟨rfl, HB3.out⟩
  | false =>
    go_enter Tryz.func6, Tryz.ntmps6
    go_upto_region 5 with fail
    generalize (((w.alloc (.cells (scrA s (.slice ca s.cs.length cc) (.slice ta s.tabs.length tc) (.slice ga s.gone.length gc)) 32)).alloc (.cells #[.int .i64 a] 3)).alloc (.cells #[.bool false] 4)) = X at *
    have HQ1 : Hid _ := q1
    have HQ2 : Hid _ := q2
    go_wp2_with (refine wpList_load_row rfl 32 (.tmp 3) rfl w.heap.size rfl _ _ _ _ HX0.out Tryz.underlying32 rfl (by kernel_rfl) ?_)
    refine (HC1.out _ _ _ HKB.out HQ1.out HQ2.out).mono ?_
    rintro e V1 ⟨rfl, b1⟩
    have HB1 : Hid (Below w.heap.size w V1) := HKB.out.trans (b1.mono HKB.out.size)
    have HX1 : Hid (V1.heap[w.heap.size]? = _) := Grd.carry HX0.out b1
    clear b1 q1 q2 HQ1 HQ2
    go_wp2_with (refine BigFrame.wpList_want rfl fun K hK => wp_load_row 32 (.tmp 3) rfl w.heap.size rfl _ _ _ _ HX1.out Tryz.underlying32 rfl (by kernel_rfl) (hK _ _ ?_))
    refine (HC2.out _ HB1.out).mono ?_
    rintro e V2 ⟨rfl, b2⟩
    have HB2 : Hid (Below w.heap.size w V2) := HB1.out.trans (b2.mono HB1.out.size)
    have HX2 : Hid (V2.heap[w.heap.size]? = _) := Grd.carry HX1.out b2
    clear b2
    go_wp2_with (refine BigFrame.wpList_want rfl fun K hK => wp_load_row 32 (.tmp 3) rfl w.heap.size rfl _ _ _ _ HX2.out Tryz.underlying32 rfl (by kernel_rfl) (hK _ _ ?_))
    refine (HC3.out _ HB2.out).mono ?_
    rintro e V3 ⟨rfl, b3⟩
    have HB3 : Hid (Below w.heap.size w V3) := HB2.out.trans (b3.mono HB2.out.size)
    clear b3
    go_wp2_with fail
    go_ret
    exact ⟨rfl, HB3.out⟩
end Put
end Go.Proofs.YtgfhkdiknpnccaaGreatDoor
