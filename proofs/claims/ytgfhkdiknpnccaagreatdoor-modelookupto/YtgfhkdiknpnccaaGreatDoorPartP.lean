/- trellislaw.acts and one: a call, and what a name says. -/
import Derived.Test.YtgfhkdiknpnccaaGreatDoorPartO
import Derived.Test.YtgfhkdiknpnccaaGreatDoorPartK
import Derived.Test.YtgfhkdiknpnccaaGreatDoorPartJ
import Derived.BigRegion
import Derived.Deep.RegionHeld3
import Derived.Test.YtgfhkdiknpnccaaGreatDoorPartI
import Derived.WalkSmall
import Derived.Maps.AppendAt
import Derived.Maps.Own
import Derived.Maps.OwnOps
import Derived.Maps.Views
namespace Go.Proofs.YtgfhkdiknpnccaaGreatDoor
open Go.ChangeShapes Go.WideShapes Go.ChangeAt Go.RowKit
namespace Put
open Grd (C SliceAt CellsAt gridErr z0 nilV rowsL RowsAt RowB flat)
theorem cell_box {W : World} {R : Nat} {v : Value} {t : TypeId} (h : W.heap[R]? = some (.cells #[v] t (0, 0))) : W.cell? ⟨R, 0, none⟩ = some v := by simp [World.cell?, h]
/-- What a name does to a desk. -/
def ActMakes (what : ByteArray) (n m : Int) (s s2 : Scr) (rows rows2 : List (List C)) : Prop :=
  ∀ N W p, N ≤ W.heap.size → DkAt W N p s rows → Calls Tryz.prog 43 #[.pointer (some ⟨p, 0, none⟩), .string what, .int .i64 n, .int .i64 m] W fun e W' => e = .returned (.tuple #[]) ∧ DkAt W' N p s2 rows2 ∧ Below N W W'
theorem plain_acts : Plain 42 := by
  intro args W
  kernel_rfl
set_option maxHeartbeats 1000000 in
theorem acts1_acts {what : ByteArray} {n m : Int} {s s2 : Scr} {rows rows2 : List (List C)} (h : ActMakes what n m s s2 rows rows2) (B1 B2 B3 : Nat) (w : World) (h1 : w.cell? ⟨B1, 0, none⟩ = some (.string what)) (h2 : w.cell? ⟨B2, 0, none⟩ = some (.int .i64 n)) (h3 : w.cell? ⟨B3, 0, none⟩ = some (.int .i64 m)) :
    Acts 42 #[.pointer (some ⟨B1, 0, none⟩), .pointer (some ⟨B2, 0, none⟩), .pointer (some ⟨B3, 0, none⟩)] w s s2 rows rows2 := by
  intro N W p hb hN hN2 hD
  have q1 := cell_stay hb h1
  have q2 := cell_stay hb h2
  have q3 := cell_stay hb h3
  have H := h N W p hN2 hD
  clear h hD h1 h2 h3 hb
  show Calls _ _ #[.pointer (some ⟨p, 0, none⟩), .pointer (some ⟨B1, 0, none⟩), .pointer (some ⟨B2, 0, none⟩), .pointer (some ⟨B3, 0, none⟩)] _ _
  go_enter Tryz.func42, Tryz.ntmps42
  go_wp2_with fail
  refine H.mono ?_
  rintro e W1 ⟨rfl, hD1, b1⟩
  go_wp2_with fail
  go_end0
  exact ⟨rfl, hD1, b1⟩
set_option maxHeartbeats 2000000 in
set_option maxRecDepth 100000 in
theorem acts_calls (s : Scr) (cv tv gv fv : Value) (what : ByteArray) (n m : Int) (w : World) (hV : ScrV w s cv tv gv)
    (hD : ∀ W B1 B2 B3, Below w.heap.size w W → W.cell? ⟨B1, 0, none⟩ = some (.string what) → W.cell? ⟨B2, 0, none⟩ = some (.int .i64 n) → W.cell? ⟨B3, 0, none⟩ = some (.int .i64 m) → Calls Tryz.prog 29 #[.agg (scrA s cv tv gv), fv, .func (.func 42) #[] #[.pointer (some ⟨B1, 0, none⟩), .pointer (some ⟨B2, 0, none⟩), .pointer (some ⟨B3, 0, none⟩)]] W fun e w' => e = .returned (.bool true) ∧ Below W.heap.size W w') :
    Calls Tryz.prog 13 #[.agg (scrA s cv tv gv), fv, .string what, .int .i64 n, .int .i64 m] w fun e w' => e = .returned (.bool true) ∧ Below w.heap.size w w' := by
  obtain ⟨ca, cc, rfl⟩ := hV.c.shape
  obtain ⟨ta, tc, rfl⟩ := hV.t.slice
  obtain ⟨ga, gc, rfl⟩ := hV.g.slice
  have hkb : Below w.heap.size w ((((w.alloc (.cells (scrA s (.slice ca s.cs.length cc) (.slice ta s.tabs.length tc) (.slice ga s.gone.length gc)) 32)).alloc (.cells #[.string what] 9)).alloc (.cells #[.int .i64 n] 3)).alloc (.cells #[.int .i64 m] 3)) := (((((Below.refl _ _).alloc (by simp) _).alloc (by simp) _).alloc (by simp; omega) _).alloc (by simp; omega) _)
  have hx0 : (w.alloc (.cells (scrA s (.slice ca s.cs.length cc) (.slice ta s.tabs.length tc) (.slice ga s.gone.length gc)) 32)).heap[w.heap.size]? = some (.cells (scrA s (.slice ca s.cs.length cc) (.slice ta s.tabs.length tc) (.slice ga s.gone.length gc)) 32 (0, 0)) := by
    have h := heap_alloc_new w (.cells (scrA s (.slice ca s.cs.length cc) (.slice ta s.tabs.length tc) (.slice ga s.gone.length gc)) 32)
    have e : w.heap.size = w.heap.size := by simp
    rw [e] at h
    exact h
  have hx0 := (Below.heap_alloc (w.alloc (.cells (scrA s (.slice ca s.cs.length cc) (.slice ta s.tabs.length tc) (.slice ga s.gone.length gc)) 32)) (.cells #[.string what] 9) _ (heap_lt hx0)).trans hx0
  have hx0 := (Below.heap_alloc ((w.alloc (.cells (scrA s (.slice ca s.cs.length cc) (.slice ta s.tabs.length tc) (.slice ga s.gone.length gc)) 32)).alloc (.cells #[.string what] 9)) (.cells #[.int .i64 n] 3) _ (heap_lt hx0)).trans hx0
  have hx0 := (Below.heap_alloc (((w.alloc (.cells (scrA s (.slice ca s.cs.length cc) (.slice ta s.tabs.length tc) (.slice ga s.gone.length gc)) 32)).alloc (.cells #[.string what] 9)).alloc (.cells #[.int .i64 n] 3)) (.cells #[.int .i64 m] 3) _ (heap_lt hx0)).trans hx0
  have hx1 : ((w.alloc (.cells (scrA s (.slice ca s.cs.length cc) (.slice ta s.tabs.length tc) (.slice ga s.gone.length gc)) 32)).alloc (.cells #[.string what] 9)).heap[w.heap.size + 1]? = some (.cells #[.string what] 9 (0, 0)) := by
    have h := heap_alloc_new (w.alloc (.cells (scrA s (.slice ca s.cs.length cc) (.slice ta s.tabs.length tc) (.slice ga s.gone.length gc)) 32)) (.cells #[.string what] 9)
    have e : (w.alloc (.cells (scrA s (.slice ca s.cs.length cc) (.slice ta s.tabs.length tc) (.slice ga s.gone.length gc)) 32)).heap.size = w.heap.size + 1 := by simp
    rw [e] at h
    exact h
  have hx1 := (Below.heap_alloc ((w.alloc (.cells (scrA s (.slice ca s.cs.length cc) (.slice ta s.tabs.length tc) (.slice ga s.gone.length gc)) 32)).alloc (.cells #[.string what] 9)) (.cells #[.int .i64 n] 3) _ (heap_lt hx1)).trans hx1
  have hx1 := (Below.heap_alloc (((w.alloc (.cells (scrA s (.slice ca s.cs.length cc) (.slice ta s.tabs.length tc) (.slice ga s.gone.length gc)) 32)).alloc (.cells #[.string what] 9)).alloc (.cells #[.int .i64 n] 3)) (.cells #[.int .i64 m] 3) _ (heap_lt hx1)).trans hx1
  have hx2 : (((w.alloc (.cells (scrA s (.slice ca s.cs.length cc) (.slice ta s.tabs.length tc) (.slice ga s.gone.length gc)) 32)).alloc (.cells #[.string what] 9)).alloc (.cells #[.int .i64 n] 3)).heap[w.heap.size + 2]? = some (.cells #[.int .i64 n] 3 (0, 0)) := by
    have h := heap_alloc_new ((w.alloc (.cells (scrA s (.slice ca s.cs.length cc) (.slice ta s.tabs.length tc) (.slice ga s.gone.length gc)) 32)).alloc (.cells #[.string what] 9)) (.cells #[.int .i64 n] 3)
    have e : ((w.alloc (.cells (scrA s (.slice ca s.cs.length cc) (.slice ta s.tabs.length tc) (.slice ga s.gone.length gc)) 32)).alloc (.cells #[.string what] 9)).heap.size = w.heap.size + 2 := by simp
    rw [e] at h
    exact h
  have hx2 := (Below.heap_alloc (((w.alloc (.cells (scrA s (.slice ca s.cs.length cc) (.slice ta s.tabs.length tc) (.slice ga s.gone.length gc)) 32)).alloc (.cells #[.string what] 9)).alloc (.cells #[.int .i64 n] 3)) (.cells #[.int .i64 m] 3) _ (heap_lt hx2)).trans hx2
  have hx3 : ((((w.alloc (.cells (scrA s (.slice ca s.cs.length cc) (.slice ta s.tabs.length tc) (.slice ga s.gone.length gc)) 32)).alloc (.cells #[.string what] 9)).alloc (.cells #[.int .i64 n] 3)).alloc (.cells #[.int .i64 m] 3)).heap[w.heap.size + 3]? = some (.cells #[.int .i64 m] 3 (0, 0)) := by
    have h := heap_alloc_new (((w.alloc (.cells (scrA s (.slice ca s.cs.length cc) (.slice ta s.tabs.length tc) (.slice ga s.gone.length gc)) 32)).alloc (.cells #[.string what] 9)).alloc (.cells #[.int .i64 n] 3)) (.cells #[.int .i64 m] 3)
    have e : (((w.alloc (.cells (scrA s (.slice ca s.cs.length cc) (.slice ta s.tabs.length tc) (.slice ga s.gone.length gc)) 32)).alloc (.cells #[.string what] 9)).alloc (.cells #[.int .i64 n] 3)).heap.size = w.heap.size + 3 := by simp
    rw [e] at h
    exact h
  have HX0 : Hid _ := hx0
  have HKB : Hid _ := hkb
  have HC := hD _ (w.heap.size + 1) (w.heap.size + 2) (w.heap.size + 3) hkb (cell_box hx1) (cell_box hx2) (cell_box hx3)
  clear hkb hV hD hx0 hx1 hx2 hx3
  go_enter Tryz.func13, Tryz.ntmps13
  go_upto_region 1 with fail
  generalize ((((w.alloc (.cells (scrA s (.slice ca s.cs.length cc) (.slice ta s.tabs.length tc) (.slice ga s.gone.length gc)) 32)).alloc (.cells #[.string what] 9)).alloc (.cells #[.int .i64 n] 3)).alloc (.cells #[.int .i64 m] 3)) = X at *
  go_wp2_with (refine wpList_load_row rfl 32 (.tmp 5) rfl w.heap.size rfl _ _ _ _ HX0.out Tryz.underlying32 rfl (by kernel_rfl) ?_)
  refine HC.mono ?_
  rintro e V ⟨rfl, b⟩
  have HB : Hid (Below w.heap.size w V) := HKB.out.trans (b.mono HKB.out.size)
  clear HC b
  go_wp2_with fail
  go_ret
  exact ⟨rfl, HB.out⟩
set_option maxHeartbeats 2000000 in
set_option maxRecDepth 100000 in
theorem one1_calls (s s' : Scr) (cv tv gv : Value) (cf : FuncId) (hcf : Plain cf) (n : Int) (B1 B2 : Nat) (er : Int) (w0 w : World) (hV : ScrV w0 s cv tv gv) (hM : w0.heap.size ≤ w.heap.size) (h1 : w.cell? ⟨B1, 0, none⟩ = some (.func (.func cf) #[] #[])) (h2 : w.cell? ⟨B2, 0, none⟩ = some (.int .i64 n))
    (hC : ∀ W, Below w.heap.size w W → Calls Tryz.prog cf #[.agg (scrA s cv tv gv), .int .i64 n] W (Made w0 W s' er)) :
    Calls Tryz.prog 35 #[.agg (scrA s cv tv gv), .pointer (some ⟨B1, 0, none⟩), .pointer (some ⟨B2, 0, none⟩)] w (Made w0 w s' er) := by
  obtain ⟨ca, cc, rfl⟩ := hV.c.shape
  obtain ⟨ta, tc, rfl⟩ := hV.t.slice
  obtain ⟨ga, gc, rfl⟩ := hV.g.slice
  have hkb : Below w.heap.size w ((w.alloc (.cells (scrA s (.slice ca s.cs.length cc) (.slice ta s.tabs.length tc) (.slice ga s.gone.length gc)) 32)).alloc (.cells #[.int .i64 0, .int .i64 0, .slice none 0 0, .int .i64 0, .int .i64 0, .bool false, .int .i64 0, .int .i64 0, .int .i64 0, .int .i64 0, .int .i64 0, .int .i64 0, .slice none 0 0, .int .i64 0, .int .i64 0, .int .i64 0, .int .i64 0, .int .i64 0, .int .i64 0, .int .i32 0, .string ⟨#[]⟩, .slice none 0 0] 32)) := (((Below.refl _ _).alloc (by simp) _).alloc (by simp) _)
  have hx0 : (w.alloc (.cells (scrA s (.slice ca s.cs.length cc) (.slice ta s.tabs.length tc) (.slice ga s.gone.length gc)) 32)).heap[w.heap.size]? = some (.cells (scrA s (.slice ca s.cs.length cc) (.slice ta s.tabs.length tc) (.slice ga s.gone.length gc)) 32 (0, 0)) := by
    have h := heap_alloc_new w (.cells (scrA s (.slice ca s.cs.length cc) (.slice ta s.tabs.length tc) (.slice ga s.gone.length gc)) 32)
    have e : w.heap.size = w.heap.size := by simp
    rw [e] at h
    exact h
  have hx0 := (Below.heap_alloc (w.alloc (.cells (scrA s (.slice ca s.cs.length cc) (.slice ta s.tabs.length tc) (.slice ga s.gone.length gc)) 32)) (.cells #[.int .i64 0, .int .i64 0, .slice none 0 0, .int .i64 0, .int .i64 0, .bool false, .int .i64 0, .int .i64 0, .int .i64 0, .int .i64 0, .int .i64 0, .int .i64 0, .slice none 0 0, .int .i64 0, .int .i64 0, .int .i64 0, .int .i64 0, .int .i64 0, .int .i64 0, .int .i32 0, .string ⟨#[]⟩, .slice none 0 0] 32) _ (heap_lt hx0)).trans hx0
  have hx1 : ((w.alloc (.cells (scrA s (.slice ca s.cs.length cc) (.slice ta s.tabs.length tc) (.slice ga s.gone.length gc)) 32)).alloc (.cells #[.int .i64 0, .int .i64 0, .slice none 0 0, .int .i64 0, .int .i64 0, .bool false, .int .i64 0, .int .i64 0, .int .i64 0, .int .i64 0, .int .i64 0, .int .i64 0, .slice none 0 0, .int .i64 0, .int .i64 0, .int .i64 0, .int .i64 0, .int .i64 0, .int .i64 0, .int .i32 0, .string ⟨#[]⟩, .slice none 0 0] 32)).heap[w.heap.size + 1]? = some (.cells #[.int .i64 0, .int .i64 0, .slice none 0 0, .int .i64 0, .int .i64 0, .bool false, .int .i64 0, .int .i64 0, .int .i64 0, .int .i64 0, .int .i64 0, .int .i64 0, .slice none 0 0, .int .i64 0, .int .i64 0, .int .i64 0, .int .i64 0, .int .i64 0, .int .i64 0, .int .i32 0, .string ⟨#[]⟩, .slice none 0 0] 32 (0, 0)) := by
    have h := heap_alloc_new (w.alloc (.cells (scrA s (.slice ca s.cs.length cc) (.slice ta s.tabs.length tc) (.slice ga s.gone.length gc)) 32)) (.cells #[.int .i64 0, .int .i64 0, .slice none 0 0, .int .i64 0, .int .i64 0, .bool false, .int .i64 0, .int .i64 0, .int .i64 0, .int .i64 0, .int .i64 0, .int .i64 0, .slice none 0 0, .int .i64 0, .int .i64 0, .int .i64 0, .int .i64 0, .int .i64 0, .int .i64 0, .int .i32 0, .string ⟨#[]⟩, .slice none 0 0] 32)
    have e : (w.alloc (.cells (scrA s (.slice ca s.cs.length cc) (.slice ta s.tabs.length tc) (.slice ga s.gone.length gc)) 32)).heap.size = w.heap.size + 1 := by simp
    rw [e] at h
    exact h
  have HX0 : Hid _ := hx0
  have HXR : Hid _ := hx1
  have HKB : Hid _ := hkb
  have HC := hC _ hkb
  have q1 := cell_stay hkb h1
  have q2 := cell_stay hkb h2
  have hsz : w.heap.size ≤ ((w.alloc (.cells (scrA s (.slice ca s.cs.length cc) (.slice ta s.tabs.length tc) (.slice ga s.gone.length gc)) 32)).alloc (.cells #[.int .i64 0, .int .i64 0, .slice none 0 0, .int .i64 0, .int .i64 0, .bool false, .int .i64 0, .int .i64 0, .int .i64 0, .int .i64 0, .int .i64 0, .int .i64 0, .slice none 0 0, .int .i64 0, .int .i64 0, .int .i64 0, .int .i64 0, .int .i64 0, .int .i64 0, .int .i32 0, .string ⟨#[]⟩, .slice none 0 0] 32)).heap.size := hkb.size
  unfold Plain at hcf
  clear hkb hV hC hx0 hx1 h1 h2
  go_enter Tryz.func35, Tryz.ntmps35
  go_upto_region 1 with fail
  generalize ((w.alloc (.cells (scrA s (.slice ca s.cs.length cc) (.slice ta s.tabs.length tc) (.slice ga s.gone.length gc)) 32)).alloc (.cells #[.int .i64 0, .int .i64 0, .slice none 0 0, .int .i64 0, .int .i64 0, .bool false, .int .i64 0, .int .i64 0, .int .i64 0, .int .i64 0, .int .i64 0, .int .i64 0, .slice none 0 0, .int .i64 0, .int .i64 0, .int .i64 0, .int .i64 0, .int .i64 0, .int .i64 0, .int .i32 0, .string ⟨#[]⟩, .slice none 0 0] 32)) = X at *
  go_wp2_with (refine wpList_load_row rfl 32 (.tmp 3) rfl w.heap.size rfl _ _ _ _ HX0.out Tryz.underlying32 rfl (by kernel_rfl) ?_)
  refine HC.mono ?_
  rintro e V ⟨cv', tv', gv', rfl, hO, c2⟩
  obtain ⟨a1, n1, c1, a2, n2, c2', a3, n3, c3, rfl, rfl, rfl⟩ := hO.shapes
  have HO : Hid (ScrO V w0.heap.size _ s' _ _ _) := hO
  have HR : Hid (V.heap[w.heap.size + 1]? = _) := Grd.carry HXR.out c2
  have HB : Hid (Below w.heap.size w V) := HKB.out.trans (c2.mono HKB.out.size)
  clear hO c2 HC q1 q2
  go_wp2_with (refine wpList_store_row rfl 32 (.tmp 4) (.tmp 10) rfl (w.heap.size + 1) (scrA s' (.slice a1 n1 c1) (.slice a2 n2 c2') (.slice a3 n3 c3)) rfl rfl _ _ HR.out (by kernel_rfl) rfl (scr_one _ _ _ _ _ _ _ _ _ _) ?_)
  (try simp only [Exit.inBlock, Exit.then])
  refine bodyPost_ret (v := .tuple #[.agg (scrA s' (.slice a1 n1 c1) (.slice a2 n2 c2') (.slice a3 n3 c3)), .int .i64 er]) ?_ rfl ⟨_, _, _, rfl, ?_, below_setRow HB.out (by omega) _⟩
  · exact Grd.results_row_tmp rfl _ _ (w.heap.size + 1) _ _ _ _ rfl (setRow_heap _ _ _ _ _ _ HR.out) Tryz.underlying32 rfl (by kernel_rfl) _ rfl
  · exact (ScrO.off HO.out HR.out screen_is (by omega) fun k hk => setRow_other _ _ _ _ hk).mono hsz
set_option maxHeartbeats 2000000 in
set_option maxRecDepth 100000 in
theorem one_calls (s : Scr) (cv tv gv : Value) (cf : FuncId) (what : ByteArray) (n : Int) (w : World) (hV : ScrV w s cv tv gv)
    (hD : ∀ W B1 B2, Below w.heap.size w W → W.cell? ⟨B1, 0, none⟩ = some (.func (.func cf) #[] #[]) → W.cell? ⟨B2, 0, none⟩ = some (.int .i64 n) → Calls Tryz.prog 13 #[.agg (scrA s cv tv gv), .func (.func 35) #[] #[.pointer (some ⟨B1, 0, none⟩), .pointer (some ⟨B2, 0, none⟩)], .string what, .int .i64 n, .int .i64 0] W fun e w' => e = .returned (.bool true) ∧ Below W.heap.size W w') :
    Calls Tryz.prog 8 #[.agg (scrA s cv tv gv), .func (.func cf) #[] #[], .string what, .int .i64 n] w fun e w' => e = .returned (.bool true) ∧ Below w.heap.size w w' := by
  obtain ⟨ca, cc, rfl⟩ := hV.c.shape
  obtain ⟨ta, tc, rfl⟩ := hV.t.slice
  obtain ⟨ga, gc, rfl⟩ := hV.g.slice
  have hkb : Below w.heap.size w (((w.alloc (.cells (scrA s (.slice ca s.cs.length cc) (.slice ta s.tabs.length tc) (.slice ga s.gone.length gc)) 32)).alloc (.cells #[.func (.func cf) #[] #[]] 34)).alloc (.cells #[.int .i64 n] 3)) := ((((Below.refl _ _).alloc (by simp) _).alloc (by simp) _).alloc (by simp; omega) _)
  have hx0 : (w.alloc (.cells (scrA s (.slice ca s.cs.length cc) (.slice ta s.tabs.length tc) (.slice ga s.gone.length gc)) 32)).heap[w.heap.size]? = some (.cells (scrA s (.slice ca s.cs.length cc) (.slice ta s.tabs.length tc) (.slice ga s.gone.length gc)) 32 (0, 0)) := by
    have h := heap_alloc_new w (.cells (scrA s (.slice ca s.cs.length cc) (.slice ta s.tabs.length tc) (.slice ga s.gone.length gc)) 32)
    have e : w.heap.size = w.heap.size := by simp
    rw [e] at h
    exact h
  have hx0 := (Below.heap_alloc (w.alloc (.cells (scrA s (.slice ca s.cs.length cc) (.slice ta s.tabs.length tc) (.slice ga s.gone.length gc)) 32)) (.cells #[.func (.func cf) #[] #[]] 34) _ (heap_lt hx0)).trans hx0
  have hx0 := (Below.heap_alloc ((w.alloc (.cells (scrA s (.slice ca s.cs.length cc) (.slice ta s.tabs.length tc) (.slice ga s.gone.length gc)) 32)).alloc (.cells #[.func (.func cf) #[] #[]] 34)) (.cells #[.int .i64 n] 3) _ (heap_lt hx0)).trans hx0
  have hx1 : ((w.alloc (.cells (scrA s (.slice ca s.cs.length cc) (.slice ta s.tabs.length tc) (.slice ga s.gone.length gc)) 32)).alloc (.cells #[.func (.func cf) #[] #[]] 34)).heap[w.heap.size + 1]? = some (.cells #[.func (.func cf) #[] #[]] 34 (0, 0)) := by
    have h := heap_alloc_new (w.alloc (.cells (scrA s (.slice ca s.cs.length cc) (.slice ta s.tabs.length tc) (.slice ga s.gone.length gc)) 32)) (.cells #[.func (.func cf) #[] #[]] 34)
    have e : (w.alloc (.cells (scrA s (.slice ca s.cs.length cc) (.slice ta s.tabs.length tc) (.slice ga s.gone.length gc)) 32)).heap.size = w.heap.size + 1 := by simp
    rw [e] at h
    exact h
  have hx1 := (Below.heap_alloc ((w.alloc (.cells (scrA s (.slice ca s.cs.length cc) (.slice ta s.tabs.length tc) (.slice ga s.gone.length gc)) 32)).alloc (.cells #[.func (.func cf) #[] #[]] 34)) (.cells #[.int .i64 n] 3) _ (heap_lt hx1)).trans hx1
  have hx2 : (((w.alloc (.cells (scrA s (.slice ca s.cs.length cc) (.slice ta s.tabs.length tc) (.slice ga s.gone.length gc)) 32)).alloc (.cells #[.func (.func cf) #[] #[]] 34)).alloc (.cells #[.int .i64 n] 3)).heap[w.heap.size + 2]? = some (.cells #[.int .i64 n] 3 (0, 0)) := by
    have h := heap_alloc_new ((w.alloc (.cells (scrA s (.slice ca s.cs.length cc) (.slice ta s.tabs.length tc) (.slice ga s.gone.length gc)) 32)).alloc (.cells #[.func (.func cf) #[] #[]] 34)) (.cells #[.int .i64 n] 3)
    have e : ((w.alloc (.cells (scrA s (.slice ca s.cs.length cc) (.slice ta s.tabs.length tc) (.slice ga s.gone.length gc)) 32)).alloc (.cells #[.func (.func cf) #[] #[]] 34)).heap.size = w.heap.size + 2 := by simp
    rw [e] at h
    exact h
  have HX0 : Hid _ := hx0
  have HKB : Hid _ := hkb
  have HC := hD _ (w.heap.size + 1) (w.heap.size + 2) hkb (cell_box hx1) (cell_box hx2)
  have q2 := cell_box hx2
  clear hkb hV hD hx0 hx1 hx2
  go_enter Tryz.func8, Tryz.ntmps8
  go_upto_region 1 with fail
  generalize (((w.alloc (.cells (scrA s (.slice ca s.cs.length cc) (.slice ta s.tabs.length tc) (.slice ga s.gone.length gc)) 32)).alloc (.cells #[.func (.func cf) #[] #[]] 34)).alloc (.cells #[.int .i64 n] 3)) = X at *
  go_wp2_with (refine wpList_load_row rfl 32 (.tmp 4) rfl w.heap.size rfl _ _ _ _ HX0.out Tryz.underlying32 rfl (by kernel_rfl) ?_)
  refine HC.mono ?_
  rintro e V ⟨rfl, b⟩
  have HB : Hid (Below w.heap.size w V) := HKB.out.trans (b.mono HKB.out.size)
  clear HC b q2
  go_wp2_with fail
  go_ret
  exact ⟨rfl, HB.out⟩
theorem plain_one : Plain 35 := by
  intro args W
  kernel_rfl
/-- What a call makes, and what is to be done, of a right screen. -/
def Agrees (what : ByteArray) (n m : Int) (s s' : Scr) (nn hh : Nat) : Prop := Small s' ∧ ∃ s2 rows2, ActMakes what n m s s2 (rowsL nn s.cs hh) rows2 ∧ rows2.length = hh ∧ (∀ i, i < rows2.length → (rows2.getD i []).length = nn) ∧ { s2 with w := (nn : Int), h := (hh : Int), cs := rows2.flatten } = s'
/-- A call, by a name. -/
theorem acts_any (s : Scr) (cv tv gv : Value) (cf : FuncId) (hcf : Plain cf) (ccaps : Array Value) (what : ByteArray) (n m : Int) (w : World) (hT : Txt.Tab w) (hV : ScrV w s cv tv gv) (hB : Bulk s) (s' : Scr)
    (hbad : scrErr s ≠ 0 → ∀ w0 W cv tv gv, Below w.heap.size w w0 → Met w0 W s cv tv gv → Calls Tryz.prog cf (#[.agg (scrA s cv tv gv)] ++ ccaps) W (Made w0 W zScr (scrErr s)))
    (hgood : ∀ nn hh, RightS s nn hh → (∀ w0 W cv tv gv, Below w.heap.size w w0 → Met w0 W s cv tv gv → Calls Tryz.prog cf (#[.agg (scrA s cv tv gv)] ++ ccaps) W (Made w0 W s' 0)) ∧ Agrees what n m s s' nn hh) :
    Calls Tryz.prog 13 #[.agg (scrA s cv tv gv), .func (.func cf) #[] ccaps, .string what, .int .i64 n, .int .i64 m] w fun e w' => e = .returned (.bool true) ∧ Below w.heap.size w w' :=
  acts_calls s cv tv gv _ what n m w hV fun W B1 B2 B3 hW h1 h2 h3 => by
    by_cases hz : scrErr s = 0
    · obtain ⟨nn, hh, hR⟩ := right_of s hz
      obtain ⟨hc, hS, s2, rows2, hA, hrl, hrn, heq⟩ := hgood nn hh hR
      exact does_good s s' s2 nn hh rows2 cv tv gv cf _ ccaps _ hcf plain_acts W (Grd.Tab.next hT hW) (hV.next hW) hB hR hz hS (acts1_acts hA B1 B2 B3 W h1 h2 h3) hrl hrn heq fun w0 W' cv' tv' gv' hb hm => hc w0 W' cv' tv' gv' (hW.trans (hb.mono hW.size)) hm
    · exact does_bad s cv tv gv cf ccaps _ hcf W (Grd.Tab.next hT hW) (hV.next hW) hB hz fun w0 W' cv' tv' gv' hb hm => hbad hz w0 W' cv' tv' gv' (hW.trans (hb.mono hW.size)) hm
/-- A call with one number, by a name. -/
theorem one_any (s : Scr) (cv tv gv : Value) (cf : FuncId) (hcf : Plain cf) (what : ByteArray) (n : Int) (w : World) (hT : Txt.Tab w) (hV : ScrV w s cv tv gv) (hB : Bulk s) (s' : Scr)
    (hbad : scrErr s ≠ 0 → ∀ w0 W cv tv gv, Met w0 W s cv tv gv → Calls Tryz.prog cf #[.agg (scrA s cv tv gv), .int .i64 n] W (Made w0 W zScr (scrErr s)))
    (hgood : ∀ nn hh, RightS s nn hh → (∀ w0 W cv tv gv, Met w0 W s cv tv gv → Calls Tryz.prog cf #[.agg (scrA s cv tv gv), .int .i64 n] W (Made w0 W s' 0)) ∧ Agrees what n 0 s s' nn hh) :
    Calls Tryz.prog 8 #[.agg (scrA s cv tv gv), .func (.func cf) #[] #[], .string what, .int .i64 n] w fun e w' => e = .returned (.bool true) ∧ Below w.heap.size w w' :=
  one_calls s cv tv gv cf what n w hV fun W B1 B2 hW h1 h2 =>
    acts_any s cv tv gv _ plain_one _ what n 0 W (Grd.Tab.next hT hW) (hV.next hW) hB s'
      (fun hz w0 W' cv' tv' gv' hb hm => one1_calls s zScr cv' tv' gv' cf hcf n B1 B2 _ w0 W' hm.v hm.b.size (cell_stay (hb.trans (hm.b.mono hb.size)) h1) (cell_stay (hb.trans (hm.b.mono hb.size)) h2) fun V hV' => hbad hz w0 V cv' tv' gv' (hm.next hV'))
      (fun nn hh hR => ⟨fun w0 W' cv' tv' gv' hb hm => one1_calls s s' cv' tv' gv' cf hcf n B1 B2 _ w0 W' hm.v hm.b.size (cell_stay (hb.trans (hm.b.mono hb.size)) h1) (cell_stay (hb.trans (hm.b.mono hb.size)) h2) fun V hV' => (hgood nn hh hR).1 w0 V cv' tv' gv' (hm.next hV'), (hgood nn hh hR).2⟩)
end Put
end Go.Proofs.YtgfhkdiknpnccaaGreatDoor

/- Act: save, restore. -/
namespace Go.Proofs.YtgfhkdiknpnccaaGreatDoor
open Go.ChangeShapes Go.WideShapes Go.ChangeAt Go.RowKit
namespace Put
open Grd (C SliceAt CellsAt gridErr z0 nilV rowsL RowsAt RowB flat)
theorem DkAt.block {W : World} {N p : Nat} {s : Scr} {rows : List (List C)} (h : DkAt W N p s rows) : ∃ cv tv gv rv, W.heap[p]? = some (.cells (shA s cv tv gv rv) 51 (0, 0)) := by
  obtain ⟨cv, tv, gv, rv, gvs, vs, gs, h⟩ := h
  exact ⟨cv, tv, gv, rv, h.blk⟩
theorem DkAt.look {W : World} {N p : Nat} {s : Scr} {rows : List (List C)} (h : DkAt W N p s rows) (a b c : Int) : DkAt (W.setCells p 6 [.int .i64 a, .int .i64 b, .int .i64 c]) N p { s with sf := a, sb := b, sx := c } rows := by
  have h1 : DkAt (W.setCell ⟨p, 6, none⟩ (.int .i64 a)) N p { s with sf := a } rows := h.set 6 _ (fun _ _ _ _ => rfl) rfl rfl
  have h2 : DkAt ((W.setCell ⟨p, 6, none⟩ (.int .i64 a)).setCell ⟨p, 7, none⟩ (.int .i64 b)) N p { s with sf := a, sb := b } rows := h1.set 7 _ (fun _ _ _ _ => rfl) rfl rfl
  exact h2.set 8 _ (fun _ _ _ _ => rfl) rfl rfl
theorem DkAt.kept {W : World} {N p : Nat} {s : Scr} {rows : List (List C)} (h : DkAt W N p s rows) (x y a b c m : Int) : DkAt (W.setCells p 13 [.int .i64 x, .int .i64 y, .int .i64 a, .int .i64 b, .int .i64 c, .int .i64 m]) N p { s with kx := x, ky := y, kf := a, kb := b, kbits := c, km := m } rows := by
  have h1 : DkAt (W.setCell ⟨p, 13, none⟩ (.int .i64 x)) N p { s with kx := x } rows := h.set 13 _ (fun _ _ _ _ => rfl) rfl rfl
  have h2 : DkAt ((W.setCell ⟨p, 13, none⟩ (.int .i64 x)).setCell ⟨p, 14, none⟩ (.int .i64 y)) N p { s with kx := x, ky := y } rows := h1.set 14 _ (fun _ _ _ _ => rfl) rfl rfl
  have h3 : DkAt (((W.setCell ⟨p, 13, none⟩ (.int .i64 x)).setCell ⟨p, 14, none⟩ (.int .i64 y)).setCell ⟨p, 15, none⟩ (.int .i64 a)) N p { s with kx := x, ky := y, kf := a } rows := h2.set 15 _ (fun _ _ _ _ => rfl) rfl rfl
  have h4 : DkAt ((((W.setCell ⟨p, 13, none⟩ (.int .i64 x)).setCell ⟨p, 14, none⟩ (.int .i64 y)).setCell ⟨p, 15, none⟩ (.int .i64 a)).setCell ⟨p, 16, none⟩ (.int .i64 b)) N p { s with kx := x, ky := y, kf := a, kb := b } rows := h3.set 16 _ (fun _ _ _ _ => rfl) rfl rfl
  have h5 : DkAt (((((W.setCell ⟨p, 13, none⟩ (.int .i64 x)).setCell ⟨p, 14, none⟩ (.int .i64 y)).setCell ⟨p, 15, none⟩ (.int .i64 a)).setCell ⟨p, 16, none⟩ (.int .i64 b)).setCell ⟨p, 17, none⟩ (.int .i64 c)) N p { s with kx := x, ky := y, kf := a, kb := b, kbits := c } rows := h4.set 17 _ (fun _ _ _ _ => rfl) rfl rfl
  exact h5.set 18 _ (fun _ _ _ _ => rfl) rfl rfl
section
attribute [local go_sem ↓] load_sty store_sty store_kept
attribute [local go_sem] isInts3 isInts6 ptrB_at ptrOff_at aggL_agg
set_option maxHeartbeats 8000000 in
set_option maxRecDepth 100000 in
theorem act_save (n m : Int) (s : Scr) (rows : List (List C)) : ActMakes ⟨#[115, 97, 118, 101]⟩ n m s (saveS s) rows rows := by
  intro N W p hN hS
  have hlo := hS.lo
  have HK : Hid (DkAt (W.drew.setCells p 13 [.int .i64 s.x, .int .i64 s.y, .int .i64 s.sf, .int .i64 s.sb, .int .i64 s.sx, .int .i64 (bits .and .i64 s.modes 6)]) N p (saveS s) rows) := hS.drew.kept _ _ _ _ _ _
  have HB : Hid (Below N W (W.drew.setCells p 13 [.int .i64 s.x, .int .i64 s.y, .int .i64 s.sf, .int .i64 s.sb, .int .i64 s.sx, .int .i64 (bits .and .i64 s.modes 6)]) ) := below_cells (Below.refl _ _).drew hlo _ _
  obtain ⟨c0, c1, c3, c4, c5, c9, c10, c11, c19, f⟩ := hS.words
  obtain ⟨cv, tv, gv, rv, hblk⟩ := hS.drew.block
  obtain ⟨l1, l2⟩ := sty_look hblk
  have l3 := has_sh hblk 6 13 (by omega)
  clear hS c0 c1 c5 c9 c10 c19 f hblk
  go_enter Tryz.func43, Tryz.ntmps43
  go_upto_region 120 with fail
  go_region
  all_goals go_end0
  all_goals exact ⟨rfl, HK.out, HB.out⟩
set_option maxHeartbeats 8000000 in
set_option maxRecDepth 100000 in
theorem act_restore (n m : Int) (s : Scr) (rows : List (List C)) (h0 : 0 ≤ bits .and .i64 s.modes 57 + s.km) (h1 : bits .and .i64 s.modes 57 + s.km ≤ 63) : ActMakes ⟨#[114, 101, 115, 116, 111, 114, 101]⟩ n m s (restR s) rows rows := by
  intro N W p hN hS
  have hw57 : IntKind.i64.wrap (bits .and .i64 s.modes 57 + s.km) = bits .and .i64 s.modes 57 + s.km := wrap_id _ (by omega) (by omega)
  clear h0 h1
  have hlo := hS.lo
  have hD := hS.drew
  have k1 : DkAt (W.setCell ⟨p, 3, none⟩ (.int .i64 s.kx)) N p { s with x := s.kx } rows := hS.set 3 _ (fun _ _ _ _ => rfl) rfl rfl
  have k2' : DkAt ((W.setCell ⟨p, 3, none⟩ (.int .i64 s.kx)).setCell ⟨p, 4, none⟩ (.int .i64 s.ky)) N p { s with x := s.kx, y := s.ky } rows := k1.set 4 _ (fun _ _ _ _ => rfl) rfl rfl
  have k2 := k2'.drew
  clear k2'
  have k3 : DkAt (((W.setCell ⟨p, 3, none⟩ (.int .i64 s.kx)).setCell ⟨p, 4, none⟩ (.int .i64 s.ky)).drew.setCells p 6 [.int .i64 s.kf, .int .i64 s.kb, .int .i64 s.kbits]) N p { s with x := s.kx, y := s.ky, sf := s.kf, sb := s.kb, sx := s.kbits } rows := k2.look s.kf s.kb s.kbits
  have k4 : DkAt ((((W.setCell ⟨p, 3, none⟩ (.int .i64 s.kx)).setCell ⟨p, 4, none⟩ (.int .i64 s.ky)).drew.setCells p 6 [.int .i64 s.kf, .int .i64 s.kb, .int .i64 s.kbits]).setCell ⟨p, 5, none⟩ (.bool false)) N p { s with x := s.kx, y := s.ky, sf := s.kf, sb := s.kb, sx := s.kbits, late := false } rows := k3.set 5 _ (fun _ _ _ _ => rfl) rfl rfl
  have HB : Hid (Below N W ((((W.setCell ⟨p, 3, none⟩ (.int .i64 s.kx)).setCell ⟨p, 4, none⟩ (.int .i64 s.ky)).drew.setCells p 6 [.int .i64 s.kf, .int .i64 s.kb, .int .i64 s.kbits]).setCell ⟨p, 5, none⟩ (.bool false))) := (below_cells (((Below.refl _ _).setCell hlo _).setCell hlo _).drew hlo _ _).setCell hlo _
  have HK : Hid _ := k4
  obtain ⟨c0, c1, c3, c4, c5, c9, c10, c11, c19, f⟩ := hS.words
  have f3 := f 3
  have f4 := (DkAt.words k1).2.2.2.2.2.2.2.2.2 4
  have c4' := (DkAt.words k1).2.2.2.1
  have f5 := (DkAt.words k3).2.2.2.2.2.2.2.2.2 5
  have c5' := (DkAt.words k3).2.2.2.2.1
  dsimp only at c4' c5'
  obtain ⟨cv, tv, gv, rv, hblk⟩ := hD.block
  obtain ⟨cv2, tv2, gv2, rv2, hblk2⟩ := k2.block
  obtain ⟨l1, l2⟩ := sty_kept hblk
  have l3 := has_sh hblk2 3 6 (by omega)
  obtain ⟨cv3, tv3, gv3, rv3, hblk3⟩ := hS.block
  obtain ⟨-, ⟨-, -, c13, c14, -⟩, -⟩ := sh_cells hblk3
  clear hS hD hblk3 k1 k2 k3 k4 c0 c1 c4 c5 c9 c10 c11 c19 f hblk hblk2
  go_enter Tryz.func43, Tryz.ntmps43
  go_upto_region 122 with fail
  go_region
  all_goals (
    generalize ((((W.setCell ⟨p, 3, none⟩ (.int .i64 s.kx)).setCell ⟨p, 4, none⟩ (.int .i64 s.ky)).drew.setCells p 6 [.int .i64 s.kf, .int .i64 s.kb, .int .i64 s.kbits]).setCell ⟨p, 5, none⟩ (.bool false)) = Y at *
    clear c3 f3 f4 c4' f5 c5' l1 l2 l3 c13 c14
    obtain ⟨c0, c1, c3, c4, c5, c9, c10, c11, c19, f⟩ := DkAt.words (DkAt.drew HK.out)
    have f11 := f 11
    obtain ⟨cv, tv, gv, rv, hblk⟩ := DkAt.block (DkAt.drew HK.out)
    obtain ⟨-, ⟨-, -, -, -, -, -, -, c18, -⟩, -⟩ := sh_cells hblk
    dsimp only at c11 c18
    have HK2 : Hid (DkAt (Y.drew.setCell ⟨p, 11, none⟩ (.int .i64 (bits .and .i64 s.modes 57 + s.km))) N p (restR s) rows) := DkAt.set (DkAt.drew HK.out) 11 _ (fun _ _ _ _ => rfl) rfl rfl
    have HB2 : Hid (Below N W (Y.drew.setCell ⟨p, 11, none⟩ (.int .i64 (bits .and .i64 s.modes 57 + s.km)))) := HB.out.drew.setCell hlo _
    clear HK HB f c0 c1 c3 c4 c5 c9 c10 c19 hblk
    go_upto_region 123 with fail
    go_region
    all_goals go_end0
    all_goals exact ⟨rfl, HK2.out, HB2.out⟩)
end
end Put
end Go.Proofs.YtgfhkdiknpnccaaGreatDoor

/- What one number makes of a style, by cases; maps made by literals. -/
namespace Go.Proofs.YtgfhkdiknpnccaaGreatDoor
open Go.ChangeShapes Go.WideShapes Go.ChangeAt Go.RowKit Go.Maps
namespace Stl
theorem ofInt_wrap (v : BitVec 64) : BitVec.ofInt 64 (IntKind.i64.wrap (v.toNat : Int)) = v := by
  apply BitVec.eq_of_toNat_eq
  rw [BitVec.toNat_ofInt]
  have := v.isLt
  unfold IntKind.wrap
  simp [IntKind.bits, IntKind.signed]
  omega
theorem clear3 (x : Int) : bits .andNot .i64 (bits .andNot .i64 x 1) 2 = bits .andNot .i64 x 3 := by
  unfold bits
  dsimp only
  change IntKind.i64.wrap ↑(BitVec.ofInt 64 (IntKind.i64.wrap ↑(BitVec.ofInt 64 x &&& ~~~BitVec.ofInt 64 1).toNat) &&& ~~~BitVec.ofInt 64 2).toNat = IntKind.i64.wrap ↑(BitVec.ofInt 64 x &&& ~~~BitVec.ofInt 64 3).toNat
  rw [ofInt_wrap, BitVec.and_assoc]
  rfl
def setM : List (Int × Int) := [(1, 1), (2, 2), (3, 4), (4, 8), (5, 16), (7, 32), (9, 64)]
def offM : List (Int × Int) := [(22, 3), (23, 4), (24, 8), (25, 16), (27, 32), (29, 64)]
def lits (l : List (Int × Int)) : DataW Unit := l.foldl (fun D p => D.put (.int .i64 p.1) (.lit (.int .i64 p.2))) (.map [])
def look (l : List (Int × Int)) (n : Int) : Int := l.foldl (fun c p => if n = p.1 then p.2 else c) 0
theorem lits_at : ∀ (l : List (Int × Int)) (D : DataW Unit) (c n : Int), IsMap D → D.atKey (.int .i64 n) (.lit (.int .i64 0)) = .lit (.int .i64 c) →
    (l.foldl (fun D p => D.put (.int .i64 p.1) (.lit (.int .i64 p.2))) D).atKey (.int .i64 n) (.lit (.int .i64 0)) = .lit (.int .i64 (l.foldl (fun c p => if n = p.1 then p.2 else c) c))
  | [], D, c, n, _, h => h
  | p :: l, D, c, n, hD, h => by
    refine lits_at l _ _ n (hD.put _ _) ?_
    dsimp only
    by_cases hn : n = p.1
    · rw [if_pos hn, hn]
      exact atKey_put_same hD (by trivial) _ _
    · rw [if_neg hn, atKey_put_other (by simp [hn]), h]
theorem lits_look (l : List (Int × Int)) (n : Int) : (lits l).atKey (.int .i64 n) (.lit (.int .i64 0)) = .lit (.int .i64 (look l n)) :=
  lits_at l (.map []) 0 n isMap_empty rfl
def MapAt (w : World) (b : Nat) (l : List (Int × Int)) : Prop := ∃ n, w.ownsMap Tryz.prog 3 (plainElem (H := Unit) Tryz.prog 3) b n (lits l)
theorem und_int : Tryz.prog.underlying 3 = some (.int .i64) := by kernel_rfl
theorem und_map : Tryz.prog.underlying 73 = some (.map 3 3) := by kernel_rfl
theorem zero_int (w : World) : (zeroValue 3).run Tryz.prog w = .ok (.int .i64 0) w := by kernel_rfl
theorem MapAt.lookup {w : World} {b : Nat} {l : List (Int × Int)} (h : MapAt w b l) (n : Int) (h0 : -9223372036854775808 ≤ n) (h1 : n ≤ 9223372036854775807) :
    (Instr.lookup 73 (.map (some b)) (.int .i64 n) false).run Tryz.prog w = .ok (.int .i64 (look l n)) w := by
  obtain ⟨k, h⟩ := h
  obtain ⟨c, hrun, hat, _⟩ := h.lookup_int (t := 73) (int_keyed und_int) und_map und_int (zero_int w) (keyOf_int_mk und_int (WalkArith.wf_i64 ⟨h0, h1⟩))
  rw [lits_look] at hat
  have hc : look l n = c := by simpa using hat
  rw [hc]
  exact hrun
theorem MapAt.kept {w w' : World} {b : Nat} {l : List (Int × Int)} {row : Option Nat} (h : MapAt w b l) (hg : w.grownBy w' row) (hne : some b ≠ row) : MapAt w' b l := by
  obtain ⟨k, h⟩ := h
  exact ⟨k, h.kept hg hne⟩
theorem MapAt.block {w w' : World} {b : Nat} {l : List (Int × Int)} (h : MapAt w b l) (hb : w'.heap[b]? = w.heap[b]?) : MapAt w' b l := by
  obtain ⟨k, es, clock, hh, F⟩ := h
  exact ⟨k, es, clock, hb.trans hh, F⟩
theorem small_lt {n : Nat} (h : n < 100) : n < maxLen := by unfold maxLen; omega
theorem put_run {W : World} {b n : Nat} {l : List (Int × Int)} (h : W.ownsMap Tryz.prog 3 (plainElem (H := Unit) Tryz.prog 3) b n (lits l)) (hn : n < 100) (k v : Int)
    (hk : -9223372036854775808 ≤ k ∧ k ≤ 9223372036854775807) (hv : -9223372036854775808 ≤ v ∧ v ≤ 9223372036854775807) :
    ∃ W', Sem.run Tryz.prog (Instr.mapUpdate 73 (.map (some b)) (.int .i64 k) (.int .i64 v)) W = .ok () W' ∧ W'.ownsMap Tryz.prog 3 (plainElem (H := Unit) Tryz.prog 3) b (n + 1) (lits (l ++ [(k, v)])) ∧ W.grownBy W' (some b) := by
  obtain ⟨w', hrun, r1, r2⟩ := h.update (t := 73) (int_keyed und_int) und_map (small_lt hn) (keyOf_int_mk und_int (WalkArith.wf_i64 hk)) (plainElem_int und_int (WalkArith.wf_i64 hv))
  refine ⟨w', hrun, ?_, r2⟩
  unfold lits at r1 ⊢
  rw [List.foldl_append]
  exact r1
/-! What one number makes of a style, case by case. -/
theorem one_le (s : Int × Int × Int) (n : Int) (h : n ≤ 0) : one s n = (0, 0, 0) := by unfold one; rw [if_pos h]
theorem sc_none (n : Int) (h1 : ¬ (30 ≤ n ∧ n ≤ 37)) (h2 : n ≠ 39) (h3 : ¬ (90 ≤ n ∧ n ≤ 97)) : sc n = (0, false) := by unfold sc; rw [if_neg h1, if_neg h2, if_neg h3]
theorem bits_same (n x : Int) (h : ∀ k ∈ looks, n ≠ k.1 ∧ n ≠ k.2.1) : looks.foldl (step n) x = x := by
  have : ∀ (l : List (Int × Int × Int)), (∀ k ∈ l, n ≠ k.1 ∧ n ≠ k.2.1) → l.foldl (step n) x = x := by
    intro l
    induction l with
    | nil => intro _; rfl
    | cons k l ih =>
      intro hl
      have hk := hl k (by simp)
      rw [List.foldl_cons, show step n x k = x by unfold step; rw [if_neg hk.2, if_neg hk.1]]
      exact ih (fun k hk => hl k (by simp [hk]))
  exact this looks h
theorem one_other (f b x n : Int) (h0 : 0 < n) (hb : ∀ k ∈ looks, n ≠ k.1 ∧ n ≠ k.2.1) : one (f, b, x) n = (if (sc n).2 then (sc n).1 else f, if (sc (n - 10)).2 then (sc (n - 10)).1 else b, x) := by
  unfold one
  rw [if_neg (by omega)]
  dsimp only
  rw [bits_same n x hb]
theorem look_set_keys (n : Int) (h : 0 < look setM n) : n = 1 ∨ n = 2 ∨ n = 3 ∨ n = 4 ∨ n = 5 ∨ n = 7 ∨ n = 9 := by
  by_cases h1 : n = 1 ∨ n = 2 ∨ n = 3 ∨ n = 4 ∨ n = 5 ∨ n = 7 ∨ n = 9
  · exact h1
  · unfold look setM at h
    simp only [List.foldl] at h
    repeat' (rw [if_neg (by omega)] at h)
    omega
theorem look_off_keys (n : Int) (h : 0 < look offM n) : n = 22 ∨ n = 23 ∨ n = 24 ∨ n = 25 ∨ n = 27 ∨ n = 29 := by
  by_cases h1 : n = 22 ∨ n = 23 ∨ n = 24 ∨ n = 25 ∨ n = 27 ∨ n = 29
  · exact h1
  · unfold look offM at h
    simp only [List.foldl] at h
    repeat' (rw [if_neg (by omega)] at h)
    omega
theorem look_set_zero (n : Int) (h : n ≠ 1 ∧ n ≠ 2 ∧ n ≠ 3 ∧ n ≠ 4 ∧ n ≠ 5 ∧ n ≠ 7 ∧ n ≠ 9) : look setM n = 0 := by
  unfold look setM
  simp only [List.foldl]
  repeat' (rw [if_neg (by omega)])
theorem look_off_zero (n : Int) (h : n ≠ 22 ∧ n ≠ 23 ∧ n ≠ 24 ∧ n ≠ 25 ∧ n ≠ 27 ∧ n ≠ 29) : look offM n = 0 := by
  unfold look offM
  simp only [List.foldl]
  repeat' (rw [if_neg (by omega)])
theorem one_set (f b x n : Int) (h : 0 < look setM n) : one (f, b, x) n = (f, b, bits .or .i64 x (look setM n)) := by
  rcases look_set_keys n h with rfl | rfl | rfl | rfl | rfl | rfl | rfl <;> rfl
theorem one_off (f b x n : Int) (h : 0 < look offM n) : one (f, b, x) n = (f, b, bits .andNot .i64 x (look offM n)) := by
  rcases look_off_keys n h with rfl | rfl | rfl | rfl | rfl | rfl
  · exact congrArg (fun z => (f, b, z)) (clear3 x)
  all_goals rfl
theorem looks_far (n : Int) (h : 30 ≤ n ∨ n = 6 ∨ n = 8 ∨ (10 ≤ n ∧ n ≤ 21) ∨ n = 26 ∨ n = 28) : ∀ k ∈ looks, n ≠ k.1 ∧ n ≠ k.2.1 := by
  intro k hk
  simp only [looks, List.mem_cons, List.not_mem_nil, or_false] at hk
  rcases hk with rfl | rfl | rfl | rfl | rfl | rfl | rfl <;> dsimp only <;> omega
theorem sc_3x (n : Int) (h0 : 30 ≤ n) (h1 : n ≤ 37) : sc n = (n - 29, true) := by unfold sc; rw [if_pos ⟨h0, h1⟩]
theorem sc_9x (n : Int) (h0 : 90 ≤ n) (h1 : n ≤ 97) : sc n = (n - 81, true) := by unfold sc; rw [if_neg (by omega), if_neg (by omega), if_pos ⟨h0, h1⟩]
theorem one_3x (f b x n : Int) (h0 : 30 ≤ n) (h1 : n ≤ 37) : one (f, b, x) n = (n % 10 + 1, b, x) := by
  rw [one_other f b x n (by omega) (looks_far n (by omega)), sc_none (n - 10) (by omega) (by omega) (by omega), sc_3x n h0 h1, show n % 10 + 1 = n - 29 by omega]
  simp
theorem one_4x (f b x n : Int) (h0 : 40 ≤ n) (h1 : n ≤ 47) : one (f, b, x) n = (f, n % 10 + 1, x) := by
  rw [one_other f b x n (by omega) (looks_far n (by omega)), sc_none n (by omega) (by omega) (by omega), sc_3x (n - 10) (by omega) (by omega), show n % 10 + 1 = n - 10 - 29 by omega]
  simp
theorem one_9x (f b x n : Int) (h0 : 90 ≤ n) (h1 : n ≤ 97) : one (f, b, x) n = (n % 10 + 9, b, x) := by
  rw [one_other f b x n (by omega) (looks_far n (by omega)), sc_none (n - 10) (by omega) (by omega) (by omega), sc_9x n h0 h1, show n % 10 + 9 = n - 81 by omega]
  simp
theorem one_10x (f b x n : Int) (h0 : 100 ≤ n) (h1 : n ≤ 107) : one (f, b, x) n = (f, n % 10 + 9, x) := by
  rw [one_other f b x n (by omega) (looks_far n (by omega)), sc_none n (by omega) (by omega) (by omega), sc_9x (n - 10) (by omega) (by omega), show n % 10 + 9 = n - 10 - 81 by omega]
  simp
theorem one_39 (f b x : Int) : one (f, b, x) 39 = (0, b, x) := by
  rw [one_other f b x 39 (by omega) (looks_far 39 (by omega))]
  rfl
theorem one_49 (f b x : Int) : one (f, b, x) 49 = (f, 0, x) := by
  rw [one_other f b x 49 (by omega) (looks_far 49 (by omega))]
  rfl
theorem one_else (f b x n : Int) (h0 : 0 < n) (hs : look setM n = 0) (ho : look offM n = 0) (h1 : ¬ (30 ≤ n ∧ n ≤ 37)) (h2 : ¬ (40 ≤ n ∧ n ≤ 47)) (h3 : ¬ (90 ≤ n ∧ n ≤ 97)) (h4 : ¬ (100 ≤ n ∧ n ≤ 107)) (h5 : n ≠ 39) (h6 : n ≠ 49) : one (f, b, x) n = (f, b, x) := by
  have k1 : n ≠ 1 ∧ n ≠ 2 ∧ n ≠ 3 ∧ n ≠ 4 ∧ n ≠ 5 ∧ n ≠ 7 ∧ n ≠ 9 := by
    refine ⟨?_, ?_, ?_, ?_, ?_, ?_, ?_⟩ <;> (rintro rfl; revert hs; decide)
  have k2 : n ≠ 22 ∧ n ≠ 23 ∧ n ≠ 24 ∧ n ≠ 25 ∧ n ≠ 27 ∧ n ≠ 29 := by
    refine ⟨?_, ?_, ?_, ?_, ?_, ?_⟩ <;> (rintro rfl; revert ho; decide)
  rw [one_other f b x n h0 (looks_far n (by omega)), sc_none n (by omega) (by omega) (by omega), sc_none (n - 10) (by omega) (by omega) (by omega)]
  simp
theorem quo10 (n : Int) (h0 : 0 ≤ n) (h1 : n ≤ 9223372036854775807) : wrap64 (n.tdiv 10) = n / 10 := by
  rw [Int.tdiv_eq_ediv_of_nonneg h0, show wrap64 (n / 10) = n / 10 by unfold wrap64; omega]
theorem look_set_nonneg (n : Int) : 0 ≤ look setM n := by
  unfold look setM
  simp only [List.foldl]
  repeat' split
  all_goals omega
theorem look_off_nonneg (n : Int) : 0 ≤ look offM n := by
  unfold look offM
  simp only [List.foldl]
  repeat' split
  all_goals omega
end Stl
end Go.Proofs.YtgfhkdiknpnccaaGreatDoor

/- The reference's ApplyTo. -/
namespace Go.Proofs.YtgfhkdiknpnccaaGreatDoor
open Go.ChangeShapes Go.WideShapes Go.ChangeAt Go.RowKit Go.Maps
namespace Stl
set_option maxHeartbeats 40000000 in
set_option maxRecDepth 100000 in
theorem applyTo_some (s : Int × Int × Int) (b o c : Nat) (xs : List Int) (w : World) (hR : Row w b o xs) (h0 : xs ≠ []) (hlen : xs.length ≤ 140737488355328) (hc : xs.length ≤ c)
    (hw : ∀ x ∈ xs, -9223372036854775808 ≤ x ∧ x ≤ 9223372036854775807) :
    Calls Tryz.prog 31 #[stv s, .slice (some ⟨b, o, none⟩) xs.length c] w fun e w' => e = .returned (stv (applyL s xs)) ∧ Below w.heap.size w w' := by
  obtain ⟨f, bk, x⟩ := s
  have hpos : 0 < xs.length := by cases xs; exact absurd rfl h0; simp
  have HR : Hid (Row w b o xs) := hR
  have HW : Hid (∀ x ∈ xs, -9223372036854775808 ≤ x ∧ x ≤ 9223372036854775807) := hw
  clear hR hw h0
  have hz : ((xs.length : Int) == 0) = false := by simp only [beq_eq_false_iff_ne, ne_eq]; omega
  have hmm := @run_makeMap Tryz.prog
  obtain ⟨M, hM⟩ : ∃ M, M = ((w.alloc (.cells #[.int .i64 f, .int .i64 bk, .int .i64 x] 26)).alloc (.cells #[.int .i64 0, .int .i64 0, .int .i64 0] 26)).alloc (.cells #[.int .i64 0, .int .i64 0, .int .i64 0] 26) := ⟨_, rfl⟩
  have hMs : M.heap.size = w.heap.size + 1 + 1 + 1 := by rw [hM]; simp
  have hs0 : (M.alloc (.map #[] 0)).ownsMap Tryz.prog 3 (plainElem (H := Unit) Tryz.prog 3) M.heap.size 0 (lits []) := World.ownsMap_made _ _ _ _
  obtain ⟨W1, rs1, hs1, gs1⟩ := put_run hs0 (by decide) 1 1 (by decide) (by decide)
  clear hs0
  obtain ⟨W2, rs2, hs2, gs2⟩ := put_run hs1 (by decide) 2 2 (by decide) (by decide)
  replace gs2 := gs1.trans gs2; clear hs1 gs1
  obtain ⟨W3, rs3, hs3, gs3⟩ := put_run hs2 (by decide) 3 4 (by decide) (by decide)
  replace gs3 := gs2.trans gs3; clear hs2 gs2
  obtain ⟨W4, rs4, hs4, gs4⟩ := put_run hs3 (by decide) 4 8 (by decide) (by decide)
  replace gs4 := gs3.trans gs4; clear hs3 gs3
  obtain ⟨W5, rs5, hs5, gs5⟩ := put_run hs4 (by decide) 5 16 (by decide) (by decide)
  replace gs5 := gs4.trans gs5; clear hs4 gs4
  obtain ⟨W6, rs6, hs6, gs6⟩ := put_run hs5 (by decide) 7 32 (by decide) (by decide)
  replace gs6 := gs5.trans gs6; clear hs5 gs5
  obtain ⟨W7, rs7, hs7, gs7⟩ := put_run hs6 (by decide) 9 64 (by decide) (by decide)
  replace gs7 := gs6.trans gs7; clear hs6 gs6
  have ho0 : (W7.alloc (.map #[] 0)).ownsMap Tryz.prog 3 (plainElem (H := Unit) Tryz.prog 3) W7.heap.size 0 (lits []) := World.ownsMap_made _ _ _ _
  obtain ⟨V1, ro1, ho1, go1⟩ := put_run ho0 (by decide) 22 3 (by decide) (by decide)
  clear ho0
  obtain ⟨V2, ro2, ho2, go2⟩ := put_run ho1 (by decide) 23 4 (by decide) (by decide)
  replace go2 := go1.trans go2; clear ho1 go1
  obtain ⟨V3, ro3, ho3, go3⟩ := put_run ho2 (by decide) 24 8 (by decide) (by decide)
  replace go3 := go2.trans go3; clear ho2 go2
  obtain ⟨V4, ro4, ho4, go4⟩ := put_run ho3 (by decide) 25 16 (by decide) (by decide)
  replace go4 := go3.trans go4; clear ho3 go3
  obtain ⟨V5, ro5, ho5, go5⟩ := put_run ho4 (by decide) 27 32 (by decide) (by decide)
  replace go5 := go4.trans go5; clear ho4 go4
  obtain ⟨V6, ro6, ho6, go6⟩ := put_run ho5 (by decide) 29 64 (by decide) (by decide)
  replace go6 := go5.trans go6; clear ho5 go5
  have HS : Hid (MapAt W7 M.heap.size setM) := ⟨7, hs7⟩
  have HO : Hid (MapAt V6 W7.heap.size offM) := ⟨6, ho6⟩
  have GS : Hid ((M.alloc (.map #[] 0)).grownBy W7 (some M.heap.size)) := gs7
  have GO : Hid ((W7.alloc (.map #[] 0)).grownBy V6 (some W7.heap.size)) := go6
  clear hs7 ho6 gs7 go6
  rw [hMs] at rs1 rs2 rs3 rs4 rs5 rs6 rs7
  rw [hM] at rs1
  unfold stv
  go_enter Tryz.func31, Tryz.ntmps31
  go_wp2_with fail
  have hW7 : w.heap.size + 1 + 1 + 1 < W7.heap.size := by
    have := GS.out.size
    simp at this
    omega
  have bM : Below w.heap.size w M := by rw [hM]; exact (((Below.refl _ _).alloc (Nat.le_refl _) _).alloc (by simp) _).alloc (by simp; omega) _
  have bMm : Below w.heap.size w (M.alloc (.map #[] 0)) := bM.alloc bM.size _
  have bW : Below w.heap.size w W7 := bMm.grown GS.out bMm.size (fun j hj => by cases hj; omega)
  have bWm : Below w.heap.size w (W7.alloc (.map #[] 0)) := bW.alloc bW.size _
  have bV : Below w.heap.size w V6 := bWm.grown GO.out bWm.size (fun j hj => by cases hj; omega)
  have blk : ∀ j, j < w.heap.size + 1 + 1 + 1 → V6.heap[j]? = M.heap[j]? := fun j hj => by
    rw [GO.out.block j (by simp; omega) (by simp; omega), Below.heap_alloc _ _ _ (by omega), GS.out.block j (by simp; omega) (by simp; omega), Below.heap_alloc _ _ _ (by omega)]
  have m0 : M.heap[w.heap.size]? = some (.cells #[.int .i64 f, .int .i64 bk, .int .i64 x] 26 (0, 0)) := by
    rw [hM, Below.heap_alloc _ _ _ (by simp; omega), Below.heap_alloc _ _ _ (by simp)]; exact heap_alloc_new _ _
  have m1 : M.heap[w.heap.size + 1]? = some (.cells #[.int .i64 0, .int .i64 0, .int .i64 0] 26 (0, 0)) := by
    rw [hM, Below.heap_alloc _ _ _ (by simp)]; exact new2 w _ _ _
  have m2 : M.heap[w.heap.size + 1 + 1]? = some (.cells #[.int .i64 0, .int .i64 0, .int .i64 0] 26 (0, 0)) := by
    rw [hM]
    have := heap_alloc_new ((w.alloc (.cells #[.int .i64 f, .int .i64 bk, .int .i64 x] 26)).alloc (.cells #[.int .i64 0, .int .i64 0, .int .i64 0] 26)) (.cells #[.int .i64 0, .int .i64 0, .int .i64 0] 26)
    simpa using this
  have hS0 : MapAt V6 (w.heap.size + 1 + 1 + 1) setM := by
    have h := HS.out
    rw [hMs] at h
    refine h.block ?_
    rw [GO.out.block _ (by simp; omega) (by simp; omega), Below.heap_alloc _ _ _ hW7]
  go_loopg [1] xs.length (fun g l wr => ∃ (k m cp : Nat) (ad : Addr) (s : Int × Int × Int), k ≤ xs.length ∧ xs.length - k ≤ g ∧ l = .slice (some ad) m cp ∧ k + m = xs.length ∧ m ≤ cp ∧ (0 < m → ad = ⟨b, o + k, none⟩) ∧ Below w.heap.size w wr ∧ wr.heap[w.heap.size]? = some (.cells #[.int .i64 s.1, .int .i64 s.2.1, .int .i64 s.2.2] 26 (0, 0)) ∧ wr.heap[w.heap.size + 1]? = some (.cells #[.int .i64 0, .int .i64 0, .int .i64 0] 26 (0, 0)) ∧ wr.heap[w.heap.size + 1 + 1]? = some (.cells #[.int .i64 0, .int .i64 0, .int .i64 0] 26 (0, 0)) ∧ MapAt wr (w.heap.size + 1 + 1 + 1) setM ∧ MapAt wr W7.heap.size offM ∧ applyL s (xs.drop k) = applyL (f, bk, x) xs)
  case atStart => exact ⟨0, xs.length, c, ⟨b, o, none⟩, (f, bk, x), by omega, by omega, rfl, by omega, hc, fun _ => rfl, bV, (blk _ (by omega)).trans m0, (blk _ (by omega)).trans m1, (blk _ (by omega)).trans m2, hS0, HO.out, rfl⟩
  case round =>
    clear rs1 rs2 rs3 rs4 rs5 rs6 rs7 ro1 ro2 ro3 ro4 ro5 ro6 blk m0 m1 m2 hS0 bM bMm bW bWm bV HS HO GS GO hz hmm
    clear hMs hM
    obtain ⟨k, m, cp, ad, s, hk, hg, rfl, hm, hcp, had, hb, hv, hr, hn, hS, hO, hl⟩ := hrel
    have HL : Hid (applyL s (xs.drop k) = applyL (f, bk, x) xs) := hl
    have HS : Hid (MapAt wr (w.heap.size + 1 + 1 + 1) setM) := hS
    have HO : Hid (MapAt wr W7.heap.size offM) := hO
    clear hl hS hO
    have HRk : Hid (Row wr b (o + k) (xs.drop k)) := fun j hj => by
      have h := HR.out.drop k j hj
      exact (hb.cell (cell_lt h)).trans h
    have hlen : (xs.drop k).length = xs.length - k := by simp
    by_cases hlt : k < xs.length
    · obtain rfl := had (by omega)
      clear had
      obtain ⟨f', b', x'⟩ := s
      have ⟨c0, c1, c2, cf⟩ := cells_of hv
      have ⟨n0, n1, n2, nf⟩ := cells_of hn
      have cf0 := cf 0
      have cf1 := cf 1
      have cf2 := cf 2
      have q0 : wr.cell? ⟨b, o + k, none⟩ = some (.int .i64 (xs.getD k 0)) := by
        have := HRk.out 0 (by omega)
        rw [drop_cons xs k hlt] at this
        simpa using this
      have ⟨hy0, hy1⟩ : -9223372036854775808 ≤ xs.getD k 0 ∧ xs.getD k 0 ≤ 9223372036854775807 := HW.out _ (by simp [List.getD, hlt])
      have pos : (m : Int) > 0 := by omega
      by_cases hlg : isLg (xs.drop k) = true
      · have h3 : k + 2 < xs.length := by
          match hxs : xs.drop k, hlg with
          | _ :: _ :: _ :: l, _ =>
            rw [hxs] at hlen
            simp at hlen
            omega
        have HE3 : Hid (applyL (f', b', x') (xs.drop k) = applyL (lng (f', b', x') (xs.getD k 0) (xs.getD (k + 2) 0)) (xs.drop (k + 3))) := by
          have := applyL_long (f', b', x') (xs.drop k) hlg
          rw [List.drop_drop, drop_cons xs k hlt, drop_cons xs (k + 1) (by omega), drop_cons xs (k + 1 + 1) (by omega)] at this
          unfold Hid
          rw [drop_cons xs k hlt, drop_cons xs (k + 1) (by omega), drop_cons xs (k + 1 + 1) (by omega)]
          exact this
        have q1 : wr.cell? ⟨b, o + k + 1, none⟩ = some (.int .i64 (xs.getD (k + 1) 0)) := by
          have := HRk.out 1 (by omega)
          rw [drop_cons xs k hlt, drop_cons xs (k + 1) (by omega)] at this
          exact this
        have q2 : wr.cell? ⟨b, o + k + 2, none⟩ = some (.int .i64 (xs.getD (k + 2) 0)) := by
          have := HRk.out 2 (by omega)
          rw [drop_cons xs k hlt, drop_cons xs (k + 1) (by omega), drop_cons xs (k + 1 + 1) (by omega)] at this
          exact this
        have hyy2 : xs.getD (k + 2) 0 ≤ 9223372036854775807 := (HW.out _ (by simp [List.getD, h3])).2
        rw [drop_cons xs k hlt, drop_cons xs (k + 1) (by omega), drop_cons xs (k + 1 + 1) (by omega)] at hlg
        simp only [isLg, decide_eq_true_eq] at hlg
        obtain ⟨hlg, h5⟩ := hlg
        have h2m : 3 ≤ m := by omega
        generalize xs.getD k 0 = y0 at *
        generalize xs.getD (k + 1) 0 = y1 at *
        generalize xs.getD (k + 2) 0 = y2 at *
        by_cases h38 : y0 = 38
        · clear hlg
          have n38 : (y0 == 38) = true := by rw [h38]; rfl
          have e5 : (y1 == 5) = true := by rw [h5]; rfl
          by_cases hc0 : y2 < 0
          · have z : y2 < 0 := hc0
            have HE : Hid (applyL (f', b', x') (xs.drop k) = applyL (f', b', x') (xs.drop (k + 3))) := by unfold Hid; rw [HE3.out, h38]; unfold lng; rw [if_pos (Or.inl hc0)]
            clear hlen HRk
            as_aux_lemma =>
              go_wp2_with fail
              all_goals (
                go_roundg (xs.length - (k + 3))
                case measure => omega
                case rel => exact ⟨k + 3, m - 3, _, _, (f', b', x'), by omega, by omega, rfl, by omega, by omega, (by intro hp; first | rfl | omega), hb, hv, hr, hn, HS.out, HO.out, by rw [← HL.out, HE.out]⟩)
          · by_cases hc1 : 256 ≤ y2
            · have z1 : 256 ≤ y2 := hc1
              have z2 : 0 ≤ y2 := by omega
              have HE : Hid (applyL (f', b', x') (xs.drop k) = applyL (f', b', x') (xs.drop (k + 3))) := by unfold Hid; rw [HE3.out, h38]; unfold lng; rw [if_pos (Or.inr hc1)]
              clear hlen HRk
              as_aux_lemma =>
                go_wp2_with fail
                all_goals (
                  go_roundg (xs.length - (k + 3))
                  case measure => omega
                  case rel => exact ⟨k + 3, m - 3, _, _, (f', b', x'), by omega, by omega, rfl, by omega, by omega, (by intro hp; first | rfl | omega), hb, hv, hr, hn, HS.out, HO.out, by rw [← HL.out, HE.out]⟩)
            · have z1 : y2 < 256 := by omega
              have z2 : 0 ≤ y2 := by omega
              have HE : Hid (applyL (f', b', x') (xs.drop k) = applyL (y2 + 1, b', x') (xs.drop (k + 3))) := by unfold Hid; rw [HE3.out, h38]; unfold lng; rw [if_neg (by omega)]; rfl
              clear hlen HRk
              as_aux_lemma =>
                go_wp2_with fail
                all_goals (
                  go_roundg (xs.length - (k + 3))
                  case measure => omega
                  case rel => exact ⟨k + 3, m - 3, _, _, (y2 + 1, b', x'), by omega, by omega, rfl, by omega, by omega, (by intro hp; first | rfl | omega), hb.setCell (Nat.le_refl _) _, heap_setCell_same _ _ _ _ _ _ hv, (heap_setCell_other _ _ _ _ (by dsimp only; omega)).trans hr, (heap_setCell_other _ _ _ _ (by dsimp only; omega)).trans hn, HS.out.block (heap_setCell_other _ _ _ _ (by dsimp only; omega)), HO.out.block (heap_setCell_other _ _ _ _ (by dsimp only; omega)), by rw [← HL.out, HE.out]⟩)
        · have h48 : y0 = 48 := by omega
          clear hlg
          have n38 : (y0 == 38) = false := by rw [h48]; rfl
          have n48 : (y0 == 48) = true := by rw [h48]; rfl
          have e5 : (y1 == 5) = true := by rw [h5]; rfl
          by_cases hc0 : y2 < 0
          · have z : y2 < 0 := hc0
            have HE : Hid (applyL (f', b', x') (xs.drop k) = applyL (f', b', x') (xs.drop (k + 3))) := by unfold Hid; rw [HE3.out, h48]; unfold lng; rw [if_pos (Or.inl hc0)]
            clear hlen HRk
            as_aux_lemma =>
              go_wp2_with fail
              all_goals (
                go_roundg (xs.length - (k + 3))
                case measure => omega
                case rel => exact ⟨k + 3, m - 3, _, _, (f', b', x'), by omega, by omega, rfl, by omega, by omega, (by intro hp; first | rfl | omega), hb, hv, hr, hn, HS.out, HO.out, by rw [← HL.out, HE.out]⟩)
          · by_cases hc1 : 256 ≤ y2
            · have z1 : 256 ≤ y2 := hc1
              have z2 : 0 ≤ y2 := by omega
              have HE : Hid (applyL (f', b', x') (xs.drop k) = applyL (f', b', x') (xs.drop (k + 3))) := by unfold Hid; rw [HE3.out, h48]; unfold lng; rw [if_pos (Or.inr hc1)]
              clear hlen HRk
              as_aux_lemma =>
                go_wp2_with fail
                all_goals (
                  go_roundg (xs.length - (k + 3))
                  case measure => omega
                  case rel => exact ⟨k + 3, m - 3, _, _, (f', b', x'), by omega, by omega, rfl, by omega, by omega, (by intro hp; first | rfl | omega), hb, hv, hr, hn, HS.out, HO.out, by rw [← HL.out, HE.out]⟩)
            · have z1 : y2 < 256 := by omega
              have z2 : 0 ≤ y2 := by omega
              have HE : Hid (applyL (f', b', x') (xs.drop k) = applyL (f', y2 + 1, x') (xs.drop (k + 3))) := by unfold Hid; rw [HE3.out, h48]; unfold lng; rw [if_neg (by omega)]; rfl
              clear hlen HRk
              as_aux_lemma =>
                go_wp2_with fail
                all_goals (
                  go_roundg (xs.length - (k + 3))
                  case measure => omega
                  case rel => exact ⟨k + 3, m - 3, _, _, (f', y2 + 1, x'), by omega, by omega, rfl, by omega, by omega, (by intro hp; first | rfl | omega), hb.setCell (Nat.le_refl _) _, heap_setCell_same _ _ _ _ _ _ hv, (heap_setCell_other _ _ _ _ (by dsimp only; omega)).trans hr, (heap_setCell_other _ _ _ _ (by dsimp only; omega)).trans hn, HS.out.block (heap_setCell_other _ _ _ _ (by dsimp only; omega)), HO.out.block (heap_setCell_other _ _ _ _ (by dsimp only; omega)), by rw [← HL.out, HE.out]⟩)
      · have hlg : isLg (xs.drop k) = false := by simpa using hlg
        have HE0 : Hid (applyL (f', b', x') (xs.drop k) = applyL (one (f', b', x') (xs.getD k 0)) (xs.drop (k + 1))) := by
          have hl' := hlg
          unfold Hid
          rw [drop_cons xs k hlt] at hl' ⊢
          exact applyL_one _ _ _ hl'
        generalize hyk : xs.getD k 0 = y0 at *
        by_cases h38 : y0 = 38
        · by_cases m3 : m < 3
          · have n38 : (y0 == 38) = true := by rw [h38]; rfl
            have z : 0 < y0 := by omega
            have K1 : Hid (look setM y0 = 0) := look_set_zero y0 (by omega)
            have K2 : Hid (look offM y0 = 0) := look_off_zero y0 (by omega)
            have l1 : (Instr.lookup 73 (.map (some (w.heap.size + 1 + 1 + 1))) (.int .i64 y0) false).run Tryz.prog wr = .ok (.int .i64 0) wr := by have := HS.out.lookup y0 hy0 hy1; rwa [K1.out] at this
            have l2 : (Instr.lookup 73 (.map (some W7.heap.size)) (.int .i64 y0) false).run Tryz.prog wr = .ok (.int .i64 0) wr := by have := HO.out.lookup y0 hy0 hy1; rwa [K2.out] at this
            have hq : wrap64 (y0.tdiv 10) = 3 := by rw [quo10 y0 (by omega) hy1]; omega
            have hr8 : 8 ≤ y0 % 10 := by omega
            have n39 : (y0 == 39) = false := beq_eq_false_iff_ne.2 (by omega)
            have n49 : (y0 == 49) = false := beq_eq_false_iff_ne.2 (by omega)
            have HE : Hid (applyL (f', b', x') (xs.drop k) = applyL (f', b', x') (xs.drop (k + 1))) := by unfold Hid; rw [HE0.out, one_else f' b' x' y0 (by omega) K1.out K2.out (by omega) (by omega) (by omega) (by omega) (by omega) (by omega)]
            clear hlen HRk h38
            as_aux_lemma =>
              go_wp2_with fail
              all_goals (
                go_roundg (xs.length - (k + 1))
                case measure => omega
                case rel => exact ⟨k + 1, m - 1, _, _, (f', b', x'), by omega, by omega, rfl, by omega, by omega, (by intro hp; first | rfl | omega), hb, hv, hr, hn, HS.out, HO.out, by rw [← HL.out, HE.out]⟩)
          · have n38 : (y0 == 38) = true := by rw [h38]; rfl
            have q1 : wr.cell? ⟨b, o + k + 1, none⟩ = some (.int .i64 (xs.getD (k + 1) 0)) := by
              have := HRk.out 1 (by omega)
              rw [drop_cons xs k hlt] at this
              rw [show (xs.getD k 0 :: List.drop (k + 1) xs).getD 1 0 = (List.drop (k + 1) xs).getD 0 0 from rfl, drop_cons xs (k + 1) (by omega)] at this
              exact this
            have n5 : (xs.getD (k + 1) 0 == 5) = false := by
              have := hlg
              rw [drop_cons xs k hlt, drop_cons xs (k + 1) (by omega), drop_cons xs (k + 1 + 1) (by omega)] at this
              simp only [isLg, decide_eq_false_iff_not] at this
              rw [beq_eq_false_iff_ne]
              intro h5
              exact this ⟨by rw [hyk]; omega, h5⟩
            generalize xs.getD (k + 1) 0 = y1 at *
            have z : 0 < y0 := by omega
            have K1 : Hid (look setM y0 = 0) := look_set_zero y0 (by omega)
            have K2 : Hid (look offM y0 = 0) := look_off_zero y0 (by omega)
            have l1 : (Instr.lookup 73 (.map (some (w.heap.size + 1 + 1 + 1))) (.int .i64 y0) false).run Tryz.prog wr = .ok (.int .i64 0) wr := by have := HS.out.lookup y0 hy0 hy1; rwa [K1.out] at this
            have l2 : (Instr.lookup 73 (.map (some W7.heap.size)) (.int .i64 y0) false).run Tryz.prog wr = .ok (.int .i64 0) wr := by have := HO.out.lookup y0 hy0 hy1; rwa [K2.out] at this
            have hq : wrap64 (y0.tdiv 10) = 3 := by rw [quo10 y0 (by omega) hy1]; omega
            have hr8 : 8 ≤ y0 % 10 := by omega
            have n39 : (y0 == 39) = false := beq_eq_false_iff_ne.2 (by omega)
            have n49 : (y0 == 49) = false := beq_eq_false_iff_ne.2 (by omega)
            have HE : Hid (applyL (f', b', x') (xs.drop k) = applyL (f', b', x') (xs.drop (k + 1))) := by unfold Hid; rw [HE0.out, one_else f' b' x' y0 (by omega) K1.out K2.out (by omega) (by omega) (by omega) (by omega) (by omega) (by omega)]
            clear hlen HRk h38
            as_aux_lemma =>
              go_wp2_with fail
              all_goals (
                go_roundg (xs.length - (k + 1))
                case measure => omega
                case rel => exact ⟨k + 1, m - 1, _, _, (f', b', x'), by omega, by omega, rfl, by omega, by omega, (by intro hp; first | rfl | omega), hb, hv, hr, hn, HS.out, HO.out, by rw [← HL.out, HE.out]⟩)
        · by_cases h48 : y0 = 48
          · by_cases m3 : m < 3
            · have n38 : (y0 == 38) = false := by rw [h48]; rfl
              have n48 : (y0 == 48) = true := by rw [h48]; rfl
              have z : 0 < y0 := by omega
              have K1 : Hid (look setM y0 = 0) := look_set_zero y0 (by omega)
              have K2 : Hid (look offM y0 = 0) := look_off_zero y0 (by omega)
              have l1 : (Instr.lookup 73 (.map (some (w.heap.size + 1 + 1 + 1))) (.int .i64 y0) false).run Tryz.prog wr = .ok (.int .i64 0) wr := by have := HS.out.lookup y0 hy0 hy1; rwa [K1.out] at this
              have l2 : (Instr.lookup 73 (.map (some W7.heap.size)) (.int .i64 y0) false).run Tryz.prog wr = .ok (.int .i64 0) wr := by have := HO.out.lookup y0 hy0 hy1; rwa [K2.out] at this
              have hq : wrap64 (y0.tdiv 10) = 4 := by rw [quo10 y0 (by omega) hy1]; omega
              have hr8 : 8 ≤ y0 % 10 := by omega
              have n39 : (y0 == 39) = false := beq_eq_false_iff_ne.2 (by omega)
              have n49 : (y0 == 49) = false := beq_eq_false_iff_ne.2 (by omega)
              have HE : Hid (applyL (f', b', x') (xs.drop k) = applyL (f', b', x') (xs.drop (k + 1))) := by unfold Hid; rw [HE0.out, one_else f' b' x' y0 (by omega) K1.out K2.out (by omega) (by omega) (by omega) (by omega) (by omega) (by omega)]
              clear hlen HRk h48
              as_aux_lemma =>
                go_wp2_with fail
                all_goals (
                  go_roundg (xs.length - (k + 1))
                  case measure => omega
                  case rel => exact ⟨k + 1, m - 1, _, _, (f', b', x'), by omega, by omega, rfl, by omega, by omega, (by intro hp; first | rfl | omega), hb, hv, hr, hn, HS.out, HO.out, by rw [← HL.out, HE.out]⟩)
            · have n38 : (y0 == 38) = false := by rw [h48]; rfl
              have n48 : (y0 == 48) = true := by rw [h48]; rfl
              have q1 : wr.cell? ⟨b, o + k + 1, none⟩ = some (.int .i64 (xs.getD (k + 1) 0)) := by
                have := HRk.out 1 (by omega)
                rw [drop_cons xs k hlt] at this
                rw [show (xs.getD k 0 :: List.drop (k + 1) xs).getD 1 0 = (List.drop (k + 1) xs).getD 0 0 from rfl, drop_cons xs (k + 1) (by omega)] at this
                exact this
              have n5 : (xs.getD (k + 1) 0 == 5) = false := by
                have := hlg
                rw [drop_cons xs k hlt, drop_cons xs (k + 1) (by omega), drop_cons xs (k + 1 + 1) (by omega)] at this
                simp only [isLg, decide_eq_false_iff_not] at this
                rw [beq_eq_false_iff_ne]
                intro h5
                exact this ⟨by rw [hyk]; omega, h5⟩
              generalize xs.getD (k + 1) 0 = y1 at *
              have z : 0 < y0 := by omega
              have K1 : Hid (look setM y0 = 0) := look_set_zero y0 (by omega)
              have K2 : Hid (look offM y0 = 0) := look_off_zero y0 (by omega)
              have l1 : (Instr.lookup 73 (.map (some (w.heap.size + 1 + 1 + 1))) (.int .i64 y0) false).run Tryz.prog wr = .ok (.int .i64 0) wr := by have := HS.out.lookup y0 hy0 hy1; rwa [K1.out] at this
              have l2 : (Instr.lookup 73 (.map (some W7.heap.size)) (.int .i64 y0) false).run Tryz.prog wr = .ok (.int .i64 0) wr := by have := HO.out.lookup y0 hy0 hy1; rwa [K2.out] at this
              have hq : wrap64 (y0.tdiv 10) = 4 := by rw [quo10 y0 (by omega) hy1]; omega
              have hr8 : 8 ≤ y0 % 10 := by omega
              have n39 : (y0 == 39) = false := beq_eq_false_iff_ne.2 (by omega)
              have n49 : (y0 == 49) = false := beq_eq_false_iff_ne.2 (by omega)
              have HE : Hid (applyL (f', b', x') (xs.drop k) = applyL (f', b', x') (xs.drop (k + 1))) := by unfold Hid; rw [HE0.out, one_else f' b' x' y0 (by omega) K1.out K2.out (by omega) (by omega) (by omega) (by omega) (by omega) (by omega)]
              clear hlen HRk h48
              as_aux_lemma =>
                go_wp2_with fail
                all_goals (
                  go_roundg (xs.length - (k + 1))
                  case measure => omega
                  case rel => exact ⟨k + 1, m - 1, _, _, (f', b', x'), by omega, by omega, rfl, by omega, by omega, (by intro hp; first | rfl | omega), hb, hv, hr, hn, HS.out, HO.out, by rw [← HL.out, HE.out]⟩)
          · by_cases hle : y0 ≤ 0
            · have n38 : (y0 == 38) = false := beq_eq_false_iff_ne.2 (by omega)
              have n48 : (y0 == 48) = false := beq_eq_false_iff_ne.2 (by omega)
              have z : y0 ≤ 0 := hle
              have HE : Hid (applyL (f', b', x') (xs.drop k) = applyL (0, 0, 0) (xs.drop (k + 1))) := by unfold Hid; rw [HE0.out, one_le _ _ hle]
              clear hlen HRk
              as_aux_lemma =>
                go_wp2_with fail
                all_goals (
                  go_roundg (xs.length - (k + 1))
                  case measure => omega
                  case rel => exact ⟨k + 1, m - 1, _, _, (0, 0, 0), by omega, by omega, rfl, by omega, by omega, (by intro hp; first | rfl | omega), set3_below hb (Nat.le_refl _) _ _ _, set3 hv _ _ _, (set3_other (by omega) _ _ _).trans hr, (set3_other (by omega) _ _ _).trans hn, HS.out.block (set3_other (by omega) _ _ _), HO.out.block (set3_other (by omega) _ _ _), by rw [← HL.out, HE.out]⟩)
            · by_cases hset : 0 < look setM y0
              · have n38 : (y0 == 38) = false := beq_eq_false_iff_ne.2 (by omega)
                have n48 : (y0 == 48) = false := beq_eq_false_iff_ne.2 (by omega)
                have HG : Hid (one (f', b', x') y0 = (f', b', bits .or .i64 x' (look setM y0))) := one_set f' b' x' y0 hset
                have l1 := HS.out.lookup y0 hy0 hy1
                generalize look setM y0 = v1 at *
                have HE : Hid (applyL (f', b', x') (xs.drop k) = applyL (f', b', bits .or .i64 x' v1) (xs.drop (k + 1))) := by unfold Hid; rw [HE0.out, HG.out]
                clear hlen HRk
                as_aux_lemma =>
                  go_wp2_with fail
                  all_goals (
                    go_roundg (xs.length - (k + 1))
                    case measure => omega
                    case rel => exact ⟨k + 1, m - 1, _, _, (f', b', bits .or .i64 x' v1), by omega, by omega, rfl, by omega, by omega, (by intro hp; first | rfl | omega), hb.setCell (Nat.le_refl _) _, heap_setCell_same _ _ _ _ _ _ hv, (heap_setCell_other _ _ _ _ (by dsimp only; omega)).trans hr, (heap_setCell_other _ _ _ _ (by dsimp only; omega)).trans hn, HS.out.block (heap_setCell_other _ _ _ _ (by dsimp only; omega)), HO.out.block (heap_setCell_other _ _ _ _ (by dsimp only; omega)), by rw [← HL.out, HE.out]⟩)
              · by_cases hoff : 0 < look offM y0
                · have n38 : (y0 == 38) = false := beq_eq_false_iff_ne.2 (by omega)
                  have n48 : (y0 == 48) = false := beq_eq_false_iff_ne.2 (by omega)
                  have K1 : Hid (look setM y0 = 0) := by have := look_set_nonneg y0; unfold Hid; omega
                  have HG : Hid (one (f', b', x') y0 = (f', b', bits .andNot .i64 x' (look offM y0))) := one_off f' b' x' y0 hoff
                  have l1 : (Instr.lookup 73 (.map (some (w.heap.size + 1 + 1 + 1))) (.int .i64 y0) false).run Tryz.prog wr = .ok (.int .i64 0) wr := by have := HS.out.lookup y0 hy0 hy1; rwa [K1.out] at this
                  have l2 := HO.out.lookup y0 hy0 hy1
                  clear hset
                  generalize look offM y0 = v2 at *
                  have HE : Hid (applyL (f', b', x') (xs.drop k) = applyL (f', b', bits .andNot .i64 x' v2) (xs.drop (k + 1))) := by unfold Hid; rw [HE0.out, HG.out]
                  clear hlen HRk
                  as_aux_lemma =>
                    go_wp2_with fail
                    all_goals (
                      go_roundg (xs.length - (k + 1))
                      case measure => omega
                      case rel => exact ⟨k + 1, m - 1, _, _, (f', b', bits .andNot .i64 x' v2), by omega, by omega, rfl, by omega, by omega, (by intro hp; first | rfl | omega), hb.setCell (Nat.le_refl _) _, heap_setCell_same _ _ _ _ _ _ hv, (heap_setCell_other _ _ _ _ (by dsimp only; omega)).trans hr, (heap_setCell_other _ _ _ _ (by dsimp only; omega)).trans hn, HS.out.block (heap_setCell_other _ _ _ _ (by dsimp only; omega)), HO.out.block (heap_setCell_other _ _ _ _ (by dsimp only; omega)), by rw [← HL.out, HE.out]⟩)
                · by_cases h3 : 30 ≤ y0 ∧ y0 ≤ 37
                  · have n38 : (y0 == 38) = false := beq_eq_false_iff_ne.2 (by omega)
                    have n48 : (y0 == 48) = false := beq_eq_false_iff_ne.2 (by omega)
                    have K1 : Hid (look setM y0 = 0) := look_set_zero y0 (by omega)
                    have K2 : Hid (look offM y0 = 0) := look_off_zero y0 (by omega)
                    have l1 : (Instr.lookup 73 (.map (some (w.heap.size + 1 + 1 + 1))) (.int .i64 y0) false).run Tryz.prog wr = .ok (.int .i64 0) wr := by have := HS.out.lookup y0 hy0 hy1; rwa [K1.out] at this
                    have l2 : (Instr.lookup 73 (.map (some W7.heap.size)) (.int .i64 y0) false).run Tryz.prog wr = .ok (.int .i64 0) wr := by have := HO.out.lookup y0 hy0 hy1; rwa [K2.out] at this
                    have hq : wrap64 (y0.tdiv 10) = 3 := by rw [quo10 y0 (by omega) hy1]; omega
                    have hr8 : y0 % 10 < 8 := by omega
                    have HE : Hid (applyL (f', b', x') (xs.drop k) = applyL (y0 % 10 + 1, b', x') (xs.drop (k + 1))) := by unfold Hid; rw [HE0.out, one_3x f' b' x' y0 (by omega) (by omega)]
                    clear hlen HRk
                    as_aux_lemma =>
                      go_wp2_with fail
                      all_goals (
                        go_roundg (xs.length - (k + 1))
                        case measure => omega
                        case rel => exact ⟨k + 1, m - 1, _, _, (y0 % 10 + 1, b', x'), by omega, by omega, rfl, by omega, by omega, (by intro hp; first | rfl | omega), hb.setCell (Nat.le_refl _) _, heap_setCell_same _ _ _ _ _ _ hv, (heap_setCell_other _ _ _ _ (by dsimp only; omega)).trans hr, (heap_setCell_other _ _ _ _ (by dsimp only; omega)).trans hn, HS.out.block (heap_setCell_other _ _ _ _ (by dsimp only; omega)), HO.out.block (heap_setCell_other _ _ _ _ (by dsimp only; omega)), by rw [← HL.out, HE.out]⟩)
                  · by_cases h4 : 40 ≤ y0 ∧ y0 ≤ 47
                    · have n38 : (y0 == 38) = false := beq_eq_false_iff_ne.2 (by omega)
                      have n48 : (y0 == 48) = false := beq_eq_false_iff_ne.2 (by omega)
                      have K1 : Hid (look setM y0 = 0) := look_set_zero y0 (by omega)
                      have K2 : Hid (look offM y0 = 0) := look_off_zero y0 (by omega)
                      have l1 : (Instr.lookup 73 (.map (some (w.heap.size + 1 + 1 + 1))) (.int .i64 y0) false).run Tryz.prog wr = .ok (.int .i64 0) wr := by have := HS.out.lookup y0 hy0 hy1; rwa [K1.out] at this
                      have l2 : (Instr.lookup 73 (.map (some W7.heap.size)) (.int .i64 y0) false).run Tryz.prog wr = .ok (.int .i64 0) wr := by have := HO.out.lookup y0 hy0 hy1; rwa [K2.out] at this
                      have hq : wrap64 (y0.tdiv 10) = 4 := by rw [quo10 y0 (by omega) hy1]; omega
                      have hr8 : y0 % 10 < 8 := by omega
                      have HE : Hid (applyL (f', b', x') (xs.drop k) = applyL (f', y0 % 10 + 1, x') (xs.drop (k + 1))) := by unfold Hid; rw [HE0.out, one_4x f' b' x' y0 (by omega) (by omega)]
                      clear hlen HRk
                      as_aux_lemma =>
                        go_wp2_with fail
                        all_goals (
                          go_roundg (xs.length - (k + 1))
                          case measure => omega
                          case rel => exact ⟨k + 1, m - 1, _, _, (f', y0 % 10 + 1, x'), by omega, by omega, rfl, by omega, by omega, (by intro hp; first | rfl | omega), hb.setCell (Nat.le_refl _) _, heap_setCell_same _ _ _ _ _ _ hv, (heap_setCell_other _ _ _ _ (by dsimp only; omega)).trans hr, (heap_setCell_other _ _ _ _ (by dsimp only; omega)).trans hn, HS.out.block (heap_setCell_other _ _ _ _ (by dsimp only; omega)), HO.out.block (heap_setCell_other _ _ _ _ (by dsimp only; omega)), by rw [← HL.out, HE.out]⟩)
                    · by_cases h9 : 90 ≤ y0 ∧ y0 ≤ 97
                      · have n38 : (y0 == 38) = false := beq_eq_false_iff_ne.2 (by omega)
                        have n48 : (y0 == 48) = false := beq_eq_false_iff_ne.2 (by omega)
                        have K1 : Hid (look setM y0 = 0) := look_set_zero y0 (by omega)
                        have K2 : Hid (look offM y0 = 0) := look_off_zero y0 (by omega)
                        have l1 : (Instr.lookup 73 (.map (some (w.heap.size + 1 + 1 + 1))) (.int .i64 y0) false).run Tryz.prog wr = .ok (.int .i64 0) wr := by have := HS.out.lookup y0 hy0 hy1; rwa [K1.out] at this
                        have l2 : (Instr.lookup 73 (.map (some W7.heap.size)) (.int .i64 y0) false).run Tryz.prog wr = .ok (.int .i64 0) wr := by have := HO.out.lookup y0 hy0 hy1; rwa [K2.out] at this
                        have hq : wrap64 (y0.tdiv 10) = 9 := by rw [quo10 y0 (by omega) hy1]; omega
                        have hr8 : y0 % 10 < 8 := by omega
                        have HE : Hid (applyL (f', b', x') (xs.drop k) = applyL (y0 % 10 + 9, b', x') (xs.drop (k + 1))) := by unfold Hid; rw [HE0.out, one_9x f' b' x' y0 (by omega) (by omega)]
                        clear hlen HRk
                        as_aux_lemma =>
                          go_wp2_with fail
                          all_goals (
                            go_roundg (xs.length - (k + 1))
                            case measure => omega
                            case rel => exact ⟨k + 1, m - 1, _, _, (y0 % 10 + 9, b', x'), by omega, by omega, rfl, by omega, by omega, (by intro hp; first | rfl | omega), hb.setCell (Nat.le_refl _) _, heap_setCell_same _ _ _ _ _ _ hv, (heap_setCell_other _ _ _ _ (by dsimp only; omega)).trans hr, (heap_setCell_other _ _ _ _ (by dsimp only; omega)).trans hn, HS.out.block (heap_setCell_other _ _ _ _ (by dsimp only; omega)), HO.out.block (heap_setCell_other _ _ _ _ (by dsimp only; omega)), by rw [← HL.out, HE.out]⟩)
                      · by_cases h10 : 100 ≤ y0 ∧ y0 ≤ 107
                        · have n38 : (y0 == 38) = false := beq_eq_false_iff_ne.2 (by omega)
                          have n48 : (y0 == 48) = false := beq_eq_false_iff_ne.2 (by omega)
                          have K1 : Hid (look setM y0 = 0) := look_set_zero y0 (by omega)
                          have K2 : Hid (look offM y0 = 0) := look_off_zero y0 (by omega)
                          have l1 : (Instr.lookup 73 (.map (some (w.heap.size + 1 + 1 + 1))) (.int .i64 y0) false).run Tryz.prog wr = .ok (.int .i64 0) wr := by have := HS.out.lookup y0 hy0 hy1; rwa [K1.out] at this
                          have l2 : (Instr.lookup 73 (.map (some W7.heap.size)) (.int .i64 y0) false).run Tryz.prog wr = .ok (.int .i64 0) wr := by have := HO.out.lookup y0 hy0 hy1; rwa [K2.out] at this
                          have hq : wrap64 (y0.tdiv 10) = 10 := by rw [quo10 y0 (by omega) hy1]; omega
                          have hr8 : y0 % 10 < 8 := by omega
                          have HE : Hid (applyL (f', b', x') (xs.drop k) = applyL (f', y0 % 10 + 9, x') (xs.drop (k + 1))) := by unfold Hid; rw [HE0.out, one_10x f' b' x' y0 (by omega) (by omega)]
                          clear hlen HRk
                          as_aux_lemma =>
                            go_wp2_with fail
                            all_goals (
                              go_roundg (xs.length - (k + 1))
                              case measure => omega
                              case rel => exact ⟨k + 1, m - 1, _, _, (f', y0 % 10 + 9, x'), by omega, by omega, rfl, by omega, by omega, (by intro hp; first | rfl | omega), hb.setCell (Nat.le_refl _) _, heap_setCell_same _ _ _ _ _ _ hv, (heap_setCell_other _ _ _ _ (by dsimp only; omega)).trans hr, (heap_setCell_other _ _ _ _ (by dsimp only; omega)).trans hn, HS.out.block (heap_setCell_other _ _ _ _ (by dsimp only; omega)), HO.out.block (heap_setCell_other _ _ _ _ (by dsimp only; omega)), by rw [← HL.out, HE.out]⟩)
                        · by_cases h39 : y0 = 39
                          · have n38 : (y0 == 38) = false := beq_eq_false_iff_ne.2 (by omega)
                            have n48 : (y0 == 48) = false := beq_eq_false_iff_ne.2 (by omega)
                            have K1 : Hid (look setM y0 = 0) := look_set_zero y0 (by omega)
                            have K2 : Hid (look offM y0 = 0) := look_off_zero y0 (by omega)
                            have l1 : (Instr.lookup 73 (.map (some (w.heap.size + 1 + 1 + 1))) (.int .i64 y0) false).run Tryz.prog wr = .ok (.int .i64 0) wr := by have := HS.out.lookup y0 hy0 hy1; rwa [K1.out] at this
                            have l2 : (Instr.lookup 73 (.map (some W7.heap.size)) (.int .i64 y0) false).run Tryz.prog wr = .ok (.int .i64 0) wr := by have := HO.out.lookup y0 hy0 hy1; rwa [K2.out] at this
                            have hq : wrap64 (y0.tdiv 10) = 3 := by rw [quo10 y0 (by omega) hy1]; omega
                            have hr8 : 8 ≤ y0 % 10 := by omega
                            have n39 : (y0 == 39) = true := by rw [h39]; rfl
                            have HE : Hid (applyL (f', b', x') (xs.drop k) = applyL (0, b', x') (xs.drop (k + 1))) := by unfold Hid; rw [HE0.out, h39, one_39]
                            clear hlen HRk h39
                            as_aux_lemma =>
                              go_wp2_with fail
                              all_goals (
                                go_roundg (xs.length - (k + 1))
                                case measure => omega
                                case rel => exact ⟨k + 1, m - 1, _, _, (0, b', x'), by omega, by omega, rfl, by omega, by omega, (by intro hp; first | rfl | omega), hb.setCell (Nat.le_refl _) _, heap_setCell_same _ _ _ _ _ _ hv, (heap_setCell_other _ _ _ _ (by dsimp only; omega)).trans hr, (heap_setCell_other _ _ _ _ (by dsimp only; omega)).trans hn, HS.out.block (heap_setCell_other _ _ _ _ (by dsimp only; omega)), HO.out.block (heap_setCell_other _ _ _ _ (by dsimp only; omega)), by rw [← HL.out, HE.out]⟩)
                          · by_cases h49 : y0 = 49
                            · have n38 : (y0 == 38) = false := beq_eq_false_iff_ne.2 (by omega)
                              have n48 : (y0 == 48) = false := beq_eq_false_iff_ne.2 (by omega)
                              have K1 : Hid (look setM y0 = 0) := look_set_zero y0 (by omega)
                              have K2 : Hid (look offM y0 = 0) := look_off_zero y0 (by omega)
                              have l1 : (Instr.lookup 73 (.map (some (w.heap.size + 1 + 1 + 1))) (.int .i64 y0) false).run Tryz.prog wr = .ok (.int .i64 0) wr := by have := HS.out.lookup y0 hy0 hy1; rwa [K1.out] at this
                              have l2 : (Instr.lookup 73 (.map (some W7.heap.size)) (.int .i64 y0) false).run Tryz.prog wr = .ok (.int .i64 0) wr := by have := HO.out.lookup y0 hy0 hy1; rwa [K2.out] at this
                              have hq : wrap64 (y0.tdiv 10) = 4 := by rw [quo10 y0 (by omega) hy1]; omega
                              have hr8 : 8 ≤ y0 % 10 := by omega
                              have n39 : (y0 == 39) = false := by rw [h49]; rfl
                              have n49 : (y0 == 49) = true := by rw [h49]; rfl
                              have HE : Hid (applyL (f', b', x') (xs.drop k) = applyL (f', 0, x') (xs.drop (k + 1))) := by unfold Hid; rw [HE0.out, h49, one_49]
                              clear hlen HRk h49
                              as_aux_lemma =>
                                go_wp2_with fail
                                all_goals (
                                  go_roundg (xs.length - (k + 1))
                                  case measure => omega
                                  case rel => exact ⟨k + 1, m - 1, _, _, (f', 0, x'), by omega, by omega, rfl, by omega, by omega, (by intro hp; first | rfl | omega), hb.setCell (Nat.le_refl _) _, heap_setCell_same _ _ _ _ _ _ hv, (heap_setCell_other _ _ _ _ (by dsimp only; omega)).trans hr, (heap_setCell_other _ _ _ _ (by dsimp only; omega)).trans hn, HS.out.block (heap_setCell_other _ _ _ _ (by dsimp only; omega)), HO.out.block (heap_setCell_other _ _ _ _ (by dsimp only; omega)), by rw [← HL.out, HE.out]⟩)
                            · by_cases h98 : y0 = 98 ∨ y0 = 99
                              · have n38 : (y0 == 38) = false := beq_eq_false_iff_ne.2 (by omega)
                                have n48 : (y0 == 48) = false := beq_eq_false_iff_ne.2 (by omega)
                                have z : 0 < y0 := by omega
                                have K1 : Hid (look setM y0 = 0) := look_set_zero y0 (by omega)
                                have K2 : Hid (look offM y0 = 0) := look_off_zero y0 (by omega)
                                have l1 : (Instr.lookup 73 (.map (some (w.heap.size + 1 + 1 + 1))) (.int .i64 y0) false).run Tryz.prog wr = .ok (.int .i64 0) wr := by have := HS.out.lookup y0 hy0 hy1; rwa [K1.out] at this
                                have l2 : (Instr.lookup 73 (.map (some W7.heap.size)) (.int .i64 y0) false).run Tryz.prog wr = .ok (.int .i64 0) wr := by have := HO.out.lookup y0 hy0 hy1; rwa [K2.out] at this
                                have hq : wrap64 (y0.tdiv 10) = 9 := by rw [quo10 y0 (by omega) hy1]; omega
                                have hr8 : 8 ≤ y0 % 10 := by omega
                                have n39 : (y0 == 39) = false := beq_eq_false_iff_ne.2 (by omega)
                                have n49 : (y0 == 49) = false := beq_eq_false_iff_ne.2 (by omega)
                                have HE : Hid (applyL (f', b', x') (xs.drop k) = applyL (f', b', x') (xs.drop (k + 1))) := by unfold Hid; rw [HE0.out, one_else f' b' x' y0 (by omega) K1.out K2.out (by omega) (by omega) (by omega) (by omega) (by omega) (by omega)]
                                clear hlen HRk
                                as_aux_lemma =>
                                  go_wp2_with fail
                                  all_goals (
                                    go_roundg (xs.length - (k + 1))
                                    case measure => omega
                                    case rel => exact ⟨k + 1, m - 1, _, _, (f', b', x'), by omega, by omega, rfl, by omega, by omega, (by intro hp; first | rfl | omega), hb, hv, hr, hn, HS.out, HO.out, by rw [← HL.out, HE.out]⟩)
                              · by_cases h108 : y0 = 108 ∨ y0 = 109
                                · have n38 : (y0 == 38) = false := beq_eq_false_iff_ne.2 (by omega)
                                  have n48 : (y0 == 48) = false := beq_eq_false_iff_ne.2 (by omega)
                                  have z : 0 < y0 := by omega
                                  have K1 : Hid (look setM y0 = 0) := look_set_zero y0 (by omega)
                                  have K2 : Hid (look offM y0 = 0) := look_off_zero y0 (by omega)
                                  have l1 : (Instr.lookup 73 (.map (some (w.heap.size + 1 + 1 + 1))) (.int .i64 y0) false).run Tryz.prog wr = .ok (.int .i64 0) wr := by have := HS.out.lookup y0 hy0 hy1; rwa [K1.out] at this
                                  have l2 : (Instr.lookup 73 (.map (some W7.heap.size)) (.int .i64 y0) false).run Tryz.prog wr = .ok (.int .i64 0) wr := by have := HO.out.lookup y0 hy0 hy1; rwa [K2.out] at this
                                  have hq : wrap64 (y0.tdiv 10) = 10 := by rw [quo10 y0 (by omega) hy1]; omega
                                  have hr8 : 8 ≤ y0 % 10 := by omega
                                  have n39 : (y0 == 39) = false := beq_eq_false_iff_ne.2 (by omega)
                                  have n49 : (y0 == 49) = false := beq_eq_false_iff_ne.2 (by omega)
                                  have HE : Hid (applyL (f', b', x') (xs.drop k) = applyL (f', b', x') (xs.drop (k + 1))) := by unfold Hid; rw [HE0.out, one_else f' b' x' y0 (by omega) K1.out K2.out (by omega) (by omega) (by omega) (by omega) (by omega) (by omega)]
                                  clear hlen HRk
                                  as_aux_lemma =>
                                    go_wp2_with fail
                                    all_goals (
                                      go_roundg (xs.length - (k + 1))
                                      case measure => omega
                                      case rel => exact ⟨k + 1, m - 1, _, _, (f', b', x'), by omega, by omega, rfl, by omega, by omega, (by intro hp; first | rfl | omega), hb, hv, hr, hn, HS.out, HO.out, by rw [← HL.out, HE.out]⟩)
                                · have n38 : (y0 == 38) = false := beq_eq_false_iff_ne.2 (by omega)
                                  have n48 : (y0 == 48) = false := beq_eq_false_iff_ne.2 (by omega)
                                  have K1 : Hid (look setM y0 = 0) := by have := look_set_nonneg y0; unfold Hid; omega
                                  have K2 : Hid (look offM y0 = 0) := by have := look_off_nonneg y0; unfold Hid; omega
                                  have l1 : (Instr.lookup 73 (.map (some (w.heap.size + 1 + 1 + 1))) (.int .i64 y0) false).run Tryz.prog wr = .ok (.int .i64 0) wr := by have := HS.out.lookup y0 hy0 hy1; rwa [K1.out] at this
                                  have l2 : (Instr.lookup 73 (.map (some W7.heap.size)) (.int .i64 y0) false).run Tryz.prog wr = .ok (.int .i64 0) wr := by have := HO.out.lookup y0 hy0 hy1; rwa [K2.out] at this
                                  have hq3 : ¬ wrap64 (y0.tdiv 10) = 3 := by rw [quo10 y0 (by omega) hy1]; omega
                                  have hq4 : ¬ wrap64 (y0.tdiv 10) = 4 := by rw [quo10 y0 (by omega) hy1]; omega
                                  have hq9 : ¬ wrap64 (y0.tdiv 10) = 9 := by rw [quo10 y0 (by omega) hy1]; omega
                                  have hq10 : ¬ wrap64 (y0.tdiv 10) = 10 := by rw [quo10 y0 (by omega) hy1]; omega
                                  have n39 : (y0 == 39) = false := beq_eq_false_iff_ne.2 (by omega)
                                  have n49 : (y0 == 49) = false := beq_eq_false_iff_ne.2 (by omega)
                                  have HE : Hid (applyL (f', b', x') (xs.drop k) = applyL (f', b', x') (xs.drop (k + 1))) := by unfold Hid; rw [HE0.out, one_else f' b' x' y0 (by omega) K1.out K2.out (by omega) (by omega) (by omega) (by omega) (by omega) (by omega)]
                                  clear hset hoff
                                  clear hlen HRk
                                  as_aux_lemma =>
                                    go_wp2_with fail
                                    all_goals (
                                      go_roundg (xs.length - (k + 1))
                                      case measure => omega
                                      case rel => exact ⟨k + 1, m - 1, _, _, (f', b', x'), by omega, by omega, rfl, by omega, by omega, (by intro hp; first | rfl | omega), hb, hv, hr, hn, HS.out, HO.out, by rw [← HL.out, HE.out]⟩)
    · have hk2 : k = xs.length := by omega
      have hm0 : m = 0 := by omega
      subst hm0
      obtain ⟨f', b', x'⟩ := s
      have HE : Hid ((f', b', x') = applyL (f, bk, x) xs) := by
        have := HL.out
        rw [hk2, List.drop_length] at this
        exact this
      have hv0 := hv
      go_wp2_with (first | (refine wpList_load_row rfl 26 (.tmp 2) rfl w.heap.size rfl _ _ _ _ hv0 Tryz.underlying26 rfl (by kernel_rfl) ?_) | (refine wpList_store_row rfl 26 (.tmp 4) _ rfl (w.heap.size + 1) #[.int .i64 f', .int .i64 b', .int .i64 x'] rfl rfl _ _ hr (by kernel_rfl) rfl (one3 _ _ _) ?_))
      (try simp only [Exit.inBlock, Exit.then])
      refine bodyPost_ret (v := stv (f', b', x')) ?_ rfl ⟨by rw [HE.out]; rfl, below_setRow hb (by omega) _⟩
      exact results_cell_row rfl _ _ (w.heap.size + 1) _ _ _ _ rfl (setRow_heap _ _ _ _ _ _ hr) Tryz.underlying26 rfl (by kernel_rfl)
end Stl
end Go.Proofs.YtgfhkdiknpnccaaGreatDoor

/- The reference's ApplyTo, of any list. -/
namespace Go.Proofs.YtgfhkdiknpnccaaGreatDoor
open Go.ChangeShapes Go.WideShapes Go.ChangeAt Go.RowKit
namespace Stl
set_option maxRecDepth 100000 in
set_option maxHeartbeats 1000000 in
theorem applyTo_any (f b x f' b' x' : Int) (v : Value) (xs : List Int) (w : World) (hI : IntsAt w v xs) (hlen : xs.length ≤ 140737488355328) (hw : ∀ x ∈ xs, -9223372036854775808 ≤ x ∧ x ≤ 9223372036854775807) (h : applyT (f, b, x) xs = (f', b', x')) :
    Calls Tryz.prog 31 #[.agg #[.int .i64 f, .int .i64 b, .int .i64 x], v] w fun e w' => e = .returned (.agg #[.int .i64 f', .int .i64 b', .int .i64 x']) ∧ Below w.heap.size w w' := by
  rcases hI with ⟨rfl, a, c, rfl⟩ | ⟨h0, bl, o, c, rfl, hc, hR⟩
  · have h' : (0, 0, 0) = (f', b', x') := h
    simp only [Prod.mk.injEq] at h'
    obtain ⟨rfl, rfl, rfl⟩ := h'
    clear hw hlen h
    go_enter Tryz.func31, Tryz.ntmps31
    go_wp2
    (try simp only [Exit.inBlock, Exit.then])
    refine bodyPost_ret (v := stv (0, 0, 0)) ?_ rfl ⟨rfl, (((Below.refl _ _).alloc (Nat.le_refl _) _).alloc (by simp) _).alloc (by simp; omega) _⟩
    exact results_cell_row rfl _ _ (w.heap.size + 1) _ _ _ _ rfl ((Below.heap_alloc _ _ _ (by simp)).trans (new2 w _ _ _)) Tryz.underlying26 rfl (by kernel_rfl)
  · have := applyTo_some (f, b, x) bl o c xs w hR h0 hlen hc hw
    unfold applyT at h
    rw [if_neg h0] at h
    rw [h] at this
    exact this
end Stl
end Go.Proofs.YtgfhkdiknpnccaaGreatDoor
