/- trellislaw.acts and one: a call, and what a name says. -/
import Derived.Test.YtgfhkdiknpnccaaGreatDoorPartN
import Derived.Test.YtgfhkdiknpnccaaGreatDoorPartI
import Derived.Deep.RegionHeld3
import Derived.BigRegion
import Derived.BigQuiet
import Derived.Test.YtgfhkdiknpnccaaGreatDoorPartJ
namespace Go.Proofs.YtgfhkdiknpnccaaGreatDoor
open Go.ChangeShapes Go.WideShapes Go.ChangeAt Go.RowKit
namespace Put
open Grd (C SliceAt CellsAt gridErr z0 nilV rowsL RowsAt RowB flat)
theorem cell_box {W : World} {R : Nat} {v : Value} {t : TypeId} (h : W.heap[R]? = some (.cells #[v] t (0, 0))) : W.cell? ⟨R, 0, none⟩ = some v := by simp [World.cell?, h]
/-- What a name does to a desk. -/
def ActMakes (what : ByteArray) (n m : Int) (s s2 : Scr) (rows rows2 : List (List C)) : Prop :=
  ∀ N W p, N ≤ W.heap.size → DkAt W N p s rows → Calls Tryz.prog 43 #[.pointer (some ⟨p, 0, none⟩), .string what, .int .i64 n, .int .i64 m] W fun e W' => e = .returned (.tuple #[]) ∧ DkAt W' N p s2 rows2 ∧ Below N W W'
theorem plain_acts : Plain 42 := by
  intro args W
  kernel_rfl
set_option maxHeartbeats 1000000 in
theorem acts1_acts {what : ByteArray} {n m : Int} {s s2 : Scr} {rows rows2 : List (List C)} (h : ActMakes what n m s s2 rows rows2) (B1 B2 B3 : Nat) (w : World) (h1 : w.cell? ⟨B1, 0, none⟩ = some (.string what)) (h2 : w.cell? ⟨B2, 0, none⟩ = some (.int .i64 n)) (h3 : w.cell? ⟨B3, 0, none⟩ = some (.int .i64 m)) :
    Acts 42 #[.pointer (some ⟨B1, 0, none⟩), .pointer (some ⟨B2, 0, none⟩), .pointer (some ⟨B3, 0, none⟩)] w s s2 rows rows2 := by
  intro N W p hb hN hN2 hD
  have q1 := cell_stay hb h1
  have q2 := cell_stay hb h2
  have q3 := cell_stay hb h3
  have H := h N W p hN2 hD
  clear h hD h1 h2 h3 hb
  show Calls _ _ #[.pointer (some ⟨p, 0, none⟩), .pointer (some ⟨B1, 0, none⟩), .pointer (some ⟨B2, 0, none⟩), .pointer (some ⟨B3, 0, none⟩)] _ _
  go_enter Tryz.func42, Tryz.ntmps42
  go_wp2_with fail
  refine H.mono ?_
  rintro e W1 ⟨rfl, hD1, b1⟩
  go_wp2_with fail
  go_end0
  exact ⟨rfl, hD1, b1⟩
set_option maxHeartbeats 2000000 in
set_option maxRecDepth 100000 in
theorem acts_calls (s : Scr) (cv tv gv fv : Value) (what : ByteArray) (n m : Int) (w : World) (hV : ScrV w s cv tv gv)
    (hD : ∀ W B1 B2 B3, Below w.heap.size w W → W.cell? ⟨B1, 0, none⟩ = some (.string what) → W.cell? ⟨B2, 0, none⟩ = some (.int .i64 n) → W.cell? ⟨B3, 0, none⟩ = some (.int .i64 m) → Calls Tryz.prog 29 #[.agg (scrA s cv tv gv), fv, .func (.func 42) #[] #[.pointer (some ⟨B1, 0, none⟩), .pointer (some ⟨B2, 0, none⟩), .pointer (some ⟨B3, 0, none⟩)]] W fun e w' => e = .returned (.bool true) ∧ Below W.heap.size W w') :
    Calls Tryz.prog 13 #[.agg (scrA s cv tv gv), fv, .string what, .int .i64 n, .int .i64 m] w fun e w' => e = .returned (.bool true) ∧ Below w.heap.size w w' := by
  obtain ⟨ca, cc, rfl⟩ := hV.c.shape
  obtain ⟨ta, tc, rfl⟩ := hV.t.slice
  obtain ⟨ga, gc, rfl⟩ := hV.g.slice
  have hkb : Below w.heap.size w ((((w.alloc (.cells (scrA s (.slice ca s.cs.length cc) (.slice ta s.tabs.length tc) (.slice ga s.gone.length gc)) 32)).alloc (.cells #[.string what] 9)).alloc (.cells #[.int .i64 n] 3)).alloc (.cells #[.int .i64 m] 3)) := (((((Below.refl _ _).alloc (by simp) _).alloc (by simp) _).alloc (by simp; omega) _).alloc (by simp; omega) _)
  have hx0 : (w.alloc (.cells (scrA s (.slice ca s.cs.length cc) (.slice ta s.tabs.length tc) (.slice ga s.gone.length gc)) 32)).heap[w.heap.size]? = some (.cells (scrA s (.slice ca s.cs.length cc) (.slice ta s.tabs.length tc) (.slice ga s.gone.length gc)) 32 (0, 0)) := by
    have h := heap_alloc_new w (.cells (scrA s (.slice ca s.cs.length cc) (.slice ta s.tabs.length tc) (.slice ga s.gone.length gc)) 32)
    have e : w.heap.size = w.heap.size := by simp
    rw [e] at h
    exact h
  have hx0 := (Below.heap_alloc (w.alloc (.cells (scrA s (.slice ca s.cs.length cc) (.slice ta s.tabs.length tc) (.slice ga s.gone.length gc)) 32)) (.cells #[.string what] 9) _ (heap_lt hx0)).trans hx0
  have hx0 := (Below.heap_alloc ((w.alloc (.cells (scrA s (.slice ca s.cs.length cc) (.slice ta s.tabs.length tc) (.slice ga s.gone.length gc)) 32)).alloc (.cells #[.string what] 9)) (.cells #[.int .i64 n] 3) _ (heap_lt hx0)).trans hx0
  have hx0 := (Below.heap_alloc (((w.alloc (.cells (scrA s (.slice ca s.cs.length cc) (.slice ta s.tabs.length tc) (.slice ga s.gone.length gc)) 32)).alloc (.cells #[.string what] 9)).alloc (.cells #[.int .i64 n] 3)) (.cells #[.int .i64 m] 3) _ (heap_lt hx0)).trans hx0
  have hx1 : ((w.alloc (.cells (scrA s (.slice ca s.cs.length cc) (.slice ta s.tabs.length tc) (.slice ga s.gone.length gc)) 32)).alloc (.cells #[.string what] 9)).heap[w.heap.size + 1]? = some (.cells #[.string what] 9 (0, 0)) := by
    have h := heap_alloc_new (w.alloc (.cells (scrA s (.slice ca s.cs.length cc) (.slice ta s.tabs.length tc) (.slice ga s.gone.length gc)) 32)) (.cells #[.string what] 9)
    have e : (w.alloc (.cells (scrA s (.slice ca s.cs.length cc) (.slice ta s.tabs.length tc) (.slice ga s.gone.length gc)) 32)).heap.size = w.heap.size + 1 := by simp
    rw [e] at h
    exact h
  have hx1 := (Below.heap_alloc ((w.alloc (.cells (scrA s (.slice ca s.cs.length cc) (.slice ta s.tabs.length tc) (.slice ga s.gone.length gc)) 32)).alloc (.cells #[.string what] 9)) (.cells #[.int .i64 n] 3) _ (heap_lt hx1)).trans hx1
  have hx1 := (Below.heap_alloc (((w.alloc (.cells (scrA s (.slice ca s.cs.length cc) (.slice ta s.tabs.length tc) (.slice ga s.gone.length gc)) 32)).alloc (.cells #[.string what] 9)).alloc (.cells #[.int .i64 n] 3)) (.cells #[.int .i64 m] 3) _ (heap_lt hx1)).trans hx1
  have hx2 : (((w.alloc (.cells (scrA s (.slice ca s.cs.length cc) (.slice ta s.tabs.length tc) (.slice ga s.gone.length gc)) 32)).alloc (.cells #[.string what] 9)).alloc (.cells #[.int .i64 n] 3)).heap[w.heap.size + 2]? = some (.cells #[.int .i64 n] 3 (0, 0)) := by
    have h := heap_alloc_new ((w.alloc (.cells (scrA s (.slice ca s.cs.length cc) (.slice ta s.tabs.length tc) (.slice ga s.gone.length gc)) 32)).alloc (.cells #[.string what] 9)) (.cells #[.int .i64 n] 3)
    have e : ((w.alloc (.cells (scrA s (.slice ca s.cs.length cc) (.slice ta s.tabs.length tc) (.slice ga s.gone.length gc)) 32)).alloc (.cells #[.string what] 9)).heap.size = w.heap.size + 2 := by simp
    rw [e] at h
    exact h
  have hx2 := (Below.heap_alloc (((w.alloc (.cells (scrA s (.slice ca s.cs.length cc) (.slice ta s.tabs.length tc) (.slice ga s.gone.length gc)) 32)).alloc (.cells #[.string what] 9)).alloc (.cells #[.int .i64 n] 3)) (.cells #[.int .i64 m] 3) _ (heap_lt hx2)).trans hx2
  have hx3 : ((((w.alloc (.cells (scrA s (.slice ca s.cs.length cc) (.slice ta s.tabs.length tc) (.slice ga s.gone.length gc)) 32)).alloc (.cells #[.string what] 9)).alloc (.cells #[.int .i64 n] 3)).alloc (.cells #[.int .i64 m] 3)).heap[w.heap.size + 3]? = some (.cells #[.int .i64 m] 3 (0, 0)) := by
    have h := heap_alloc_new (((w.alloc (.cells (scrA s (.slice ca s.cs.length cc) (.slice ta s.tabs.length tc) (.slice ga s.gone.length gc)) 32)).alloc (.cells #[.string what] 9)).alloc (.cells #[.int .i64 n] 3)) (.cells #[.int .i64 m] 3)
    have e : (((w.alloc (.cells (scrA s (.slice ca s.cs.length cc) (.slice ta s.tabs.length tc) (.slice ga s.gone.length gc)) 32)).alloc (.cells #[.string what] 9)).alloc (.cells #[.int .i64 n] 3)).heap.size = w.heap.size + 3 := by simp
    rw [e] at h
    exact h
  have HX0 : Hid _ := hx0
  have HKB : Hid _ := hkb
  have HC := hD _ (w.heap.size + 1) (w.heap.size + 2) (w.heap.size + 3) hkb (cell_box hx1) (cell_box hx2) (cell_box hx3)
  clear hkb hV hD hx0 hx1 hx2 hx3
  go_enter Tryz.func13, Tryz.ntmps13
  go_upto_region 1 with fail
  generalize ((((w.alloc (.cells (scrA s (.slice ca s.cs.length cc) (.slice ta s.tabs.length tc) (.slice ga s.gone.length gc)) 32)).alloc (.cells #[.string what] 9)).alloc (.cells #[.int .i64 n] 3)).alloc (.cells #[.int .i64 m] 3)) = X at *
  go_wp2_with (refine wpList_load_row rfl 32 (.tmp 5) rfl w.heap.size rfl _ _ _ _ HX0.out Tryz.underlying32 rfl (by kernel_rfl) ?_)
  refine HC.mono ?_
  rintro e V ⟨rfl, b⟩
  have HB : Hid (Below w.heap.size w V) := HKB.out.trans (b.mono HKB.out.size)
  clear HC b
  go_wp2_with fail
  go_ret
  exact ⟨rfl, HB.out⟩
set_option maxHeartbeats 2000000 in
set_option maxRecDepth 100000 in
theorem one1_calls (s s' : Scr) (cv tv gv : Value) (cf : FuncId) (hcf : Plain cf) (n : Int) (B1 B2 : Nat) (er : Int) (w0 w : World) (hV : ScrV w0 s cv tv gv) (hM : w0.heap.size ≤ w.heap.size) (h1 : w.cell? ⟨B1, 0, none⟩ = some (.func (.func cf) #[] #[])) (h2 : w.cell? ⟨B2, 0, none⟩ = some (.int .i64 n))
    (hC : ∀ W, Below w.heap.size w W → Calls Tryz.prog cf #[.agg (scrA s cv tv gv), .int .i64 n] W (Made w0 W s' er)) :
    Calls Tryz.prog 35 #[.agg (scrA s cv tv gv), .pointer (some ⟨B1, 0, none⟩), .pointer (some ⟨B2, 0, none⟩)] w (Made w0 w s' er) := by
  obtain ⟨ca, cc, rfl⟩ := hV.c.shape
  obtain ⟨ta, tc, rfl⟩ := hV.t.slice
  obtain ⟨ga, gc, rfl⟩ := hV.g.slice
  have hkb : Below w.heap.size w ((w.alloc (.cells (scrA s (.slice ca s.cs.length cc) (.slice ta s.tabs.length tc) (.slice ga s.gone.length gc)) 32)).alloc (.cells #[.int .i64 0, .int .i64 0, .slice none 0 0, .int .i64 0, .int .i64 0, .bool false, .int .i64 0, .int .i64 0, .int .i64 0, .int .i64 0, .int .i64 0, .int .i64 0, .slice none 0 0, .int .i64 0, .int .i64 0, .int .i64 0, .int .i64 0, .int .i64 0, .int .i64 0, .int .i32 0, .string ⟨#[]⟩, .slice none 0 0] 32)) := (((Below.refl _ _).alloc (by simp) _).alloc (by simp) _)
  have hx0 : (w.alloc (.cells (scrA s (.slice ca s.cs.length cc) (.slice ta s.tabs.length tc) (.slice ga s.gone.length gc)) 32)).heap[w.heap.size]? = some (.cells (scrA s (.slice ca s.cs.length cc) (.slice ta s.tabs.length tc) (.slice ga s.gone.length gc)) 32 (0, 0)) := by
    have h := heap_alloc_new w (.cells (scrA s (.slice ca s.cs.length cc) (.slice ta s.tabs.length tc) (.slice ga s.gone.length gc)) 32)
    have e : w.heap.size = w.heap.size := by simp
    rw [e] at h
    exact h
  have hx0 := (Below.heap_alloc (w.alloc (.cells (scrA s (.slice ca s.cs.length cc) (.slice ta s.tabs.length tc) (.slice ga s.gone.length gc)) 32)) (.cells #[.int .i64 0, .int .i64 0, .slice none 0 0, .int .i64 0, .int .i64 0, .bool false, .int .i64 0, .int .i64 0, .int .i64 0, .int .i64 0, .int .i64 0, .int .i64 0, .slice none 0 0, .int .i64 0, .int .i64 0, .int .i64 0, .int .i64 0, .int .i64 0, .int .i64 0, .int .i32 0, .string ⟨#[]⟩, .slice none 0 0] 32) _ (heap_lt hx0)).trans hx0
  have hx1 : ((w.alloc (.cells (scrA s (.slice ca s.cs.length cc) (.slice ta s.tabs.length tc) (.slice ga s.gone.length gc)) 32)).alloc (.cells #[.int .i64 0, .int .i64 0, .slice none 0 0, .int .i64 0, .int .i64 0, .bool false, .int .i64 0, .int .i64 0, .int .i64 0, .int .i64 0, .int .i64 0, .int .i64 0, .slice none 0 0, .int .i64 0, .int .i64 0, .int .i64 0, .int .i64 0, .int .i64 0, .int .i64 0, .int .i32 0, .string ⟨#[]⟩, .slice none 0 0] 32)).heap[w.heap.size + 1]? = some (.cells #[.int .i64 0, .int .i64 0, .slice none 0 0, .int .i64 0, .int .i64 0, .bool false, .int .i64 0, .int .i64 0, .int .i64 0, .int .i64 0, .int .i64 0, .int .i64 0, .slice none 0 0, .int .i64 0, .int .i64 0, .int .i64 0, .int .i64 0, .int .i64 0, .int .i64 0, .int .i32 0, .string ⟨#[]⟩, .slice none 0 0] 32 (0, 0)) := by
    have h := heap_alloc_new (w.alloc (.cells (scrA s (.slice ca s.cs.length cc) (.slice ta s.tabs.length tc) (.slice ga s.gone.length gc)) 32)) (.cells #[.int .i64 0, .int .i64 0, .slice none 0 0, .int .i64 0, .int .i64 0, .bool false, .int .i64 0, .int .i64 0, .int .i64 0, .int .i64 0, .int .i64 0, .int .i64 0, .slice none 0 0, .int .i64 0, .int .i64 0, .int .i64 0, .int .i64 0, .int .i64 0, .int .i64 0, .int .i32 0, .string ⟨#[]⟩, .slice none 0 0] 32)
    have e : (w.alloc (.cells (scrA s (.slice ca s.cs.length cc) (.slice ta s.tabs.length tc) (.slice ga s.gone.length gc)) 32)).heap.size = w.heap.size + 1 := by simp
    rw [e] at h
    exact h
  have HX0 : Hid _ := hx0
  have HXR : Hid _ := hx1
  have HKB : Hid _ := hkb
  have HC := hC _ hkb
  have q1 := cell_stay hkb h1
  have q2 := cell_stay hkb h2
  have hsz : w.heap.size ≤ ((w.alloc (.cells (scrA s (.slice ca s.cs.length cc) (.slice ta s.tabs.length tc) (.slice ga s.gone.length gc)) 32)).alloc (.cells #[.int .i64 0, .int .i64 0, .slice none 0 0, .int .i64 0, .int .i64 0, .bool false, .int .i64 0, .int .i64 0, .int .i64 0, .int .i64 0, .int .i64 0, .int .i64 0, .slice none 0 0, .int .i64 0, .int .i64 0, .int .i64 0, .int .i64 0, .int .i64 0, .int .i64 0, .int .i32 0, .string ⟨#[]⟩, .slice none 0 0] 32)).heap.size := hkb.size
  unfold Plain at hcf
  clear hkb hV hC hx0 hx1 h1 h2
  go_enter Tryz.func35, Tryz.ntmps35
  go_upto_region 1 with fail
  generalize ((w.alloc (.cells (scrA s (.slice ca s.cs.length cc) (.slice ta s.tabs.length tc) (.slice ga s.gone.length gc)) 32)).alloc (.cells #[.int .i64 0, .int .i64 0, .slice none 0 0, .int .i64 0, .int .i64 0, .bool false, .int .i64 0, .int .i64 0, .int .i64 0, .int .i64 0, .int .i64 0, .int .i64 0, .slice none 0 0, .int .i64 0, .int .i64 0, .int .i64 0, .int .i64 0, .int .i64 0, .int .i64 0, .int .i32 0, .string ⟨#[]⟩, .slice none 0 0] 32)) = X at *
  go_wp2_with (refine wpList_load_row rfl 32 (.tmp 3) rfl w.heap.size rfl _ _ _ _ HX0.out Tryz.underlying32 rfl (by kernel_rfl) ?_)
  refine HC.mono ?_
  rintro e V ⟨cv', tv', gv', rfl, hO, c2⟩
  obtain ⟨a1, n1, c1, a2, n2, c2', a3, n3, c3, rfl, rfl, rfl⟩ := hO.shapes
  have HO : Hid (ScrO V w0.heap.size _ s' _ _ _) := hO
  have HR : Hid (V.heap[w.heap.size + 1]? = _) := Grd.carry HXR.out c2
  have HB : Hid (Below w.heap.size w V) := HKB.out.trans (c2.mono HKB.out.size)
  clear hO c2 HC q1 q2
  go_wp2_with (refine wpList_store_row rfl 32 (.tmp 4) (.tmp 10) rfl (w.heap.size + 1) (scrA s' (.slice a1 n1 c1) (.slice a2 n2 c2') (.slice a3 n3 c3)) rfl rfl _ _ HR.out (by kernel_rfl) rfl (scr_one _ _ _ _ _ _ _ _ _ _) ?_)
  (try simp only [Exit.inBlock, Exit.then])
  refine bodyPost_ret (v := .tuple #[.agg (scrA s' (.slice a1 n1 c1) (.slice a2 n2 c2') (.slice a3 n3 c3)), .int .i64 er]) ?_ rfl ⟨_, _, _, rfl, ?_, below_setRow HB.out (by omega) _⟩
  · exact Grd.results_row_tmp rfl _ _ (w.heap.size + 1) _ _ _ _ rfl (setRow_heap _ _ _ _ _ _ HR.out) Tryz.underlying32 rfl (by kernel_rfl) _ rfl
  · exact (ScrO.off HO.out HR.out screen_is (by omega) fun k hk => setRow_other _ _ _ _ hk).mono hsz
set_option maxHeartbeats 2000000 in
set_option maxRecDepth 100000 in
theorem one_calls (s : Scr) (cv tv gv : Value) (cf : FuncId) (what : ByteArray) (n : Int) (w : World) (hV : ScrV w s cv tv gv)
    (hD : ∀ W B1 B2, Below w.heap.size w W → W.cell? ⟨B1, 0, none⟩ = some (.func (.func cf) #[] #[]) → W.cell? ⟨B2, 0, none⟩ = some (.int .i64 n) → Calls Tryz.prog 13 #[.agg (scrA s cv tv gv), .func (.func 35) #[] #[.pointer (some ⟨B1, 0, none⟩), .pointer (some ⟨B2, 0, none⟩)], .string what, .int .i64 n, .int .i64 0] W fun e w' => e = .returned (.bool true) ∧ Below W.heap.size W w') :
    Calls Tryz.prog 8 #[.agg (scrA s cv tv gv), .func (.func cf) #[] #[], .string what, .int .i64 n] w fun e w' => e = .returned (.bool true) ∧ Below w.heap.size w w' := by
  obtain ⟨ca, cc, rfl⟩ := hV.c.shape
  obtain ⟨ta, tc, rfl⟩ := hV.t.slice
  obtain ⟨ga, gc, rfl⟩ := hV.g.slice
  have hkb : Below w.heap.size w (((w.alloc (.cells (scrA s (.slice ca s.cs.length cc) (.slice ta s.tabs.length tc) (.slice ga s.gone.length gc)) 32)).alloc (.cells #[.func (.func cf) #[] #[]] 34)).alloc (.cells #[.int .i64 n] 3)) := ((((Below.refl _ _).alloc (by simp) _).alloc (by simp) _).alloc (by simp; omega) _)
  have hx0 : (w.alloc (.cells (scrA s (.slice ca s.cs.length cc) (.slice ta s.tabs.length tc) (.slice ga s.gone.length gc)) 32)).heap[w.heap.size]? = some (.cells (scrA s (.slice ca s.cs.length cc) (.slice ta s.tabs.length tc) (.slice ga s.gone.length gc)) 32 (0, 0)) := by
    have h := heap_alloc_new w (.cells (scrA s (.slice ca s.cs.length cc) (.slice ta s.tabs.length tc) (.slice ga s.gone.length gc)) 32)
    have e : w.heap.size = w.heap.size := by simp
    rw [e] at h
    exact h
  have hx0 := (Below.heap_alloc (w.alloc (.cells (scrA s (.slice ca s.cs.length cc) (.slice ta s.tabs.length tc) (.slice ga s.gone.length gc)) 32)) (.cells #[.func (.func cf) #[] #[]] 34) _ (heap_lt hx0)).trans hx0
  have hx0 := (Below.heap_alloc ((w.alloc (.cells (scrA s (.slice ca s.cs.length cc) (.slice ta s.tabs.length tc) (.slice ga s.gone.length gc)) 32)).alloc (.cells #[.func (.func cf) #[] #[]] 34)) (.cells #[.int .i64 n] 3) _ (heap_lt hx0)).trans hx0
  have hx1 : ((w.alloc (.cells (scrA s (.slice ca s.cs.length cc) (.slice ta s.tabs.length tc) (.slice ga s.gone.length gc)) 32)).alloc (.cells #[.func (.func cf) #[] #[]] 34)).heap[w.heap.size + 1]? = some (.cells #[.func (.func cf) #[] #[]] 34 (0, 0)) := by
    have h := heap_alloc_new (w.alloc (.cells (scrA s (.slice ca s.cs.length cc) (.slice ta s.tabs.length tc) (.slice ga s.gone.length gc)) 32)) (.cells #[.func (.func cf) #[] #[]] 34)
    have e : (w.alloc (.cells (scrA s (.slice ca s.cs.length cc) (.slice ta s.tabs.length tc) (.slice ga s.gone.length gc)) 32)).heap.size = w.heap.size + 1 := by simp
    rw [e] at h
    exact h
  have hx1 := (Below.heap_alloc ((w.alloc (.cells (scrA s (.slice ca s.cs.length cc) (.slice ta s.tabs.length tc) (.slice ga s.gone.length gc)) 32)).alloc (.cells #[.func (.func cf) #[] #[]] 34)) (.cells #[.int .i64 n] 3) _ (heap_lt hx1)).trans hx1
  have hx2 : (((w.alloc (.cells (scrA s (.slice ca s.cs.length cc) (.slice ta s.tabs.length tc) (.slice ga s.gone.length gc)) 32)).alloc (.cells #[.func (.func cf) #[] #[]] 34)).alloc (.cells #[.int .i64 n] 3)).heap[w.heap.size + 2]? = some (.cells #[.int .i64 n] 3 (0, 0)) := by
    have h := heap_alloc_new ((w.alloc (.cells (scrA s (.slice ca s.cs.length cc) (.slice ta s.tabs.length tc) (.slice ga s.gone.length gc)) 32)).alloc (.cells #[.func (.func cf) #[] #[]] 34)) (.cells #[.int .i64 n] 3)
    have e : ((w.alloc (.cells (scrA s (.slice ca s.cs.length cc) (.slice ta s.tabs.length tc) (.slice ga s.gone.length gc)) 32)).alloc (.cells #[.func (.func cf) #[] #[]] 34)).heap.size = w.heap.size + 2 := by simp
    rw [e] at h
    exact h
  have HX0 : Hid _ := hx0
  have HKB : Hid _ := hkb
  have HC := hD _ (w.heap.size + 1) (w.heap.size + 2) hkb (cell_box hx1) (cell_box hx2)
  have q2 := cell_box hx2
  clear hkb hV hD hx0 hx1 hx2
  go_enter Tryz.func8, Tryz.ntmps8
  go_upto_region 1 with fail
  generalize (((w.alloc (.cells (scrA s (.slice ca s.cs.length cc) (.slice ta s.tabs.length tc) (.slice ga s.gone.length gc)) 32)).alloc (.cells #[.func (.func cf) #[] #[]] 34)).alloc (.cells #[.int .i64 n] 3)) = X at *
  go_wp2_with (refine wpList_load_row rfl 32 (.tmp 4) rfl w.heap.size rfl _ _ _ _ HX0.out Tryz.underlying32 rfl (by kernel_rfl) ?_)
  refine HC.mono ?_
  rintro e V ⟨rfl, b⟩
  have HB : Hid (Below w.heap.size w V) := HKB.out.trans (b.mono HKB.out.size)
  clear HC b q2
  go_wp2_with fail
  go_ret
  exact ⟨rfl, HB.out⟩
theorem plain_one : Plain 35 := by
  intro args W
  kernel_rfl
/-- What a call makes, and what is to be done, of a right screen. -/
def Agrees (what : ByteArray) (n m : Int) (s s' : Scr) (nn hh : Nat) : Prop := Small s' ∧ ∃ s2 rows2, ActMakes what n m s s2 (rowsL nn s.cs hh) rows2 ∧ rows2.length = hh ∧ (∀ i, i < rows2.length → (rows2.getD i []).length = nn) ∧ { s2 with w := (nn : Int), h := (hh : Int), cs := rows2.flatten } = s'
/-- A call, by a name. -/
theorem acts_any (s : Scr) (cv tv gv : Value) (cf : FuncId) (hcf : Plain cf) (ccaps : Array Value) (what : ByteArray) (n m : Int) (w : World) (hT : Txt.Tab w) (hV : ScrV w s cv tv gv) (hB : Bulk s) (s' : Scr)
    (hbad : scrErr s ≠ 0 → ∀ w0 W cv tv gv, Below w.heap.size w w0 → Met w0 W s cv tv gv → Calls Tryz.prog cf (#[.agg (scrA s cv tv gv)] ++ ccaps) W (Made w0 W zScr (scrErr s)))
    (hgood : ∀ nn hh, RightS s nn hh → (∀ w0 W cv tv gv, Below w.heap.size w w0 → Met w0 W s cv tv gv → Calls Tryz.prog cf (#[.agg (scrA s cv tv gv)] ++ ccaps) W (Made w0 W s' 0)) ∧ Agrees what n m s s' nn hh) :
    Calls Tryz.prog 13 #[.agg (scrA s cv tv gv), .func (.func cf) #[] ccaps, .string what, .int .i64 n, .int .i64 m] w fun e w' => e = .returned (.bool true) ∧ Below w.heap.size w w' :=
  acts_calls s cv tv gv _ what n m w hV fun W B1 B2 B3 hW h1 h2 h3 => by
    by_cases hz : scrErr s = 0
    · obtain ⟨nn, hh, hR⟩ := right_of s hz
      obtain ⟨hc, hS, s2, rows2, hA, hrl, hrn, heq⟩ := hgood nn hh hR
      exact does_good s s' s2 nn hh rows2 cv tv gv cf _ ccaps _ hcf plain_acts W (Grd.Tab.next hT hW) (hV.next hW) hB hR hz hS (acts1_acts hA B1 B2 B3 W h1 h2 h3) hrl hrn heq fun w0 W' cv' tv' gv' hb hm => hc w0 W' cv' tv' gv' (hW.trans (hb.mono hW.size)) hm
    · exact does_bad s cv tv gv cf ccaps _ hcf W (Grd.Tab.next hT hW) (hV.next hW) hB hz fun w0 W' cv' tv' gv' hb hm => hbad hz w0 W' cv' tv' gv' (hW.trans (hb.mono hW.size)) hm
/-- A call with one number, by a name. -/
theorem one_any (s : Scr) (cv tv gv : Value) (cf : FuncId) (hcf : Plain cf) (what : ByteArray) (n : Int) (w : World) (hT : Txt.Tab w) (hV : ScrV w s cv tv gv) (hB : Bulk s) (s' : Scr)
    (hbad : scrErr s ≠ 0 → ∀ w0 W cv tv gv, Met w0 W s cv tv gv → Calls Tryz.prog cf #[.agg (scrA s cv tv gv), .int .i64 n] W (Made w0 W zScr (scrErr s)))
    (hgood : ∀ nn hh, RightS s nn hh → (∀ w0 W cv tv gv, Met w0 W s cv tv gv → Calls Tryz.prog cf #[.agg (scrA s cv tv gv), .int .i64 n] W (Made w0 W s' 0)) ∧ Agrees what n 0 s s' nn hh) :
    Calls Tryz.prog 8 #[.agg (scrA s cv tv gv), .func (.func cf) #[] #[], .string what, .int .i64 n] w fun e w' => e = .returned (.bool true) ∧ Below w.heap.size w w' :=
  one_calls s cv tv gv cf what n w hV fun W B1 B2 hW h1 h2 =>
    acts_any s cv tv gv _ plain_one _ what n 0 W (Grd.Tab.next hT hW) (hV.next hW) hB s'
      (fun hz w0 W' cv' tv' gv' hb hm => one1_calls s zScr cv' tv' gv' cf hcf n B1 B2 _ w0 W' hm.v hm.b.size (cell_stay (hb.trans (hm.b.mono hb.size)) h1) (cell_stay (hb.trans (hm.b.mono hb.size)) h2) fun V hV' => hbad hz w0 V cv' tv' gv' (hm.next hV'))
      (fun nn hh hR => ⟨fun w0 W' cv' tv' gv' hb hm => one1_calls s s' cv' tv' gv' cf hcf n B1 B2 _ w0 W' hm.v hm.b.size (cell_stay (hb.trans (hm.b.mono hb.size)) h1) (cell_stay (hb.trans (hm.b.mono hb.size)) h2) fun V hV' => (hgood nn hh hR).1 w0 V cv' tv' gv' (hm.next hV'), (hgood nn hh hR).2⟩)
end Put
end Go.Proofs.YtgfhkdiknpnccaaGreatDoor

/- Modes that are set and cleared: what is done, and what the reference does. -/
namespace Go.Proofs.YtgfhkdiknpnccaaGreatDoor
open Go.ChangeShapes Go.WideShapes Go.ChangeAt Go.RowKit
namespace Put
open Grd (C)
/-- The cursor goes to the first cell. -/
def homeS (s : Scr) : Scr := { s with x := 0, y := if hasB s.modes 2 then s.top else 0, late := false }
/-- Modes, with bits set or cleared. -/
def modesI (m b : Int) (on : Bool) : Int := if on then bits .or .i64 (bits .andNot .i64 m b) b else bits .andNot .i64 m b
def homeIf (b : Int) (s : Scr) : Scr := if bits .and .i64 b 2 = 0 then s else homeS s
def lateIf (s : Scr) : Scr := { s with late := s.late && hasB s.modes 4 }
/-- Set. -/
def setS (s : Scr) (b : Int) (on : Bool) : Scr := lateIf (homeIf b { s with modes := modesI s.modes b on })
/-- The reference's modes. -/
def modesR (m b : Int) (on : Bool) : Int := if on then bits .or .i64 m b else bits .and .i64 m (63 - b)
theorem mode_nums (m b : Int) (hm0 : 0 ≤ m) (hm1 : m ≤ 63) (hb0 : 0 ≤ b) (hb1 : b ≤ 63) :
    bits .or .i64 (bits .andNot .i64 m b) b = bits .or .i64 m b ∧ bits .andNot .i64 m b = bits .and .i64 m (63 - b) ∧
    (bits .and .i64 b 2 ≠ 0 → hasB (bits .or .i64 m b) 2 = true ∧ hasB (bits .and .i64 m (63 - b)) 2 = false) ∧
    hasB (bits .or .i64 m b) 4 = !(bits .and .i64 (bits .or .i64 m b) 4 == 0) ∧ hasB (bits .and .i64 m (63 - b)) 4 = !(bits .and .i64 (bits .and .i64 m (63 - b)) 4 == 0) := by
  have key : ∀ k : Fin 64, ∀ j : Fin 64, 
    bits .or .i64 (bits .andNot .i64 (k.val : Int) (j.val : Int)) (j.val : Int) = bits .or .i64 (k.val : Int) (j.val : Int) ∧ bits .andNot .i64 (k.val : Int) (j.val : Int) = bits .and .i64 (k.val : Int) (63 - (j.val : Int)) ∧
    (bits .and .i64 (j.val : Int) 2 ≠ 0 → hasB (bits .or .i64 (k.val : Int) (j.val : Int)) 2 = true ∧ hasB (bits .and .i64 (k.val : Int) (63 - (j.val : Int))) 2 = false) ∧
    hasB (bits .or .i64 (k.val : Int) (j.val : Int)) 4 = !(bits .and .i64 (bits .or .i64 (k.val : Int) (j.val : Int)) 4 == 0) ∧ hasB (bits .and .i64 (k.val : Int) (63 - (j.val : Int))) 4 = !(bits .and .i64 (bits .and .i64 (k.val : Int) (63 - (j.val : Int))) 4 == 0) := by decide +kernel
  have h := key ⟨m.toNat, by omega⟩ ⟨b.toNat, by omega⟩
  have e1 : ((m.toNat : Nat) : Int) = m := by omega
  have e2 : ((b.toNat : Nat) : Int) = b := by omega
  simp only [e1, e2] at h
  exact h
theorem and63 (n : Int) : 0 ≤ bits .and .i64 n 63 ∧ bits .and .i64 n 63 ≤ 63 := by
  have h : bits .and .i64 n 63 = IntKind.i64.wrap ((BitVec.ofInt 64 n &&& 63#64).toNat : Int) := rfl
  have h2 : (BitVec.ofInt 64 n &&& 63#64).toNat ≤ 63 := by
    rw [BitVec.toNat_and]
    exact Nat.and_le_right
  rw [h, wrap_id _ (by omega) (by omega)]
  omega
/-- Set, as the reference has it. -/
def setR (s : Scr) (b : Int) (on : Bool) : Scr :=
  let s1 := { s with modes := modesR s.modes b on }
  let s2 := if bits .and .i64 b 2 = 0 then s1 else { s1 with x := 0, y := if on then s.top else 0, late := false }
  { s2 with late := s2.late && !(bits .and .i64 (modesR s.modes b on) 4 == 0) }
theorem setR_same (s : Scr) (b : Int) (on : Bool) (hm0 : 0 ≤ s.modes) (hm1 : s.modes ≤ 63) (hb0 : 0 ≤ b) (hb1 : b ≤ 63) : setR s b on = setS s b on := by
  obtain ⟨h1, h2, h3, h4, h5⟩ := mode_nums s.modes b hm0 hm1 hb0 hb1
  cases on with
  | true =>
    simp only [setR, setS, lateIf, homeIf, homeS, modesI, modesR, if_true, h1]
    by_cases hz : bits .and .i64 b 2 = 0
    · rw [if_pos hz, if_pos hz]
      simp only [h4]
    · rw [if_neg hz, if_neg hz]
      simp only [(h3 hz).1, if_true, h4]
  | false =>
    simp only [setR, setS, lateIf, homeIf, homeS, modesI, modesR, h2, Bool.false_eq_true, if_false]
    by_cases hz : bits .and .i64 b 2 = 0
    · rw [if_pos hz, if_pos hz]
      simp only [h5]
    · rw [if_neg hz, if_neg hz]
      simp only [(h3 hz).2, Bool.false_eq_true, if_false, h5]
theorem homeIf_same (b : Int) (s : Scr) : (homeIf b s).gone = s.gone ∧ (homeIf b s).tabs = s.tabs ∧ (homeIf b s).cs = s.cs ∧ (homeIf b s).w = s.w ∧ (homeIf b s).h = s.h ∧ (homeIf b s).modes = s.modes := by
  unfold homeIf homeS
  split <;> exact ⟨rfl, rfl, rfl, rfl, rfl, rfl⟩
theorem setS_same (s : Scr) (b : Int) (on : Bool) : (setS s b on).gone = s.gone ∧ (setS s b on).tabs = s.tabs ∧ (setS s b on).cs = s.cs ∧ (setS s b on).w = s.w ∧ (setS s b on).h = s.h := by
  obtain ⟨h1, h2, h3, h4, h5, -⟩ := homeIf_same b { s with modes := modesI s.modes b on }
  exact ⟨h1, h2, h3, h4, h5⟩
/-- Save. -/
def saveS (s : Scr) : Scr := { s with kx := s.x, ky := s.y, kf := s.sf, kb := s.sb, kbits := s.sx, km := bits .and .i64 s.modes 6 }
/-- Restore. -/
def restS (s : Scr) : Scr := { s with x := s.kx, y := s.ky, sf := s.kf, sb := s.kb, sx := s.kbits, late := false, modes := bits .or .i64 (bits .andNot .i64 s.modes 6) s.km }
/-- Restore, as the reference has it. -/
def restR (s : Scr) : Scr := { s with x := s.kx, y := s.ky, sf := s.kf, sb := s.kb, sx := s.kbits, late := false, modes := bits .and .i64 s.modes 57 + s.km }
theorem rest_nums (m k : Int) (hm0 : 0 ≤ m) (hm1 : m ≤ 63) (hk : keptOk k = true) : bits .or .i64 (bits .andNot .i64 m 6) k = bits .and .i64 m 57 + k ∧ 0 ≤ bits .and .i64 m 57 + k ∧ bits .and .i64 m 57 + k ≤ 63 := by
  have key : ∀ j : Fin 64, ∀ k : Fin 7, keptOk (k.val : Int) = true → bits .or .i64 (bits .andNot .i64 (j.val : Int) 6) (k.val : Int) = bits .and .i64 (j.val : Int) 57 + (k.val : Int) ∧ 0 ≤ bits .and .i64 (j.val : Int) 57 + (k.val : Int) ∧ bits .and .i64 (j.val : Int) 57 + (k.val : Int) ≤ 63 := by decide +kernel
  have hk2 : k = 0 ∨ k = 2 ∨ k = 4 ∨ k = 6 := by simpa [keptOk] using hk
  have h := key ⟨m.toNat, by omega⟩ ⟨k.toNat, by omega⟩
  have e1 : ((m.toNat : Nat) : Int) = m := by omega
  have e2 : ((k.toNat : Nat) : Int) = k := by omega
  simp only [e1, e2] at h
  exact h hk
end Put
end Go.Proofs.YtgfhkdiknpnccaaGreatDoor

/- Package sheet: Home. -/
namespace Go.Proofs.YtgfhkdiknpnccaaGreatDoor
open Go.ChangeShapes Go.WideShapes Go.ChangeAt Go.RowKit
namespace Put
open Grd (C)
set_option maxHeartbeats 4000000 in
theorem home_any {M N p : Nat} {s : Scr} {rows : List (List C)} (W : World) (hS : ShAt 59 W M N p s rows) :
    Calls Tryz.prog 53 #[.pointer (some ⟨p, 0, none⟩)] W fun e W' => e = .returned (.tuple #[]) ∧ ShAt 59 W' M N p (homeS s) rows ∧ Below N W W' := by
  have HR : Hid (homeS s = { s with x := 0, y := if hasB s.modes 2 then s.top else 0, late := false }) := rfl
  generalize homeS s = s' at *
  have k3 : ShAt 59 (W.setCell ⟨p, 3, none⟩ (.int .i64 0)) M N p { s with x := 0 } rows := hS.set sheet_is 3 _ (fun _ _ _ _ => rfl) rfl rfl
  have k4 : ShAt 59 ((W.setCell ⟨p, 3, none⟩ (.int .i64 0)).setCell ⟨p, 4, none⟩ (.int .i64 0)) M N p { s with x := 0, y := 0 } rows := k3.set sheet_is 4 _ (fun _ _ _ _ => rfl) rfl rfl
  have k5 : ShAt 59 (((W.setCell ⟨p, 3, none⟩ (.int .i64 0)).setCell ⟨p, 4, none⟩ (.int .i64 0)).setCell ⟨p, 5, none⟩ (.bool false)) M N p { s with x := 0, y := 0, late := false } rows := k4.set sheet_is 5 _ (fun _ _ _ _ => rfl) rfl rfl
  have hlo := hS.lo
  have HB5 : Hid (Below N W (((W.setCell ⟨p, 3, none⟩ (.int .i64 0)).setCell ⟨p, 4, none⟩ (.int .i64 0)).setCell ⟨p, 5, none⟩ (.bool false))) := (((Below.refl _ _).setCell hlo _).setCell hlo _).setCell hlo _
  have HK5 : Hid (ShAt 59 (((W.setCell ⟨p, 3, none⟩ (.int .i64 0)).setCell ⟨p, 4, none⟩ (.int .i64 0)).setCell ⟨p, 5, none⟩ (.bool false)) M N p { s with x := 0, y := 0, late := false } rows) := k5
  have HH := has_any 2 _ k5
  obtain ⟨c0, c1, c3, c4, c5, c9, c10, c11, c19, f⟩ := hS.words
  have f3 := f 3
  have f4 := f 4
  have f5 := f 5
  clear k3 k4 k5 hS f c0 c1 c11 c19 c9 c10
  go_enter Tryz.func53, Tryz.ntmps53
  go_wp2_with fail
  refine HH.mono ?_
  rintro e V ⟨rfl, hv⟩
  subst hv
  clear HH f3 f4 f5 c3 c4 c5
  generalize (((W.setCell ⟨p, 3, none⟩ (.int .i64 0)).setCell ⟨p, 4, none⟩ (.int .i64 0)).setCell ⟨p, 5, none⟩ (.bool false)) = Y at *
  cases hmo : hasB s.modes 2 with
  | false =>
    have HE2 : Hid (s' = { s with x := 0, y := 0, late := false }) := by unfold Hid; rw [HR.out, hmo]; rfl
    go_wp2_with fail
    go_end0
    rw [HE2.out]
    exact ⟨rfl, HK5.out, HB5.out⟩
  | true =>
    have HE2 : Hid (s' = { s with x := 0, y := s.top, late := false }) := by unfold Hid; rw [HR.out, hmo]; rfl
    have k6 : ShAt 59 (Y.setCell ⟨p, 4, none⟩ (.int .i64 s.top)) M N p { s with x := 0, y := s.top, late := false } rows := ShAt.set sheet_is HK5.out 4 _ (fun _ _ _ _ => rfl) rfl rfl
    have HK6 : Hid (ShAt 59 (Y.setCell ⟨p, 4, none⟩ (.int .i64 s.top)) M N p { s with x := 0, y := s.top, late := false } rows) := k6
    obtain ⟨c0, c1, c3, c4, c5, c9, c10, c11, c19, f⟩ := ShAt.words HK5.out
    have f4 := f 4
    clear k6 f c0 c1 c3 c5 c10 c11 c19
    go_wp2_with fail
    go_end0
    rw [HE2.out]
    exact ⟨rfl, HK6.out, HB5.out.setCell hlo _⟩
end Put
end Go.Proofs.YtgfhkdiknpnccaaGreatDoor

/- Package shift: Region's closure. -/
namespace Go.Proofs.YtgfhkdiknpnccaaGreatDoor
open Go.ChangeShapes Go.WideShapes Go.ChangeAt Go.RowKit
namespace Put
open Grd (C)
def lastI (h b : Int) : Int := if b < 1 ∨ h < b then h - 1 else b - 1
def mayB (h a b : Int) : Bool := decide (a < b) || (decide (a = b) && decide (h = 1))
/-- The rows that scroll are chosen. -/
def regS (s : Scr) (a b : Int) : Scr :=
  if mayB s.h (max a 1 - 1) (lastI s.h b) then { s with top := max a 1 - 1, bot := lastI s.h b, x := 0, y := if hasB s.modes 2 then max a 1 - 1 else 0, late := false } else s
set_option maxHeartbeats 1000000 in
theorem lastRow_any {M N p : Nat} {s : Scr} {rows : List (List C)} (b : Int) (W : World) (hS : ShAt 59 W M N p s rows) (h1 : 1 ≤ s.h) (h2 : s.h ≤ 60) :
    Calls Tryz.prog 51 #[.pointer (some ⟨p, 0, none⟩), .int .i64 b] W fun e W' => e = .returned (.int .i64 (lastI s.h b)) ∧ W = W' := by
  obtain ⟨c0, c1, c3, c4, c5, c9, c10, c11, c19, f⟩ := hS.words
  have HE : Hid (lastI s.h b = if b < 1 ∨ s.h < b then s.h - 1 else b - 1) := rfl
  have hwr : IntKind.i64.wrap (s.h - 1) = s.h - 1 := wrap_id _ (by omega) (by omega)
  clear hS c0 c3 c4 c5 c9 c10 c11 c19 f
  generalize lastI s.h b = v at *
  by_cases hb : b < 1
  · have HV : Hid (s.h - 1 = v) := by unfold Hid; rw [HE.out, if_pos (.inl hb)]
    go_enter Tryz.func51, Tryz.ntmps51
    go_wp2_with fail
    go_ret
    exact ⟨ret_int HV.out, rfl⟩
  · by_cases hc : s.h < b
    · have HV : Hid (s.h - 1 = v) := by unfold Hid; rw [HE.out, if_pos (.inr hc)]
      go_enter Tryz.func51, Tryz.ntmps51
      go_wp2_with fail
      go_ret
      exact ⟨ret_int HV.out, rfl⟩
    · have HV : Hid (b - 1 = v) := by unfold Hid; rw [HE.out, if_neg (by omega)]
      have hwb : IntKind.i64.wrap (b - 1) = b - 1 := wrap_id _ (by omega) (by omega)
      go_enter Tryz.func51, Tryz.ntmps51
      go_wp2_with fail
      go_ret
      exact ⟨ret_int HV.out, rfl⟩
set_option maxHeartbeats 1000000 in
theorem mayScroll_any {M N p : Nat} {s : Scr} {rows : List (List C)} (a b : Int) (W : World) (hS : ShAt 59 W M N p s rows) :
    Calls Tryz.prog 52 #[.pointer (some ⟨p, 0, none⟩), .int .i64 a, .int .i64 b] W fun e W' => e = .returned (.bool (mayB s.h a b)) ∧ W = W' := by
  obtain ⟨c0, c1, c3, c4, c5, c9, c10, c11, c19, f⟩ := hS.words
  clear hS c0 c3 c4 c5 c9 c10 c11 c19 f
  unfold mayB
  by_cases h1 : a < b
  · go_enter Tryz.func52, Tryz.ntmps52
    go_wp2_with fail
    go_ret
    exact ⟨Sty.ret_bool (by simp [h1]), rfl⟩
  · by_cases h2 : a = b
    · have n2 : (a == b) = true := by simpa using h2
      have H2 : Hid (a = b) := h2
      clear h2
      go_enter Tryz.func52, Tryz.ntmps52
      go_wp2_with fail
      go_ret
      exact ⟨Sty.ret_bool (by rw [Bool.eq_iff_iff]; simp [H2.out]), rfl⟩
    · have n2 : (a == b) = false := by simpa using h2
      have H1 : Hid (¬ a < b) := h1
      have H2 : Hid (¬ a = b) := h2
      clear h2
      go_enter Tryz.func52, Tryz.ntmps52
      go_wp2_with fail
      go_ret
      exact ⟨Sty.ret_bool (by rw [Bool.eq_iff_iff]; simp [H1.out, H2.out]), rfl⟩
set_option maxHeartbeats 4000000 in
theorem region_does (a b : Int) (B1 B2 M : Nat) (w : World) (s : Scr) (rows : List (List C)) (hB1 : w.cell? ⟨B1, 0, none⟩ = some (.int .i64 a)) (hB2 : w.cell? ⟨B2, 0, none⟩ = some (.int .i64 b)) (h1 : 1 ≤ s.h) (h2 : s.h ≤ 60) (ha : a ≤ 9223372036854775807) :
    Does 50 #[.pointer (some ⟨B1, 0, none⟩), .pointer (some ⟨B2, 0, none⟩)] M w s (regS s a b) rows rows := by
  intro W p hb hS
  have q1 := cell_stay hb hB1
  have q2 := cell_stay hb hB2
  have HL : Hid (∀ W', ShAt 59 W' M w.heap.size p s rows → Calls Tryz.prog 51 #[.pointer (some ⟨p, 0, none⟩), .int .i64 b] W' fun e W'' => e = .returned (.int .i64 (lastI s.h b)) ∧ W' = W'') := fun W' h => lastRow_any b W' h h1 h2
  have HM : Hid (∀ W' x y, ShAt 59 W' M w.heap.size p s rows → Calls Tryz.prog 52 #[.pointer (some ⟨p, 0, none⟩), .int .i64 x, .int .i64 y] W' fun e W'' => e = .returned (.bool (mayB s.h x y)) ∧ W' = W'') := fun W' x y h => mayScroll_any x y W' h
  have hmx := Grd.max2 a 1
  have hmx1 : 1 ≤ max a 1 := by omega
  have hmx2 : max a 1 ≤ 9223372036854775807 := by omega
  have hws : IntKind.i64.wrap (max a 1 - 1) = max a 1 - 1 := wrap_id _ (by omega) (by omega)
  have HSd : Hid (ShAt 59 W.drew M w.heap.size p s rows) := hS.drew
  have HR : Hid (regS s a b = if mayB s.h (max a 1 - 1) (lastI s.h b) then { s with top := max a 1 - 1, bot := lastI s.h b, x := 0, y := if hasB s.modes 2 then max a 1 - 1 else 0, late := false } else s) := rfl
  generalize regS s a b = s' at *
  have HL2 := HL.out _ HSd.out
  have SK : Hid (∀ w', Below W.heap.size W w' → Below W.heap.size W w' ∧ w'.cell? ⟨B1, 0, none⟩ = some (.int .i64 a) ∧ w'.cell? ⟨B2, 0, none⟩ = some (.int .i64 b)) := fun w' h => ⟨h, cell_stay h q1, cell_stay h q2⟩
  have b0 : Below W.heap.size W W.drew := (Below.refl _ _).drew
  have HNX : Hid (∀ V, Below W.heap.size W V → ShAt 59 V M w.heap.size p s rows ∧ Below w.heap.size W V) := fun V h => ⟨hS.next h, h.mono hb.size⟩
  clear hS hB1 hB2 HSd
  go_enter Tryz.func50, Tryz.ntmps50
  go_upto_region 0 with fail
  go_region_held3 (fun w' => Below W.heap.size W w' ∧ w'.cell? ⟨B1, 0, none⟩ = some (.int .i64 a) ∧ w'.cell? ⟨B2, 0, none⟩ = some (.int .i64 b))
    (first | exact SK.out _ b0)
    (first | (go_at_call 51; refine HL2.mono ?_; rintro e V ⟨rfl, hv⟩; subst hv))
  all_goals (
    obtain ⟨HSX, HBX⟩ := HNX.out _ b0
    clear SK HL HL2 HNX q1 q2 hws hmx
    generalize W.drew = X at *
    generalize max a 1 - 1 = fr at *
    generalize lastI s.h b = la at *
    have HM2 := HM.out X fr la HSX
    clear HM
    cases hmy : mayB s.h fr la with
    | false =>
      have HE : Hid (s' = s) := by unfold Hid; rw [HR.out, hmy]; rfl
      rw [hmy] at HM2
      clear HR
      go_wp2_with fail
      refine HM2.mono ?_
      rintro e V ⟨rfl, hv⟩
      subst hv
      go_wp2_with fail
      (try simp only [Exit.inBlock, Exit.then])
      refine bodyPost_ret (v := .tuple #[]) (results_none rfl _ _ _) rfl ⟨rfl, ?_, HBX⟩
      rw [HE.out]
      exact HSX
    | true =>
      have HE : Hid (s' = { s with top := fr, bot := la, x := 0, y := if hasB s.modes 2 then fr else 0, late := false }) := by unfold Hid; rw [HR.out, hmy]; rfl
      rw [hmy] at HM2
      have k1 : ShAt 59 (X.setCell ⟨p, 9, none⟩ (.int .i64 fr)) M w.heap.size p { s with top := fr } rows := HSX.set sheet_is 9 _ (fun _ _ _ _ => rfl) rfl rfl
      have k2 : ShAt 59 ((X.setCell ⟨p, 9, none⟩ (.int .i64 fr)).setCell ⟨p, 10, none⟩ (.int .i64 la)) M w.heap.size p { s with top := fr, bot := la } rows := k1.set sheet_is 10 _ (fun _ _ _ _ => rfl) rfl rfl
      have HB2 : Hid (Below w.heap.size W ((X.setCell ⟨p, 9, none⟩ (.int .i64 fr)).setCell ⟨p, 10, none⟩ (.int .i64 la))) := (HBX.setCell HSX.lo _).setCell HSX.lo _
      have HH := home_any _ k2
      obtain ⟨c0, c1, c3, c4, c5, c9, c10, c11, c19, f⟩ := HSX.words
      have f9 := f 9
      have f10 := f 10
      clear k1 k2 HR HSX HBX f c0 c1 c3 c4 c5 c11 c19
      go_wp2_with fail
      refine HM2.mono ?_
      rintro e V ⟨rfl, hv⟩
      subst hv
      go_wp2_with fail
      refine HH.mono ?_
      rintro e V ⟨rfl, hk, hbv⟩
      clear HH HM2 f9 f10 c9 c10
      go_wp2_with fail
      go_end0
      rw [HE.out]
      exact ⟨rfl, hk, HB2.out.trans hbv⟩)
end Put
end Go.Proofs.YtgfhkdiknpnccaaGreatDoor

/- Act: region. -/
namespace Go.Proofs.YtgfhkdiknpnccaaGreatDoor
open Go.ChangeShapes Go.WideShapes Go.ChangeAt Go.RowKit
namespace Put
open Grd (C SliceAt CellsAt gridErr z0 nilV rowsL RowsAt RowB flat)
theorem DkAt.five {W : World} {N p : Nat} {s : Scr} {rows : List (List C)} (h : DkAt W N p s rows) (a b : Int) :
    DkAt (((((W.setCell ⟨p, 9, none⟩ (.int .i64 a)).setCell ⟨p, 10, none⟩ (.int .i64 b)).setCell ⟨p, 3, none⟩ (.int .i64 0)).setCell ⟨p, 4, none⟩ (.int .i64 0)).setCell ⟨p, 5, none⟩ (.bool false)) N p { s with top := a, bot := b, x := 0, y := 0, late := false } rows ∧ Below N W (((((W.setCell ⟨p, 9, none⟩ (.int .i64 a)).setCell ⟨p, 10, none⟩ (.int .i64 b)).setCell ⟨p, 3, none⟩ (.int .i64 0)).setCell ⟨p, 4, none⟩ (.int .i64 0)).setCell ⟨p, 5, none⟩ (.bool false)) := by
  have h1 : DkAt (W.setCell ⟨p, 9, none⟩ (.int .i64 a)) N p { s with top := a } rows := h.set 9 _ (fun _ _ _ _ => rfl) rfl rfl
  have h2 : DkAt ((W.setCell ⟨p, 9, none⟩ (.int .i64 a)).setCell ⟨p, 10, none⟩ (.int .i64 b)) N p { s with top := a, bot := b } rows := h1.set 10 _ (fun _ _ _ _ => rfl) rfl rfl
  have h3 : DkAt (((W.setCell ⟨p, 9, none⟩ (.int .i64 a)).setCell ⟨p, 10, none⟩ (.int .i64 b)).setCell ⟨p, 3, none⟩ (.int .i64 0)) N p { s with top := a, bot := b, x := 0 } rows := h2.set 3 _ (fun _ _ _ _ => rfl) rfl rfl
  have h4 : DkAt ((((W.setCell ⟨p, 9, none⟩ (.int .i64 a)).setCell ⟨p, 10, none⟩ (.int .i64 b)).setCell ⟨p, 3, none⟩ (.int .i64 0)).setCell ⟨p, 4, none⟩ (.int .i64 0)) N p { s with top := a, bot := b, x := 0, y := 0 } rows := h3.set 4 _ (fun _ _ _ _ => rfl) rfl rfl
  exact ⟨h4.set 5 _ (fun _ _ _ _ => rfl) rfl rfl, (((((Below.refl _ _).setCell h.lo _).setCell h.lo _).setCell h.lo _).setCell h.lo _).setCell h.lo _⟩
set_option maxHeartbeats 8000000 in
set_option maxRecDepth 100000 in
theorem act_region_a (n m : Int) (s : Scr) (rows : List (List C)) (w3 : 1 ≤ s.h) (w4 : s.h ≤ 60) (hn : n ≤ 9223372036854775807) (hb : hasB s.modes 2 = !(bits .and .i64 s.modes 2 == 0)) (hm1 : m ≤ 0) : ActMakes ⟨#[114, 101, 103, 105, 111, 110]⟩ n m s (regS s n m) rows rows := by
  intro N W p hN hD
  obtain ⟨c0, c1, c3, c4, c5, c9, c10, c11, c19, f⟩ := hD.words
  have f3 := f 3
  have f4 := f 4
  have f5 := f 5
  have f9 := f 9
  have f10 := f 10
  have hmx := Grd.max2 n 1
  have hws : IntKind.i64.wrap (max n 1 - 1) = max n 1 - 1 := wrap_id _ (by omega) (by omega)
  have hwh : IntKind.i64.wrap (s.h - 1) = s.h - 1 := wrap_id _ (by omega) (by omega)
  have hL : lastI s.h m = (s.h - 1) := by unfold lastI; rw [if_pos (.inl (by omega))]
  have HR : Hid (regS s n m = if mayB s.h (max n 1 - 1) (s.h - 1) then { s with top := max n 1 - 1, bot := (s.h - 1), x := 0, y := if hasB s.modes 2 then max n 1 - 1 else 0, late := false } else s) := by unfold Hid regS; rw [hL]
  have HM : Hid (mayB s.h (max n 1 - 1) (s.h - 1) = (decide (max n 1 - 1 < (s.h - 1)) || (decide (max n 1 - 1 = (s.h - 1)) && decide (s.h = 1)))) := rfl
  have H5 : Hid (DkAt (((((W.setCell ⟨p, 9, none⟩ (.int .i64 (max n 1 - 1))).setCell ⟨p, 10, none⟩ (.int .i64 (s.h - 1))).setCell ⟨p, 3, none⟩ (.int .i64 0)).setCell ⟨p, 4, none⟩ (.int .i64 0)).setCell ⟨p, 5, none⟩ (.bool false)) N p { s with top := max n 1 - 1, bot := (s.h - 1), x := 0, y := 0, late := false } rows ∧ Below N W (((((W.setCell ⟨p, 9, none⟩ (.int .i64 (max n 1 - 1))).setCell ⟨p, 10, none⟩ (.int .i64 (s.h - 1))).setCell ⟨p, 3, none⟩ (.int .i64 0)).setCell ⟨p, 4, none⟩ (.int .i64 0)).setCell ⟨p, 5, none⟩ (.bool false))) := hD.five (max n 1 - 1) (s.h - 1)
  have HD : Hid (DkAt W N p s rows) := hD
  have HLO : Hid (N ≤ p) := hD.lo
  generalize regS s n m = s' at *
  generalize mayB s.h (max n 1 - 1) (s.h - 1) = mb at *
  clear hD c0 c19 f hL
  have HNO : Hid (mb = false → DkAt W N p s' rows ∧ Below N W W) := fun e => by rw [HR.out, e]; exact ⟨HD.out, Below.refl _ _⟩
  have HYS : Hid (mb = true → bits .and .i64 s.modes 2 = 0 → DkAt (((((W.setCell ⟨p, 9, none⟩ (.int .i64 (max n 1 - 1))).setCell ⟨p, 10, none⟩ (.int .i64 (s.h - 1))).setCell ⟨p, 3, none⟩ (.int .i64 0)).setCell ⟨p, 4, none⟩ (.int .i64 0)).setCell ⟨p, 5, none⟩ (.bool false)) N p s' rows ∧ Below N W (((((W.setCell ⟨p, 9, none⟩ (.int .i64 (max n 1 - 1))).setCell ⟨p, 10, none⟩ (.int .i64 (s.h - 1))).setCell ⟨p, 3, none⟩ (.int .i64 0)).setCell ⟨p, 4, none⟩ (.int .i64 0)).setCell ⟨p, 5, none⟩ (.bool false))) := fun e q => by
    have e2 : hasB s.modes 2 = false := by rw [hb, q]; rfl
    rw [HR.out, e, e2]
    exact H5.out
  have HYT : Hid (mb = true → bits .and .i64 s.modes 2 ≠ 0 → DkAt ((((((W.setCell ⟨p, 9, none⟩ (.int .i64 (max n 1 - 1))).setCell ⟨p, 10, none⟩ (.int .i64 (s.h - 1))).setCell ⟨p, 3, none⟩ (.int .i64 0)).setCell ⟨p, 4, none⟩ (.int .i64 0)).setCell ⟨p, 5, none⟩ (.bool false)).setCell ⟨p, 4, none⟩ (.int .i64 (max n 1 - 1))) N p s' rows ∧ Below N W ((((((W.setCell ⟨p, 9, none⟩ (.int .i64 (max n 1 - 1))).setCell ⟨p, 10, none⟩ (.int .i64 (s.h - 1))).setCell ⟨p, 3, none⟩ (.int .i64 0)).setCell ⟨p, 4, none⟩ (.int .i64 0)).setCell ⟨p, 5, none⟩ (.bool false)).setCell ⟨p, 4, none⟩ (.int .i64 (max n 1 - 1)))) := fun e q => by
    have e2 : hasB s.modes 2 = true := by rw [hb]; simp [q]
    rw [HR.out, e, e2]
    exact ⟨DkAt.set H5.out.1 4 _ (fun _ _ _ _ => rfl) rfl rfl, H5.out.2.setCell HLO.out _⟩
  clear HR H5 HD hb
  by_cases hlt : max n 1 - 1 < (s.h - 1)
  · have hmb : mb = true := by rw [HM.out]; simp [hlt]
    clear HM
    by_cases hq : bits .and .i64 s.modes 2 = 0
    · have HF : Hid _ := HYS.out hmb hq
      clear HYS HYT HNO hmb
      go_enter Tryz.func43, Tryz.ntmps43
      go_wp2_with fail
      go_end0
      exact ⟨rfl, HF.out⟩
    · have HF : Hid _ := HYT.out hmb hq
      have hq2 : (bits .and .i64 s.modes 2 == 0) = false := by simpa using hq
      clear HYS HYT HNO hmb
      go_enter Tryz.func43, Tryz.ntmps43
      go_wp2_with fail
      go_end0
      exact ⟨rfl, HF.out⟩
  · by_cases hh1 : s.h = 1
    · have hh2 : (s.h == 1) = true := by simpa using hh1
      by_cases heq : max n 1 - 1 = (s.h - 1)
      · have hmb : mb = true := by rw [HM.out]; simp [heq, hh1]
        have heq2 : (max n 1 - 1 == (s.h - 1)) = true := by simpa using heq
        clear HM hh1 heq
        by_cases hq : bits .and .i64 s.modes 2 = 0
        · have HF : Hid _ := HYS.out hmb hq
          clear HYS HYT HNO hmb
          go_enter Tryz.func43, Tryz.ntmps43
          go_wp2_with fail
          go_end0
          exact ⟨rfl, HF.out⟩
        · have HF : Hid _ := HYT.out hmb hq
          have hq2 : (bits .and .i64 s.modes 2 == 0) = false := by simpa using hq
          clear HYS HYT HNO hmb
          go_enter Tryz.func43, Tryz.ntmps43
          go_wp2_with fail
          go_end0
          exact ⟨rfl, HF.out⟩
      · have hmb : mb = false := by rw [HM.out]; simp [heq, hlt]
        have heq2 : (max n 1 - 1 == (s.h - 1)) = false := by simpa using heq
        have HF : Hid _ := HNO.out hmb
        clear HM hh1 heq HYS HYT HNO hmb
        go_enter Tryz.func43, Tryz.ntmps43
        go_wp2_with fail
        go_end0
        exact ⟨rfl, HF.out⟩
    · have hh2 : (s.h == 1) = false := by simpa using hh1
      have hmb : mb = false := by rw [HM.out]; simp [hh1, hlt]
      have HF : Hid _ := HNO.out hmb
      clear HM hh1 HYS HYT HNO hmb
      go_enter Tryz.func43, Tryz.ntmps43
      go_wp2_with fail
      go_end0
      exact ⟨rfl, HF.out⟩
set_option maxHeartbeats 8000000 in
set_option maxRecDepth 100000 in
theorem act_region_b (n m : Int) (s : Scr) (rows : List (List C)) (w3 : 1 ≤ s.h) (w4 : s.h ≤ 60) (hn : n ≤ 9223372036854775807) (hb : hasB s.modes 2 = !(bits .and .i64 s.modes 2 == 0)) (hm1 : ¬ m ≤ 0) (hm2 : s.h < m) : ActMakes ⟨#[114, 101, 103, 105, 111, 110]⟩ n m s (regS s n m) rows rows := by
  intro N W p hN hD
  obtain ⟨c0, c1, c3, c4, c5, c9, c10, c11, c19, f⟩ := hD.words
  have f3 := f 3
  have f4 := f 4
  have f5 := f 5
  have f9 := f 9
  have f10 := f 10
  have hmx := Grd.max2 n 1
  have hws : IntKind.i64.wrap (max n 1 - 1) = max n 1 - 1 := wrap_id _ (by omega) (by omega)
  have hwh : IntKind.i64.wrap (s.h - 1) = s.h - 1 := wrap_id _ (by omega) (by omega)
  have hL : lastI s.h m = (s.h - 1) := by unfold lastI; rw [if_pos (.inr (by omega))]
  have HR : Hid (regS s n m = if mayB s.h (max n 1 - 1) (s.h - 1) then { s with top := max n 1 - 1, bot := (s.h - 1), x := 0, y := if hasB s.modes 2 then max n 1 - 1 else 0, late := false } else s) := by unfold Hid regS; rw [hL]
  have HM : Hid (mayB s.h (max n 1 - 1) (s.h - 1) = (decide (max n 1 - 1 < (s.h - 1)) || (decide (max n 1 - 1 = (s.h - 1)) && decide (s.h = 1)))) := rfl
  have H5 : Hid (DkAt (((((W.setCell ⟨p, 9, none⟩ (.int .i64 (max n 1 - 1))).setCell ⟨p, 10, none⟩ (.int .i64 (s.h - 1))).setCell ⟨p, 3, none⟩ (.int .i64 0)).setCell ⟨p, 4, none⟩ (.int .i64 0)).setCell ⟨p, 5, none⟩ (.bool false)) N p { s with top := max n 1 - 1, bot := (s.h - 1), x := 0, y := 0, late := false } rows ∧ Below N W (((((W.setCell ⟨p, 9, none⟩ (.int .i64 (max n 1 - 1))).setCell ⟨p, 10, none⟩ (.int .i64 (s.h - 1))).setCell ⟨p, 3, none⟩ (.int .i64 0)).setCell ⟨p, 4, none⟩ (.int .i64 0)).setCell ⟨p, 5, none⟩ (.bool false))) := hD.five (max n 1 - 1) (s.h - 1)
  have HD : Hid (DkAt W N p s rows) := hD
  have HLO : Hid (N ≤ p) := hD.lo
  generalize regS s n m = s' at *
  generalize mayB s.h (max n 1 - 1) (s.h - 1) = mb at *
  clear hD c0 c19 f hL
  have HNO : Hid (mb = false → DkAt W N p s' rows ∧ Below N W W) := fun e => by rw [HR.out, e]; exact ⟨HD.out, Below.refl _ _⟩
  have HYS : Hid (mb = true → bits .and .i64 s.modes 2 = 0 → DkAt (((((W.setCell ⟨p, 9, none⟩ (.int .i64 (max n 1 - 1))).setCell ⟨p, 10, none⟩ (.int .i64 (s.h - 1))).setCell ⟨p, 3, none⟩ (.int .i64 0)).setCell ⟨p, 4, none⟩ (.int .i64 0)).setCell ⟨p, 5, none⟩ (.bool false)) N p s' rows ∧ Below N W (((((W.setCell ⟨p, 9, none⟩ (.int .i64 (max n 1 - 1))).setCell ⟨p, 10, none⟩ (.int .i64 (s.h - 1))).setCell ⟨p, 3, none⟩ (.int .i64 0)).setCell ⟨p, 4, none⟩ (.int .i64 0)).setCell ⟨p, 5, none⟩ (.bool false))) := fun e q => by
    have e2 : hasB s.modes 2 = false := by rw [hb, q]; rfl
    rw [HR.out, e, e2]
    exact H5.out
  have HYT : Hid (mb = true → bits .and .i64 s.modes 2 ≠ 0 → DkAt ((((((W.setCell ⟨p, 9, none⟩ (.int .i64 (max n 1 - 1))).setCell ⟨p, 10, none⟩ (.int .i64 (s.h - 1))).setCell ⟨p, 3, none⟩ (.int .i64 0)).setCell ⟨p, 4, none⟩ (.int .i64 0)).setCell ⟨p, 5, none⟩ (.bool false)).setCell ⟨p, 4, none⟩ (.int .i64 (max n 1 - 1))) N p s' rows ∧ Below N W ((((((W.setCell ⟨p, 9, none⟩ (.int .i64 (max n 1 - 1))).setCell ⟨p, 10, none⟩ (.int .i64 (s.h - 1))).setCell ⟨p, 3, none⟩ (.int .i64 0)).setCell ⟨p, 4, none⟩ (.int .i64 0)).setCell ⟨p, 5, none⟩ (.bool false)).setCell ⟨p, 4, none⟩ (.int .i64 (max n 1 - 1)))) := fun e q => by
    have e2 : hasB s.modes 2 = true := by rw [hb]; simp [q]
    rw [HR.out, e, e2]
    exact ⟨DkAt.set H5.out.1 4 _ (fun _ _ _ _ => rfl) rfl rfl, H5.out.2.setCell HLO.out _⟩
  clear HR H5 HD hb
  by_cases hlt : max n 1 - 1 < (s.h - 1)
  · have hmb : mb = true := by rw [HM.out]; simp [hlt]
    clear HM
    by_cases hq : bits .and .i64 s.modes 2 = 0
    · have HF : Hid _ := HYS.out hmb hq
      clear HYS HYT HNO hmb
      go_enter Tryz.func43, Tryz.ntmps43
      go_wp2_with fail
      go_end0
      exact ⟨rfl, HF.out⟩
    · have HF : Hid _ := HYT.out hmb hq
      have hq2 : (bits .and .i64 s.modes 2 == 0) = false := by simpa using hq
      clear HYS HYT HNO hmb
      go_enter Tryz.func43, Tryz.ntmps43
      go_wp2_with fail
      go_end0
      exact ⟨rfl, HF.out⟩
  · by_cases hh1 : s.h = 1
    · have hh2 : (s.h == 1) = true := by simpa using hh1
      by_cases heq : max n 1 - 1 = (s.h - 1)
      · have hmb : mb = true := by rw [HM.out]; simp [heq, hh1]
        have heq2 : (max n 1 - 1 == (s.h - 1)) = true := by simpa using heq
        clear HM hh1 heq
        by_cases hq : bits .and .i64 s.modes 2 = 0
        · have HF : Hid _ := HYS.out hmb hq
          clear HYS HYT HNO hmb
          go_enter Tryz.func43, Tryz.ntmps43
          go_wp2_with fail
          go_end0
          exact ⟨rfl, HF.out⟩
        · have HF : Hid _ := HYT.out hmb hq
          have hq2 : (bits .and .i64 s.modes 2 == 0) = false := by simpa using hq
          clear HYS HYT HNO hmb
          go_enter Tryz.func43, Tryz.ntmps43
          go_wp2_with fail
          go_end0
          exact ⟨rfl, HF.out⟩
      · have hmb : mb = false := by rw [HM.out]; simp [heq, hlt]
        have heq2 : (max n 1 - 1 == (s.h - 1)) = false := by simpa using heq
        have HF : Hid _ := HNO.out hmb
        clear HM hh1 heq HYS HYT HNO hmb
        go_enter Tryz.func43, Tryz.ntmps43
        go_wp2_with fail
        go_end0
        exact ⟨rfl, HF.out⟩
    · have hh2 : (s.h == 1) = false := by simpa using hh1
      have hmb : mb = false := by rw [HM.out]; simp [hh1, hlt]
      have HF : Hid _ := HNO.out hmb
      clear HM hh1 HYS HYT HNO hmb
      go_enter Tryz.func43, Tryz.ntmps43
      go_wp2_with fail
      go_end0
      exact ⟨rfl, HF.out⟩
set_option maxHeartbeats 8000000 in
set_option maxRecDepth 100000 in
theorem act_region_c (n m : Int) (s : Scr) (rows : List (List C)) (w3 : 1 ≤ s.h) (w4 : s.h ≤ 60) (hn : n ≤ 9223372036854775807) (hb : hasB s.modes 2 = !(bits .and .i64 s.modes 2 == 0)) (hm1 : ¬ m ≤ 0) (hm2 : ¬ s.h < m) : ActMakes ⟨#[114, 101, 103, 105, 111, 110]⟩ n m s (regS s n m) rows rows := by
  intro N W p hN hD
  obtain ⟨c0, c1, c3, c4, c5, c9, c10, c11, c19, f⟩ := hD.words
  have f3 := f 3
  have f4 := f 4
  have f5 := f 5
  have f9 := f 9
  have f10 := f 10
  have hmx := Grd.max2 n 1
  have hws : IntKind.i64.wrap (max n 1 - 1) = max n 1 - 1 := wrap_id _ (by omega) (by omega)
  have hwh : IntKind.i64.wrap (s.h - 1) = s.h - 1 := wrap_id _ (by omega) (by omega)
  have hwm : IntKind.i64.wrap (m - 1) = m - 1 := wrap_id _ (by omega) (by omega)
  have hL : lastI s.h m = (m - 1) := by unfold lastI; rw [if_neg (by omega)]
  have HR : Hid (regS s n m = if mayB s.h (max n 1 - 1) (m - 1) then { s with top := max n 1 - 1, bot := (m - 1), x := 0, y := if hasB s.modes 2 then max n 1 - 1 else 0, late := false } else s) := by unfold Hid regS; rw [hL]
  have HM : Hid (mayB s.h (max n 1 - 1) (m - 1) = (decide (max n 1 - 1 < (m - 1)) || (decide (max n 1 - 1 = (m - 1)) && decide (s.h = 1)))) := rfl
  have H5 : Hid (DkAt (((((W.setCell ⟨p, 9, none⟩ (.int .i64 (max n 1 - 1))).setCell ⟨p, 10, none⟩ (.int .i64 (m - 1))).setCell ⟨p, 3, none⟩ (.int .i64 0)).setCell ⟨p, 4, none⟩ (.int .i64 0)).setCell ⟨p, 5, none⟩ (.bool false)) N p { s with top := max n 1 - 1, bot := (m - 1), x := 0, y := 0, late := false } rows ∧ Below N W (((((W.setCell ⟨p, 9, none⟩ (.int .i64 (max n 1 - 1))).setCell ⟨p, 10, none⟩ (.int .i64 (m - 1))).setCell ⟨p, 3, none⟩ (.int .i64 0)).setCell ⟨p, 4, none⟩ (.int .i64 0)).setCell ⟨p, 5, none⟩ (.bool false))) := hD.five (max n 1 - 1) (m - 1)
  have HD : Hid (DkAt W N p s rows) := hD
  have HLO : Hid (N ≤ p) := hD.lo
  generalize regS s n m = s' at *
  generalize mayB s.h (max n 1 - 1) (m - 1) = mb at *
  clear hD c0 c19 f hL
  have HNO : Hid (mb = false → DkAt W N p s' rows ∧ Below N W W) := fun e => by rw [HR.out, e]; exact ⟨HD.out, Below.refl _ _⟩
  have HYS : Hid (mb = true → bits .and .i64 s.modes 2 = 0 → DkAt (((((W.setCell ⟨p, 9, none⟩ (.int .i64 (max n 1 - 1))).setCell ⟨p, 10, none⟩ (.int .i64 (m - 1))).setCell ⟨p, 3, none⟩ (.int .i64 0)).setCell ⟨p, 4, none⟩ (.int .i64 0)).setCell ⟨p, 5, none⟩ (.bool false)) N p s' rows ∧ Below N W (((((W.setCell ⟨p, 9, none⟩ (.int .i64 (max n 1 - 1))).setCell ⟨p, 10, none⟩ (.int .i64 (m - 1))).setCell ⟨p, 3, none⟩ (.int .i64 0)).setCell ⟨p, 4, none⟩ (.int .i64 0)).setCell ⟨p, 5, none⟩ (.bool false))) := fun e q => by
    have e2 : hasB s.modes 2 = false := by rw [hb, q]; rfl
    rw [HR.out, e, e2]
    exact H5.out
  have HYT : Hid (mb = true → bits .and .i64 s.modes 2 ≠ 0 → DkAt ((((((W.setCell ⟨p, 9, none⟩ (.int .i64 (max n 1 - 1))).setCell ⟨p, 10, none⟩ (.int .i64 (m - 1))).setCell ⟨p, 3, none⟩ (.int .i64 0)).setCell ⟨p, 4, none⟩ (.int .i64 0)).setCell ⟨p, 5, none⟩ (.bool false)).setCell ⟨p, 4, none⟩ (.int .i64 (max n 1 - 1))) N p s' rows ∧ Below N W ((((((W.setCell ⟨p, 9, none⟩ (.int .i64 (max n 1 - 1))).setCell ⟨p, 10, none⟩ (.int .i64 (m - 1))).setCell ⟨p, 3, none⟩ (.int .i64 0)).setCell ⟨p, 4, none⟩ (.int .i64 0)).setCell ⟨p, 5, none⟩ (.bool false)).setCell ⟨p, 4, none⟩ (.int .i64 (max n 1 - 1)))) := fun e q => by
    have e2 : hasB s.modes 2 = true := by rw [hb]; simp [q]
    rw [HR.out, e, e2]
    exact ⟨DkAt.set H5.out.1 4 _ (fun _ _ _ _ => rfl) rfl rfl, H5.out.2.setCell HLO.out _⟩
  clear HR H5 HD hb
  by_cases hlt : max n 1 - 1 < (m - 1)
  · have hmb : mb = true := by rw [HM.out]; simp [hlt]
    clear HM
    by_cases hq : bits .and .i64 s.modes 2 = 0
    · have HF : Hid _ := HYS.out hmb hq
      clear HYS HYT HNO hmb
      go_enter Tryz.func43, Tryz.ntmps43
      go_wp2_with fail
      go_end0
      exact ⟨rfl, HF.out⟩
    · have HF : Hid _ := HYT.out hmb hq
      have hq2 : (bits .and .i64 s.modes 2 == 0) = false := by simpa using hq
      clear HYS HYT HNO hmb
      go_enter Tryz.func43, Tryz.ntmps43
      go_wp2_with fail
      go_end0
      exact ⟨rfl, HF.out⟩
  · by_cases hh1 : s.h = 1
    · have hh2 : (s.h == 1) = true := by simpa using hh1
      by_cases heq : max n 1 - 1 = (m - 1)
      · have hmb : mb = true := by rw [HM.out]; simp [heq, hh1]
        have heq2 : (max n 1 - 1 == (m - 1)) = true := by simpa using heq
        clear HM hh1 heq
        by_cases hq : bits .and .i64 s.modes 2 = 0
        · have HF : Hid _ := HYS.out hmb hq
          clear HYS HYT HNO hmb
          go_enter Tryz.func43, Tryz.ntmps43
          go_wp2_with fail
          go_end0
          exact ⟨rfl, HF.out⟩
        · have HF : Hid _ := HYT.out hmb hq
          have hq2 : (bits .and .i64 s.modes 2 == 0) = false := by simpa using hq
          clear HYS HYT HNO hmb
          go_enter Tryz.func43, Tryz.ntmps43
          go_wp2_with fail
          go_end0
          exact ⟨rfl, HF.out⟩
      · have hmb : mb = false := by rw [HM.out]; simp [heq, hlt]
        have heq2 : (max n 1 - 1 == (m - 1)) = false := by simpa using heq
        have HF : Hid _ := HNO.out hmb
        clear HM hh1 heq HYS HYT HNO hmb
        go_enter Tryz.func43, Tryz.ntmps43
        go_wp2_with fail
        go_end0
        exact ⟨rfl, HF.out⟩
    · have hh2 : (s.h == 1) = false := by simpa using hh1
      have hmb : mb = false := by rw [HM.out]; simp [hh1, hlt]
      have HF : Hid _ := HNO.out hmb
      clear HM hh1 HYS HYT HNO hmb
      go_enter Tryz.func43, Tryz.ntmps43
      go_wp2_with fail
      go_end0
      exact ⟨rfl, HF.out⟩
theorem act_region (n m : Int) (s : Scr) (rows : List (List C)) (w3 : 1 ≤ s.h) (w4 : s.h ≤ 60) (hn : n ≤ 9223372036854775807) (hb : hasB s.modes 2 = !(bits .and .i64 s.modes 2 == 0)) : ActMakes ⟨#[114, 101, 103, 105, 111, 110]⟩ n m s (regS s n m) rows rows := by
  by_cases hm1 : m ≤ 0
  · exact act_region_a n m s rows w3 w4 hn hb hm1
  · by_cases hm2 : s.h < m
    · exact act_region_b n m s rows w3 w4 hn hb hm1 hm2
    · exact act_region_c n m s rows w3 w4 hn hb hm1 hm2
end Put
end Go.Proofs.YtgfhkdiknpnccaaGreatDoor

/- The law ShiftRegion. -/
namespace Go.Proofs.YtgfhkdiknpnccaaGreatDoor
open Go.ChangeShapes Go.WideShapes Go.ChangeAt Go.RowKit
namespace Put
open Grd (C SliceAt CellsAt gridErr z0 nilV flat rowsL)
theorem plain_region : Plain 50 := by
  intro args W
  kernel_rfl
theorem plainF_region : Plain 19 := by
  intro args W
  kernel_rfl
theorem regS_cs (s : Scr) (a b : Int) (cs : List C) (h : cs = s.cs) : { regS s a b with cs := cs } = regS s a b := by
  subst h
  unfold regS
  split <;> rfl
theorem regS_gone (s : Scr) (a b : Int) : (regS s a b).gone = s.gone := by
  unfold regS
  split <;> rfl
theorem region_any {w0 w : World} {s : Scr} {cv tv gv : Value} {n hh : Nat} (h : Met w0 w s cv tv gv) (hR : RightS s n hh) (a b : Int) (ha : a ≤ 9223372036854775807) : Calls Tryz.prog 20 #[.agg (scrA s cv tv gv), .int .i64 a, .int .i64 b] w (Made w0 w (regS s a b) 0) := by
  have e2 := hR.h
  have h1 := hR.h1
  have h2 := hR.h2
  exact region_calls s _ cv tv gv a b 0 w0 w h.v h.b.size fun _ B1 B2 hW hB1 hB2 => by
    have := sc_good (h.next hW) hR _ plain_region #[.pointer (some ⟨B1, 0, none⟩), .pointer (some ⟨B2, 0, none⟩)] (rowsL n s.cs hh) _ (fun w1 hw1 => region_does a b B1 B2 _ w1 s _ (cell_stay hw1 hB1) (cell_stay hw1 hB2) (by omega) (by omega) ha) (rowsOk_same hR _ (regS_gone s a b)) rfl
    rwa [regS_cs s a b _ hR.flatten] at this
theorem region_bad {w0 w : World} {s : Scr} {cv tv gv : Value} (h : Met w0 w s cv tv gv) (hz : scrErr s ≠ 0) (a b : Int) : Calls Tryz.prog 20 #[.agg (scrA s cv tv gv), .int .i64 a, .int .i64 b] w (Made w0 w zScr (scrErr s)) :=
  region_calls s zScr cv tv gv a b (scrErr s) w0 w h.v h.b.size fun _ _ _ hW _ _ => sc_bad (h.next hW) hz _ _
set_option maxHeartbeats 2000000 in
set_option maxRecDepth 100000 in
theorem region1_calls (s s' : Scr) (cv tv gv : Value) (y x : Int) (B1 B2 : Nat) (er : Int) (w0 w : World) (hV : ScrV w0 s cv tv gv) (hM : w0.heap.size ≤ w.heap.size) (h1 : w.cell? ⟨B1, 0, none⟩ = some (.int .i64 y)) (h2 : w.cell? ⟨B2, 0, none⟩ = some (.int .i64 x))
    (hC : ∀ W, Below w.heap.size w W → Calls Tryz.prog 20 #[.agg (scrA s cv tv gv), .int .i64 y, .int .i64 x] W (Made w0 W s' er)) :
    Calls Tryz.prog 19 #[.agg (scrA s cv tv gv), .pointer (some ⟨B1, 0, none⟩), .pointer (some ⟨B2, 0, none⟩)] w (Made w0 w s' er) := by
  obtain ⟨ca, cc, rfl⟩ := hV.c.shape
  obtain ⟨ta, tc, rfl⟩ := hV.t.slice
  obtain ⟨ga, gc, rfl⟩ := hV.g.slice
  have hkb : Below w.heap.size w ((w.alloc (.cells (scrA s (.slice ca s.cs.length cc) (.slice ta s.tabs.length tc) (.slice ga s.gone.length gc)) 32)).alloc (.cells #[.int .i64 0, .int .i64 0, .slice none 0 0, .int .i64 0, .int .i64 0, .bool false, .int .i64 0, .int .i64 0, .int .i64 0, .int .i64 0, .int .i64 0, .int .i64 0, .slice none 0 0, .int .i64 0, .int .i64 0, .int .i64 0, .int .i64 0, .int .i64 0, .int .i64 0, .int .i32 0, .string ⟨#[]⟩, .slice none 0 0] 32)) := (((Below.refl _ _).alloc (by simp) _).alloc (by simp) _)
  have hx0 : (w.alloc (.cells (scrA s (.slice ca s.cs.length cc) (.slice ta s.tabs.length tc) (.slice ga s.gone.length gc)) 32)).heap[w.heap.size]? = some (.cells (scrA s (.slice ca s.cs.length cc) (.slice ta s.tabs.length tc) (.slice ga s.gone.length gc)) 32 (0, 0)) := by
    have h := heap_alloc_new w (.cells (scrA s (.slice ca s.cs.length cc) (.slice ta s.tabs.length tc) (.slice ga s.gone.length gc)) 32)
    have e : w.heap.size = w.heap.size := by simp
    rw [e] at h
    exact h
  have hx0 := (Below.heap_alloc (w.alloc (.cells (scrA s (.slice ca s.cs.length cc) (.slice ta s.tabs.length tc) (.slice ga s.gone.length gc)) 32)) (.cells #[.int .i64 0, .int .i64 0, .slice none 0 0, .int .i64 0, .int .i64 0, .bool false, .int .i64 0, .int .i64 0, .int .i64 0, .int .i64 0, .int .i64 0, .int .i64 0, .slice none 0 0, .int .i64 0, .int .i64 0, .int .i64 0, .int .i64 0, .int .i64 0, .int .i64 0, .int .i32 0, .string ⟨#[]⟩, .slice none 0 0] 32) _ (heap_lt hx0)).trans hx0
  have hx1 : ((w.alloc (.cells (scrA s (.slice ca s.cs.length cc) (.slice ta s.tabs.length tc) (.slice ga s.gone.length gc)) 32)).alloc (.cells #[.int .i64 0, .int .i64 0, .slice none 0 0, .int .i64 0, .int .i64 0, .bool false, .int .i64 0, .int .i64 0, .int .i64 0, .int .i64 0, .int .i64 0, .int .i64 0, .slice none 0 0, .int .i64 0, .int .i64 0, .int .i64 0, .int .i64 0, .int .i64 0, .int .i64 0, .int .i32 0, .string ⟨#[]⟩, .slice none 0 0] 32)).heap[w.heap.size + 1]? = some (.cells #[.int .i64 0, .int .i64 0, .slice none 0 0, .int .i64 0, .int .i64 0, .bool false, .int .i64 0, .int .i64 0, .int .i64 0, .int .i64 0, .int .i64 0, .int .i64 0, .slice none 0 0, .int .i64 0, .int .i64 0, .int .i64 0, .int .i64 0, .int .i64 0, .int .i64 0, .int .i32 0, .string ⟨#[]⟩, .slice none 0 0] 32 (0, 0)) := by
    have h := heap_alloc_new (w.alloc (.cells (scrA s (.slice ca s.cs.length cc) (.slice ta s.tabs.length tc) (.slice ga s.gone.length gc)) 32)) (.cells #[.int .i64 0, .int .i64 0, .slice none 0 0, .int .i64 0, .int .i64 0, .bool false, .int .i64 0, .int .i64 0, .int .i64 0, .int .i64 0, .int .i64 0, .int .i64 0, .slice none 0 0, .int .i64 0, .int .i64 0, .int .i64 0, .int .i64 0, .int .i64 0, .int .i64 0, .int .i32 0, .string ⟨#[]⟩, .slice none 0 0] 32)
    have e : (w.alloc (.cells (scrA s (.slice ca s.cs.length cc) (.slice ta s.tabs.length tc) (.slice ga s.gone.length gc)) 32)).heap.size = w.heap.size + 1 := by simp
    rw [e] at h
    exact h
  have HX0 : Hid _ := hx0
  have HXR : Hid _ := hx1
  have HKB : Hid _ := hkb
  have HC := hC _ hkb
  have q1 := cell_stay hkb h1
  have q2 := cell_stay hkb h2
  have hsz : w.heap.size ≤ ((w.alloc (.cells (scrA s (.slice ca s.cs.length cc) (.slice ta s.tabs.length tc) (.slice ga s.gone.length gc)) 32)).alloc (.cells #[.int .i64 0, .int .i64 0, .slice none 0 0, .int .i64 0, .int .i64 0, .bool false, .int .i64 0, .int .i64 0, .int .i64 0, .int .i64 0, .int .i64 0, .int .i64 0, .slice none 0 0, .int .i64 0, .int .i64 0, .int .i64 0, .int .i64 0, .int .i64 0, .int .i64 0, .int .i32 0, .string ⟨#[]⟩, .slice none 0 0] 32)).heap.size := hkb.size
  clear hkb hV hC hx0 hx1 h1 h2
  go_enter Tryz.func19, Tryz.ntmps19
  go_upto_region 1 with fail
  generalize ((w.alloc (.cells (scrA s (.slice ca s.cs.length cc) (.slice ta s.tabs.length tc) (.slice ga s.gone.length gc)) 32)).alloc (.cells #[.int .i64 0, .int .i64 0, .slice none 0 0, .int .i64 0, .int .i64 0, .bool false, .int .i64 0, .int .i64 0, .int .i64 0, .int .i64 0, .int .i64 0, .int .i64 0, .slice none 0 0, .int .i64 0, .int .i64 0, .int .i64 0, .int .i64 0, .int .i64 0, .int .i64 0, .int .i32 0, .string ⟨#[]⟩, .slice none 0 0] 32)) = X at *
  go_wp2_with (refine wpList_load_row rfl 32 (.tmp 3) rfl w.heap.size rfl _ _ _ _ HX0.out Tryz.underlying32 rfl (by kernel_rfl) ?_)
  refine HC.mono ?_
  rintro e V ⟨cv', tv', gv', rfl, hO, c2⟩
  obtain ⟨a1, n1, c1, a2, n2, c2', a3, n3, c3, rfl, rfl, rfl⟩ := hO.shapes
  have HO : Hid (ScrO V w0.heap.size _ s' _ _ _) := hO
  have HR : Hid (V.heap[w.heap.size + 1]? = _) := Grd.carry HXR.out c2
  have HB : Hid (Below w.heap.size w V) := HKB.out.trans (c2.mono HKB.out.size)
  clear hO c2 HC q1 q2
  go_wp2_with (refine wpList_store_row rfl 32 (.tmp 4) (.tmp 10) rfl (w.heap.size + 1) (scrA s' (.slice a1 n1 c1) (.slice a2 n2 c2') (.slice a3 n3 c3)) rfl rfl _ _ HR.out (by kernel_rfl) rfl (scr_one _ _ _ _ _ _ _ _ _ _) ?_)
  (try simp only [Exit.inBlock, Exit.then])
  refine bodyPost_ret (v := .tuple #[.agg (scrA s' (.slice a1 n1 c1) (.slice a2 n2 c2') (.slice a3 n3 c3)), .int .i64 er]) ?_ rfl ⟨_, _, _, rfl, ?_, below_setRow HB.out (by omega) _⟩
  · exact Grd.results_row_tmp rfl _ _ (w.heap.size + 1) _ _ _ _ rfl (setRow_heap _ _ _ _ _ _ HR.out) Tryz.underlying32 rfl (by kernel_rfl) _ rfl
  · exact (ScrO.off HO.out HR.out screen_is (by omega) fun k hk => setRow_other _ _ _ _ hk).mono hsz
theorem region_agree {s : Scr} {n hh : Nat} (hR : RightS s n hh) (a b : Int) (ha : a ≤ 9223372036854775807) : Agrees ⟨#[114, 101, 103, 105, 111, 110]⟩ a b s (regS s a b) n hh := by
  have h0 := smallOf hR
  have e1 := hR.w
  have e2 := hR.h
  have h1 := hR.h1
  have h2 := hR.h2
  have hmo := hR.modes
  refine ⟨?_, _, _, act_region a b s _ (by omega) (by omega) ha (has_bits s.modes hmo.1 hmo.2).2.1, Grd.rowsL_len _ _ _, rowsL_row hR, ?_⟩
  · unfold regS
    split
    · exact ⟨h0.c, h0.t, h0.g, h0.r⟩
    · exact h0
  · rw [hR.flatten, ← e1, ← e2]
    unfold regS
    split <;> rfl
theorem region_law (s : Scr) (cv tv gv : Value) (y x : Int) (B1 B2 : Nat) (w : World) (hT : Txt.Tab w) (hV : ScrV w s cv tv gv) (hB : Bulk s) (h1 : w.cell? ⟨B1, 0, none⟩ = some (.int .i64 y)) (h2 : w.cell? ⟨B2, 0, none⟩ = some (.int .i64 x)) (hy : y ≤ 9223372036854775807) :
    Calls Tryz.prog 13 #[.agg (scrA s cv tv gv), .func (.func 19) #[] #[.pointer (some ⟨B1, 0, none⟩), .pointer (some ⟨B2, 0, none⟩)], .string ⟨#[114, 101, 103, 105, 111, 110]⟩, .int .i64 y, .int .i64 x] w fun e w' => e = .returned (.bool true) ∧ Below w.heap.size w w' :=
  acts_any s cv tv gv _ plainF_region _ _ y x w hT hV hB (regS s y x) (fun hz w0 W cv' tv' gv' hb hm => region1_calls s zScr cv' tv' gv' y x B1 B2 _ w0 W hm.v hm.b.size (cell_stay (hb.trans (hm.b.mono hb.size)) h1) (cell_stay (hb.trans (hm.b.mono hb.size)) h2) fun _ hV' => region_bad (hm.next hV') hz y x) fun _ _ hR =>
    ⟨fun w0 W cv' tv' gv' hb hm => region1_calls s _ cv' tv' gv' y x B1 B2 _ w0 W hm.v hm.b.size (cell_stay (hb.trans (hm.b.mono hb.size)) h1) (cell_stay (hb.trans (hm.b.mono hb.size)) h2) fun _ hV' => region_any (hm.next hV') hR y x hy, region_agree hR y x hy⟩
set_option maxHeartbeats 4000000 in
set_option maxRecDepth 100000 in
theorem shiftRegion_walk (s : Scr) (cv tv gv : Value) (a b : Int) (w : World) (hT : Txt.Tab w) (hV : ScrV w s cv tv gv) (hB : Bulk s) (ha : a ≤ 9223372036854775807) :
    Calls Tryz.prog 5 #[.agg (scrA s cv tv gv), .int .i64 a, .int .i64 b] w fun e w' => e = .returned (.bool true) ∧ Below w.heap.size w w' := by
  have HC3 : Hid (∀ W B1 B2, Below w.heap.size w W → W.cell? ⟨B1, 0, none⟩ = some (.int .i64 a) → W.cell? ⟨B2, 0, none⟩ = some (.int .i64 b) → Calls Tryz.prog 13 #[.agg (scrA s cv tv gv), .func (.func 19) #[] #[.pointer (some ⟨B1, 0, none⟩), .pointer (some ⟨B2, 0, none⟩)], .string ⟨#[114, 101, 103, 105, 111, 110]⟩, .int .i64 a, .int .i64 b] W fun e w' => e = .returned (.bool true) ∧ Below W.heap.size W w') := fun W B1 B2 h h1 h2 => region_law s cv tv gv a b B1 B2 W (Grd.Tab.next hT h) (hV.next h) hB h1 h2 ha
  obtain ⟨ca, cc, rfl⟩ := hV.c.shape
  obtain ⟨ta, tc, rfl⟩ := hV.t.slice
  obtain ⟨ga, gc, rfl⟩ := hV.g.slice
  have hkb : Below w.heap.size w (((w.alloc (.cells (scrA s (.slice ca s.cs.length cc) (.slice ta s.tabs.length tc) (.slice ga s.gone.length gc)) 32)).alloc (.cells #[.int .i64 a] 3)).alloc (.cells #[.int .i64 b] 3)) := ((((Below.refl _ _).alloc (by simp) _).alloc (by simp) _).alloc (by simp; omega) _)
  have hx0 : (w.alloc (.cells (scrA s (.slice ca s.cs.length cc) (.slice ta s.tabs.length tc) (.slice ga s.gone.length gc)) 32)).heap[w.heap.size]? = some (.cells (scrA s (.slice ca s.cs.length cc) (.slice ta s.tabs.length tc) (.slice ga s.gone.length gc)) 32 (0, 0)) := by
    have h := heap_alloc_new w (.cells (scrA s (.slice ca s.cs.length cc) (.slice ta s.tabs.length tc) (.slice ga s.gone.length gc)) 32)
    have e : w.heap.size = w.heap.size := by simp
    rw [e] at h
    exact h
  have hx0 := (Below.heap_alloc (w.alloc (.cells (scrA s (.slice ca s.cs.length cc) (.slice ta s.tabs.length tc) (.slice ga s.gone.length gc)) 32)) (.cells #[.int .i64 a] 3) _ (heap_lt hx0)).trans hx0
  have hx0 := (Below.heap_alloc ((w.alloc (.cells (scrA s (.slice ca s.cs.length cc) (.slice ta s.tabs.length tc) (.slice ga s.gone.length gc)) 32)).alloc (.cells #[.int .i64 a] 3)) (.cells #[.int .i64 b] 3) _ (heap_lt hx0)).trans hx0
  have hx1 : ((w.alloc (.cells (scrA s (.slice ca s.cs.length cc) (.slice ta s.tabs.length tc) (.slice ga s.gone.length gc)) 32)).alloc (.cells #[.int .i64 a] 3)).heap[w.heap.size + 1]? = some (.cells #[.int .i64 a] 3 (0, 0)) := by
    have h := heap_alloc_new (w.alloc (.cells (scrA s (.slice ca s.cs.length cc) (.slice ta s.tabs.length tc) (.slice ga s.gone.length gc)) 32)) (.cells #[.int .i64 a] 3)
    have e : (w.alloc (.cells (scrA s (.slice ca s.cs.length cc) (.slice ta s.tabs.length tc) (.slice ga s.gone.length gc)) 32)).heap.size = w.heap.size + 1 := by simp
    rw [e] at h
    exact h
  have hx1 := (Below.heap_alloc ((w.alloc (.cells (scrA s (.slice ca s.cs.length cc) (.slice ta s.tabs.length tc) (.slice ga s.gone.length gc)) 32)).alloc (.cells #[.int .i64 a] 3)) (.cells #[.int .i64 b] 3) _ (heap_lt hx1)).trans hx1
  have hx2 : (((w.alloc (.cells (scrA s (.slice ca s.cs.length cc) (.slice ta s.tabs.length tc) (.slice ga s.gone.length gc)) 32)).alloc (.cells #[.int .i64 a] 3)).alloc (.cells #[.int .i64 b] 3)).heap[w.heap.size + 2]? = some (.cells #[.int .i64 b] 3 (0, 0)) := by
    have h := heap_alloc_new ((w.alloc (.cells (scrA s (.slice ca s.cs.length cc) (.slice ta s.tabs.length tc) (.slice ga s.gone.length gc)) 32)).alloc (.cells #[.int .i64 a] 3)) (.cells #[.int .i64 b] 3)
    have e : ((w.alloc (.cells (scrA s (.slice ca s.cs.length cc) (.slice ta s.tabs.length tc) (.slice ga s.gone.length gc)) 32)).alloc (.cells #[.int .i64 a] 3)).heap.size = w.heap.size + 2 := by simp
    rw [e] at h
    exact h
  have HX0 : Hid _ := hx0
  have HKB : Hid _ := hkb
  have q1 := cell_box hx1
  have q2 := cell_box hx2
  clear hkb hV hx0 hx1 hx2 hT hB
  go_enter Tryz.func5, Tryz.ntmps5
  go_upto_region 1 with fail
  generalize (((w.alloc (.cells (scrA s (.slice ca s.cs.length cc) (.slice ta s.tabs.length tc) (.slice ga s.gone.length gc)) 32)).alloc (.cells #[.int .i64 a] 3)).alloc (.cells #[.int .i64 b] 3)) = X at *
  go_wp2_with (refine wpList_load_row rfl 32 (.tmp 3) rfl w.heap.size rfl _ _ _ _ HX0.out Tryz.underlying32 rfl (by kernel_rfl) ?_)
  refine (HC3.out _ _ _ HKB.out q1 q2).mono ?_
  rintro e V3 ⟨rfl, b3⟩
  have HB3 : Hid (Below w.heap.size w V3) := HKB.out.trans (b3.mono HKB.out.size)
  clear b3 q1 q2
  go_wp2_with fail
  go_ret
  exact ⟨rfl, HB3.out⟩
end Put
end Go.Proofs.YtgfhkdiknpnccaaGreatDoor
