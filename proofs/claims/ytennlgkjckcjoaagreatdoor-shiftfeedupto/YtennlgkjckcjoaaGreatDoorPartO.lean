/- trellislaw.acts and one: a call, and what a name says. -/
import Derived.Test.YtennlgkjckcjoaaGreatDoorPartN
import Derived.Test.YtennlgkjckcjoaaGreatDoorPartJ
import Derived.BigRegion
import Derived.Deep.RegionHeld3
import Derived.Test.YtennlgkjckcjoaaGreatDoorPartG
import Derived.Shelf.SlicesE.Delete
import Derived.Lib.OwnBridge
import Derived.Lib.JoinLaws
import Derived.Lib.AppendZeros
import Derived.Lib.Overlaps
import Derived.Laws.Externs
import Derived.Laws.IdiomCopy
import Derived.Shelf.RegionOpenPlain
import Derived.Test.YtennlgkjckcjoaaGreatDoorPartL
import Derived.Test.YtennlgkjckcjoaaGreatDoorPartE
import Derived.Maps.AppendAt
import Derived.Test.YtennlgkjckcjoaaGreatDoorPartI
namespace Go.Proofs.YtennlgkjckcjoaaGreatDoor
open Go.ChangeShapes Go.WideShapes Go.ChangeAt Go.RowKit
namespace Put
open Grd (C SliceAt CellsAt gridErr z0 nilV rowsL RowsAt RowB flat)
theorem cell_box {W : World} {R : Nat} {v : Value} {t : TypeId} (h : W.heap[R]? = some (.cells #[v] t (0, 0))) : W.cell? ⟨R, 0, none⟩ = some v := by simp [World.cell?, h]
/-- What a name does to a desk. -/
def ActMakes (what : ByteArray) (n m : Int) (s s2 : Scr) (rows rows2 : List (List C)) : Prop :=
  ∀ N W p, N ≤ W.heap.size → DkAt W N p s rows → Calls Tryz.prog 34 #[.pointer (some ⟨p, 0, none⟩), .string what, .int .i64 n, .int .i64 m] W fun e W' => e = .returned (.tuple #[]) ∧ DkAt W' N p s2 rows2 ∧ Below N W W'
theorem plain_acts : Plain 33 := by
  intro args W
  kernel_rfl
set_option maxHeartbeats 1000000 in
theorem acts1_acts {what : ByteArray} {n m : Int} {s s2 : Scr} {rows rows2 : List (List C)} (h : ActMakes what n m s s2 rows rows2) (B1 B2 B3 : Nat) (w : World) (h1 : w.cell? ⟨B1, 0, none⟩ = some (.string what)) (h2 : w.cell? ⟨B2, 0, none⟩ = some (.int .i64 n)) (h3 : w.cell? ⟨B3, 0, none⟩ = some (.int .i64 m)) :
    Acts 33 #[.pointer (some ⟨B1, 0, none⟩), .pointer (some ⟨B2, 0, none⟩), .pointer (some ⟨B3, 0, none⟩)] w s s2 rows rows2 := by
  intro N W p hb hN hN2 hD
  have q1 := cell_stay hb h1
  have q2 := cell_stay hb h2
  have q3 := cell_stay hb h3
  have H := h N W p hN2 hD
  clear h hD h1 h2 h3 hb
  show Calls _ _ #[.pointer (some ⟨p, 0, none⟩), .pointer (some ⟨B1, 0, none⟩), .pointer (some ⟨B2, 0, none⟩), .pointer (some ⟨B3, 0, none⟩)] _ _
  go_enter Tryz.func33, Tryz.ntmps33
  go_wp2_with fail
  refine H.mono ?_
  rintro e W1 ⟨rfl, hD1, b1⟩
  go_wp2_with fail
  go_end0
  exact ⟨rfl, hD1, b1⟩
set_option maxHeartbeats 2000000 in
set_option maxRecDepth 100000 in
theorem acts_calls (s : Scr) (cv tv gv fv : Value) (what : ByteArray) (n m : Int) (w : World) (hV : ScrV w s cv tv gv)
    (hD : ∀ W B1 B2 B3, Below w.heap.size w W → W.cell? ⟨B1, 0, none⟩ = some (.string what) → W.cell? ⟨B2, 0, none⟩ = some (.int .i64 n) → W.cell? ⟨B3, 0, none⟩ = some (.int .i64 m) → Calls Tryz.prog 32 #[.agg (scrA s cv tv gv), fv, .func (.func 33) #[] #[.pointer (some ⟨B1, 0, none⟩), .pointer (some ⟨B2, 0, none⟩), .pointer (some ⟨B3, 0, none⟩)]] W fun e w' => e = .returned (.bool true) ∧ Below W.heap.size W w') :
    Calls Tryz.prog 13 #[.agg (scrA s cv tv gv), fv, .string what, .int .i64 n, .int .i64 m] w fun e w' => e = .returned (.bool true) ∧ Below w.heap.size w w' := by
  obtain ⟨ca, cc, rfl⟩ := hV.c.shape
  obtain ⟨ta, tc, rfl⟩ := hV.t.slice
  obtain ⟨ga, gc, rfl⟩ := hV.g.slice
  have hkb : Below w.heap.size w ((((w.alloc (.cells (scrA s (.slice ca s.cs.length cc) (.slice ta s.tabs.length tc) (.slice ga s.gone.length gc)) 32)).alloc (.cells #[.string what] 9)).alloc (.cells #[.int .i64 n] 3)).alloc (.cells #[.int .i64 m] 3)) := (((((Below.refl _ _).alloc (by simp) _).alloc (by simp) _).alloc (by simp; omega) _).alloc (by simp; omega) _)
  have hx0 : (w.alloc (.cells (scrA s (.slice ca s.cs.length cc) (.slice ta s.tabs.length tc) (.slice ga s.gone.length gc)) 32)).heap[w.heap.size]? = some (.cells (scrA s (.slice ca s.cs.length cc) (.slice ta s.tabs.length tc) (.slice ga s.gone.length gc)) 32 (0, 0)) := by
    have h := heap_alloc_new w (.cells (scrA s (.slice ca s.cs.length cc) (.slice ta s.tabs.length tc) (.slice ga s.gone.length gc)) 32)
    have e : w.heap.size = w.heap.size := by simp
    rw [e] at h
    exact h
  have hx0 := (Below.heap_alloc (w.alloc (.cells (scrA s (.slice ca s.cs.length cc) (.slice ta s.tabs.length tc) (.slice ga s.gone.length gc)) 32)) (.cells #[.string what] 9) _ (heap_lt hx0)).trans hx0
  have hx0 := (Below.heap_alloc ((w.alloc (.cells (scrA s (.slice ca s.cs.length cc) (.slice ta s.tabs.length tc) (.slice ga s.gone.length gc)) 32)).alloc (.cells #[.string what] 9)) (.cells #[.int .i64 n] 3) _ (heap_lt hx0)).trans hx0
  have hx0 := (Below.heap_alloc (((w.alloc (.cells (scrA s (.slice ca s.cs.length cc) (.slice ta s.tabs.length tc) (.slice ga s.gone.length gc)) 32)).alloc (.cells #[.string what] 9)).alloc (.cells #[.int .i64 n] 3)) (.cells #[.int .i64 m] 3) _ (heap_lt hx0)).trans hx0
  have hx1 : ((w.alloc (.cells (scrA s (.slice ca s.cs.length cc) (.slice ta s.tabs.length tc) (.slice ga s.gone.length gc)) 32)).alloc (.cells #[.string what] 9)).heap[w.heap.size + 1]? = some (.cells #[.string what] 9 (0, 0)) := by
    have h := heap_alloc_new (w.alloc (.cells (scrA s (.slice ca s.cs.length cc) (.slice ta s.tabs.length tc) (.slice ga s.gone.length gc)) 32)) (.cells #[.string what] 9)
    have e : (w.alloc (.cells (scrA s (.slice ca s.cs.length cc) (.slice ta s.tabs.length tc) (.slice ga s.gone.length gc)) 32)).heap.size = w.heap.size + 1 := by simp
    rw [e] at h
    exact h
  have hx1 := (Below.heap_alloc ((w.alloc (.cells (scrA s (.slice ca s.cs.length cc) (.slice ta s.tabs.length tc) (.slice ga s.gone.length gc)) 32)).alloc (.cells #[.string what] 9)) (.cells #[.int .i64 n] 3) _ (heap_lt hx1)).trans hx1
  have hx1 := (Below.heap_alloc (((w.alloc (.cells (scrA s (.slice ca s.cs.length cc) (.slice ta s.tabs.length tc) (.slice ga s.gone.length gc)) 32)).alloc (.cells #[.string what] 9)).alloc (.cells #[.int .i64 n] 3)) (.cells #[.int .i64 m] 3) _ (heap_lt hx1)).trans hx1
  have hx2 : (((w.alloc (.cells (scrA s (.slice ca s.cs.length cc) (.slice ta s.tabs.length tc) (.slice ga s.gone.length gc)) 32)).alloc (.cells #[.string what] 9)).alloc (.cells #[.int .i64 n] 3)).heap[w.heap.size + 2]? = some (.cells #[.int .i64 n] 3 (0, 0)) := by
    have h := heap_alloc_new ((w.alloc (.cells (scrA s (.slice ca s.cs.length cc) (.slice ta s.tabs.length tc) (.slice ga s.gone.length gc)) 32)).alloc (.cells #[.string what] 9)) (.cells #[.int .i64 n] 3)
    have e : ((w.alloc (.cells (scrA s (.slice ca s.cs.length cc) (.slice ta s.tabs.length tc) (.slice ga s.gone.length gc)) 32)).alloc (.cells #[.string what] 9)).heap.size = w.heap.size + 2 := by simp
    rw [e] at h
    exact h
  have hx2 := (Below.heap_alloc (((w.alloc (.cells (scrA s (.slice ca s.cs.length cc) (.slice ta s.tabs.length tc) (.slice ga s.gone.length gc)) 32)).alloc (.cells #[.string what] 9)).alloc (.cells #[.int .i64 n] 3)) (.cells #[.int .i64 m] 3) _ (heap_lt hx2)).trans hx2
  have hx3 : ((((w.alloc (.cells (scrA s (.slice ca s.cs.length cc) (.slice ta s.tabs.length tc) (.slice ga s.gone.length gc)) 32)).alloc (.cells #[.string what] 9)).alloc (.cells #[.int .i64 n] 3)).alloc (.cells #[.int .i64 m] 3)).heap[w.heap.size + 3]? = some (.cells #[.int .i64 m] 3 (0, 0)) := by
    have h := heap_alloc_new (((w.alloc (.cells (scrA s (.slice ca s.cs.length cc) (.slice ta s.tabs.length tc) (.slice ga s.gone.length gc)) 32)).alloc (.cells #[.string what] 9)).alloc (.cells #[.int .i64 n] 3)) (.cells #[.int .i64 m] 3)
    have e : (((w.alloc (.cells (scrA s (.slice ca s.cs.length cc) (.slice ta s.tabs.length tc) (.slice ga s.gone.length gc)) 32)).alloc (.cells #[.string what] 9)).alloc (.cells #[.int .i64 n] 3)).heap.size = w.heap.size + 3 := by simp
    rw [e] at h
    exact h
  have HX0 : Hid _ := hx0
  have HKB : Hid _ := hkb
  have HC := hD _ (w.heap.size + 1) (w.heap.size + 2) (w.heap.size + 3) hkb (cell_box hx1) (cell_box hx2) (cell_box hx3)
  clear hkb hV hD hx0 hx1 hx2 hx3
  go_enter Tryz.func13, Tryz.ntmps13
  go_upto_region 1 with fail
  generalize ((((w.alloc (.cells (scrA s (.slice ca s.cs.length cc) (.slice ta s.tabs.length tc) (.slice ga s.gone.length gc)) 32)).alloc (.cells #[.string what] 9)).alloc (.cells #[.int .i64 n] 3)).alloc (.cells #[.int .i64 m] 3)) = X at *
  go_wp2_with (refine wpList_load_row rfl 32 (.tmp 5) rfl w.heap.size rfl _ _ _ _ HX0.out Tryz.underlying32 rfl (by kernel_rfl) ?_)
  refine HC.mono ?_
  rintro e V ⟨rfl, b⟩
  have HB : Hid (Below w.heap.size w V) := HKB.out.trans (b.mono HKB.out.size)
  clear HC b
  go_wp2_with fail
  go_ret
  exact ⟨rfl, HB.out⟩
set_option maxHeartbeats 2000000 in
set_option maxRecDepth 100000 in
theorem one1_calls (s s' : Scr) (cv tv gv : Value) (cf : FuncId) (hcf : Plain cf) (n : Int) (B1 B2 : Nat) (er : Int) (w0 w : World) (hV : ScrV w0 s cv tv gv) (hM : w0.heap.size ≤ w.heap.size) (h1 : w.cell? ⟨B1, 0, none⟩ = some (.func (.func cf) #[] #[])) (h2 : w.cell? ⟨B2, 0, none⟩ = some (.int .i64 n))
    (hC : ∀ W, Below w.heap.size w W → Calls Tryz.prog cf #[.agg (scrA s cv tv gv), .int .i64 n] W (Made w0 W s' er)) :
    Calls Tryz.prog 29 #[.agg (scrA s cv tv gv), .pointer (some ⟨B1, 0, none⟩), .pointer (some ⟨B2, 0, none⟩)] w (Made w0 w s' er) := by
  obtain ⟨ca, cc, rfl⟩ := hV.c.shape
  obtain ⟨ta, tc, rfl⟩ := hV.t.slice
  obtain ⟨ga, gc, rfl⟩ := hV.g.slice
  have hkb : Below w.heap.size w ((w.alloc (.cells (scrA s (.slice ca s.cs.length cc) (.slice ta s.tabs.length tc) (.slice ga s.gone.length gc)) 32)).alloc (.cells #[.int .i64 0, .int .i64 0, .slice none 0 0, .int .i64 0, .int .i64 0, .bool false, .int .i64 0, .int .i64 0, .int .i64 0, .int .i64 0, .int .i64 0, .int .i64 0, .slice none 0 0, .int .i64 0, .int .i64 0, .int .i64 0, .int .i64 0, .int .i64 0, .int .i64 0, .int .i32 0, .string ⟨#[]⟩, .slice none 0 0] 32)) := (((Below.refl _ _).alloc (by simp) _).alloc (by simp) _)
  have hx0 : (w.alloc (.cells (scrA s (.slice ca s.cs.length cc) (.slice ta s.tabs.length tc) (.slice ga s.gone.length gc)) 32)).heap[w.heap.size]? = some (.cells (scrA s (.slice ca s.cs.length cc) (.slice ta s.tabs.length tc) (.slice ga s.gone.length gc)) 32 (0, 0)) := by
    have h := heap_alloc_new w (.cells (scrA s (.slice ca s.cs.length cc) (.slice ta s.tabs.length tc) (.slice ga s.gone.length gc)) 32)
    have e : w.heap.size = w.heap.size := by simp
    rw [e] at h
    exact h
  have hx0 := (Below.heap_alloc (w.alloc (.cells (scrA s (.slice ca s.cs.length cc) (.slice ta s.tabs.length tc) (.slice ga s.gone.length gc)) 32)) (.cells #[.int .i64 0, .int .i64 0, .slice none 0 0, .int .i64 0, .int .i64 0, .bool false, .int .i64 0, .int .i64 0, .int .i64 0, .int .i64 0, .int .i64 0, .int .i64 0, .slice none 0 0, .int .i64 0, .int .i64 0, .int .i64 0, .int .i64 0, .int .i64 0, .int .i64 0, .int .i32 0, .string ⟨#[]⟩, .slice none 0 0] 32) _ (heap_lt hx0)).trans hx0
  have hx1 : ((w.alloc (.cells (scrA s (.slice ca s.cs.length cc) (.slice ta s.tabs.length tc) (.slice ga s.gone.length gc)) 32)).alloc (.cells #[.int .i64 0, .int .i64 0, .slice none 0 0, .int .i64 0, .int .i64 0, .bool false, .int .i64 0, .int .i64 0, .int .i64 0, .int .i64 0, .int .i64 0, .int .i64 0, .slice none 0 0, .int .i64 0, .int .i64 0, .int .i64 0, .int .i64 0, .int .i64 0, .int .i64 0, .int .i32 0, .string ⟨#[]⟩, .slice none 0 0] 32)).heap[w.heap.size + 1]? = some (.cells #[.int .i64 0, .int .i64 0, .slice none 0 0, .int .i64 0, .int .i64 0, .bool false, .int .i64 0, .int .i64 0, .int .i64 0, .int .i64 0, .int .i64 0, .int .i64 0, .slice none 0 0, .int .i64 0, .int .i64 0, .int .i64 0, .int .i64 0, .int .i64 0, .int .i64 0, .int .i32 0, .string ⟨#[]⟩, .slice none 0 0] 32 (0, 0)) := by
    have h := heap_alloc_new (w.alloc (.cells (scrA s (.slice ca s.cs.length cc) (.slice ta s.tabs.length tc) (.slice ga s.gone.length gc)) 32)) (.cells #[.int .i64 0, .int .i64 0, .slice none 0 0, .int .i64 0, .int .i64 0, .bool false, .int .i64 0, .int .i64 0, .int .i64 0, .int .i64 0, .int .i64 0, .int .i64 0, .slice none 0 0, .int .i64 0, .int .i64 0, .int .i64 0, .int .i64 0, .int .i64 0, .int .i64 0, .int .i32 0, .string ⟨#[]⟩, .slice none 0 0] 32)
    have e : (w.alloc (.cells (scrA s (.slice ca s.cs.length cc) (.slice ta s.tabs.length tc) (.slice ga s.gone.length gc)) 32)).heap.size = w.heap.size + 1 := by simp
    rw [e] at h
    exact h
  have HX0 : Hid _ := hx0
  have HXR : Hid _ := hx1
  have HKB : Hid _ := hkb
  have HC := hC _ hkb
  have q1 := cell_stay hkb h1
  have q2 := cell_stay hkb h2
  have hsz : w.heap.size ≤ ((w.alloc (.cells (scrA s (.slice ca s.cs.length cc) (.slice ta s.tabs.length tc) (.slice ga s.gone.length gc)) 32)).alloc (.cells #[.int .i64 0, .int .i64 0, .slice none 0 0, .int .i64 0, .int .i64 0, .bool false, .int .i64 0, .int .i64 0, .int .i64 0, .int .i64 0, .int .i64 0, .int .i64 0, .slice none 0 0, .int .i64 0, .int .i64 0, .int .i64 0, .int .i64 0, .int .i64 0, .int .i64 0, .int .i32 0, .string ⟨#[]⟩, .slice none 0 0] 32)).heap.size := hkb.size
  unfold Plain at hcf
  clear hkb hV hC hx0 hx1 h1 h2
  go_enter Tryz.func29, Tryz.ntmps29
  go_upto_region 1 with fail
  generalize ((w.alloc (.cells (scrA s (.slice ca s.cs.length cc) (.slice ta s.tabs.length tc) (.slice ga s.gone.length gc)) 32)).alloc (.cells #[.int .i64 0, .int .i64 0, .slice none 0 0, .int .i64 0, .int .i64 0, .bool false, .int .i64 0, .int .i64 0, .int .i64 0, .int .i64 0, .int .i64 0, .int .i64 0, .slice none 0 0, .int .i64 0, .int .i64 0, .int .i64 0, .int .i64 0, .int .i64 0, .int .i64 0, .int .i32 0, .string ⟨#[]⟩, .slice none 0 0] 32)) = X at *
  go_wp2_with (refine wpList_load_row rfl 32 (.tmp 3) rfl w.heap.size rfl _ _ _ _ HX0.out Tryz.underlying32 rfl (by kernel_rfl) ?_)
  refine HC.mono ?_
  rintro e V ⟨cv', tv', gv', rfl, hO, c2⟩
  obtain ⟨a1, n1, c1, a2, n2, c2', a3, n3, c3, rfl, rfl, rfl⟩ := hO.shapes
  have HO : Hid (ScrO V w0.heap.size _ s' _ _ _) := hO
  have HR : Hid (V.heap[w.heap.size + 1]? = _) := Grd.carry HXR.out c2
  have HB : Hid (Below w.heap.size w V) := HKB.out.trans (c2.mono HKB.out.size)
  clear hO c2 HC q1 q2
  go_wp2_with (refine wpList_store_row rfl 32 (.tmp 4) (.tmp 10) rfl (w.heap.size + 1) (scrA s' (.slice a1 n1 c1) (.slice a2 n2 c2') (.slice a3 n3 c3)) rfl rfl _ _ HR.out (by kernel_rfl) rfl (scr_one _ _ _ _ _ _ _ _ _ _) ?_)
  (try simp only [Exit.inBlock, Exit.then])
  refine bodyPost_ret (v := .tuple #[.agg (scrA s' (.slice a1 n1 c1) (.slice a2 n2 c2') (.slice a3 n3 c3)), .int .i64 er]) ?_ rfl ⟨_, _, _, rfl, ?_, below_setRow HB.out (by omega) _⟩
  · exact Grd.results_row_tmp rfl _ _ (w.heap.size + 1) _ _ _ _ rfl (setRow_heap _ _ _ _ _ _ HR.out) Tryz.underlying32 rfl (by kernel_rfl) _ rfl
  · exact (ScrO.off HO.out HR.out screen_is (by omega) fun k hk => setRow_other _ _ _ _ hk).mono hsz
set_option maxHeartbeats 2000000 in
set_option maxRecDepth 100000 in
theorem one_calls (s : Scr) (cv tv gv : Value) (cf : FuncId) (what : ByteArray) (n : Int) (w : World) (hV : ScrV w s cv tv gv)
    (hD : ∀ W B1 B2, Below w.heap.size w W → W.cell? ⟨B1, 0, none⟩ = some (.func (.func cf) #[] #[]) → W.cell? ⟨B2, 0, none⟩ = some (.int .i64 n) → Calls Tryz.prog 13 #[.agg (scrA s cv tv gv), .func (.func 29) #[] #[.pointer (some ⟨B1, 0, none⟩), .pointer (some ⟨B2, 0, none⟩)], .string what, .int .i64 n, .int .i64 0] W fun e w' => e = .returned (.bool true) ∧ Below W.heap.size W w') :
    Calls Tryz.prog 10 #[.agg (scrA s cv tv gv), .func (.func cf) #[] #[], .string what, .int .i64 n] w fun e w' => e = .returned (.bool true) ∧ Below w.heap.size w w' := by
  obtain ⟨ca, cc, rfl⟩ := hV.c.shape
  obtain ⟨ta, tc, rfl⟩ := hV.t.slice
  obtain ⟨ga, gc, rfl⟩ := hV.g.slice
  have hkb : Below w.heap.size w (((w.alloc (.cells (scrA s (.slice ca s.cs.length cc) (.slice ta s.tabs.length tc) (.slice ga s.gone.length gc)) 32)).alloc (.cells #[.func (.func cf) #[] #[]] 38)).alloc (.cells #[.int .i64 n] 3)) := ((((Below.refl _ _).alloc (by simp) _).alloc (by simp) _).alloc (by simp; omega) _)
  have hx0 : (w.alloc (.cells (scrA s (.slice ca s.cs.length cc) (.slice ta s.tabs.length tc) (.slice ga s.gone.length gc)) 32)).heap[w.heap.size]? = some (.cells (scrA s (.slice ca s.cs.length cc) (.slice ta s.tabs.length tc) (.slice ga s.gone.length gc)) 32 (0, 0)) := by
    have h := heap_alloc_new w (.cells (scrA s (.slice ca s.cs.length cc) (.slice ta s.tabs.length tc) (.slice ga s.gone.length gc)) 32)
    have e : w.heap.size = w.heap.size := by simp
    rw [e] at h
    exact h
  have hx0 := (Below.heap_alloc (w.alloc (.cells (scrA s (.slice ca s.cs.length cc) (.slice ta s.tabs.length tc) (.slice ga s.gone.length gc)) 32)) (.cells #[.func (.func cf) #[] #[]] 38) _ (heap_lt hx0)).trans hx0
  have hx0 := (Below.heap_alloc ((w.alloc (.cells (scrA s (.slice ca s.cs.length cc) (.slice ta s.tabs.length tc) (.slice ga s.gone.length gc)) 32)).alloc (.cells #[.func (.func cf) #[] #[]] 38)) (.cells #[.int .i64 n] 3) _ (heap_lt hx0)).trans hx0
  have hx1 : ((w.alloc (.cells (scrA s (.slice ca s.cs.length cc) (.slice ta s.tabs.length tc) (.slice ga s.gone.length gc)) 32)).alloc (.cells #[.func (.func cf) #[] #[]] 38)).heap[w.heap.size + 1]? = some (.cells #[.func (.func cf) #[] #[]] 38 (0, 0)) := by
    have h := heap_alloc_new (w.alloc (.cells (scrA s (.slice ca s.cs.length cc) (.slice ta s.tabs.length tc) (.slice ga s.gone.length gc)) 32)) (.cells #[.func (.func cf) #[] #[]] 38)
    have e : (w.alloc (.cells (scrA s (.slice ca s.cs.length cc) (.slice ta s.tabs.length tc) (.slice ga s.gone.length gc)) 32)).heap.size = w.heap.size + 1 := by simp
    rw [e] at h
    exact h
  have hx1 := (Below.heap_alloc ((w.alloc (.cells (scrA s (.slice ca s.cs.length cc) (.slice ta s.tabs.length tc) (.slice ga s.gone.length gc)) 32)).alloc (.cells #[.func (.func cf) #[] #[]] 38)) (.cells #[.int .i64 n] 3) _ (heap_lt hx1)).trans hx1
  have hx2 : (((w.alloc (.cells (scrA s (.slice ca s.cs.length cc) (.slice ta s.tabs.length tc) (.slice ga s.gone.length gc)) 32)).alloc (.cells #[.func (.func cf) #[] #[]] 38)).alloc (.cells #[.int .i64 n] 3)).heap[w.heap.size + 2]? = some (.cells #[.int .i64 n] 3 (0, 0)) := by
    have h := heap_alloc_new ((w.alloc (.cells (scrA s (.slice ca s.cs.length cc) (.slice ta s.tabs.length tc) (.slice ga s.gone.length gc)) 32)).alloc (.cells #[.func (.func cf) #[] #[]] 38)) (.cells #[.int .i64 n] 3)
    have e : ((w.alloc (.cells (scrA s (.slice ca s.cs.length cc) (.slice ta s.tabs.length tc) (.slice ga s.gone.length gc)) 32)).alloc (.cells #[.func (.func cf) #[] #[]] 38)).heap.size = w.heap.size + 2 := by simp
    rw [e] at h
    exact h
  have HX0 : Hid _ := hx0
  have HKB : Hid _ := hkb
  have HC := hD _ (w.heap.size + 1) (w.heap.size + 2) hkb (cell_box hx1) (cell_box hx2)
  have q2 := cell_box hx2
  clear hkb hV hD hx0 hx1 hx2
  go_enter Tryz.func10, Tryz.ntmps10
  go_upto_region 1 with fail
  generalize (((w.alloc (.cells (scrA s (.slice ca s.cs.length cc) (.slice ta s.tabs.length tc) (.slice ga s.gone.length gc)) 32)).alloc (.cells #[.func (.func cf) #[] #[]] 38)).alloc (.cells #[.int .i64 n] 3)) = X at *
  go_wp2_with (refine wpList_load_row rfl 32 (.tmp 4) rfl w.heap.size rfl _ _ _ _ HX0.out Tryz.underlying32 rfl (by kernel_rfl) ?_)
  refine HC.mono ?_
  rintro e V ⟨rfl, b⟩
  have HB : Hid (Below w.heap.size w V) := HKB.out.trans (b.mono HKB.out.size)
  clear HC b q2
  go_wp2_with fail
  go_ret
  exact ⟨rfl, HB.out⟩
theorem plain_one : Plain 29 := by
  intro args W
  kernel_rfl
/-- What a call makes, and what is to be done, of a right screen. -/
def Agrees (what : ByteArray) (n m : Int) (s s' : Scr) (nn hh : Nat) : Prop := Small s' ∧ ∃ s2 rows2, ActMakes what n m s s2 (rowsL nn s.cs hh) rows2 ∧ rows2.length = hh ∧ (∀ i, i < rows2.length → (rows2.getD i []).length = nn) ∧ { s2 with w := (nn : Int), h := (hh : Int), cs := rows2.flatten } = s'
/-- A call, by a name. -/
theorem acts_any (s : Scr) (cv tv gv : Value) (cf : FuncId) (hcf : Plain cf) (ccaps : Array Value) (what : ByteArray) (n m : Int) (w : World) (hT : Txt.Tab w) (hV : ScrV w s cv tv gv) (hB : Bulk s) (s' : Scr)
    (hbad : scrErr s ≠ 0 → ∀ w0 W cv tv gv, Below w.heap.size w w0 → Met w0 W s cv tv gv → Calls Tryz.prog cf (#[.agg (scrA s cv tv gv)] ++ ccaps) W (Made w0 W zScr (scrErr s)))
    (hgood : ∀ nn hh, RightS s nn hh → (∀ w0 W cv tv gv, Below w.heap.size w w0 → Met w0 W s cv tv gv → Calls Tryz.prog cf (#[.agg (scrA s cv tv gv)] ++ ccaps) W (Made w0 W s' 0)) ∧ Agrees what n m s s' nn hh) :
    Calls Tryz.prog 13 #[.agg (scrA s cv tv gv), .func (.func cf) #[] ccaps, .string what, .int .i64 n, .int .i64 m] w fun e w' => e = .returned (.bool true) ∧ Below w.heap.size w w' :=
  acts_calls s cv tv gv _ what n m w hV fun W B1 B2 B3 hW h1 h2 h3 => by
    by_cases hz : scrErr s = 0
    · obtain ⟨nn, hh, hR⟩ := right_of s hz
      obtain ⟨hc, hS, s2, rows2, hA, hrl, hrn, heq⟩ := hgood nn hh hR
      exact does_good s s' s2 nn hh rows2 cv tv gv cf _ ccaps _ hcf plain_acts W (Grd.Tab.next hT hW) (hV.next hW) hB hR hz hS (acts1_acts hA B1 B2 B3 W h1 h2 h3) hrl hrn heq fun w0 W' cv' tv' gv' hb hm => hc w0 W' cv' tv' gv' (hW.trans (hb.mono hW.size)) hm
    · exact does_bad s cv tv gv cf ccaps _ hcf W (Grd.Tab.next hT hW) (hV.next hW) hB hz fun w0 W' cv' tv' gv' hb hm => hbad hz w0 W' cv' tv' gv' (hW.trans (hb.mono hW.size)) hm
/-- A call with one number, by a name. -/
theorem one_any (s : Scr) (cv tv gv : Value) (cf : FuncId) (hcf : Plain cf) (what : ByteArray) (n : Int) (w : World) (hT : Txt.Tab w) (hV : ScrV w s cv tv gv) (hB : Bulk s) (s' : Scr)
    (hbad : scrErr s ≠ 0 → ∀ w0 W cv tv gv, Met w0 W s cv tv gv → Calls Tryz.prog cf #[.agg (scrA s cv tv gv), .int .i64 n] W (Made w0 W zScr (scrErr s)))
    (hgood : ∀ nn hh, RightS s nn hh → (∀ w0 W cv tv gv, Met w0 W s cv tv gv → Calls Tryz.prog cf #[.agg (scrA s cv tv gv), .int .i64 n] W (Made w0 W s' 0)) ∧ Agrees what n 0 s s' nn hh) :
    Calls Tryz.prog 10 #[.agg (scrA s cv tv gv), .func (.func cf) #[] #[], .string what, .int .i64 n] w fun e w' => e = .returned (.bool true) ∧ Below w.heap.size w w' :=
  one_calls s cv tv gv cf what n w hV fun W B1 B2 hW h1 h2 =>
    acts_any s cv tv gv _ plain_one _ what n 0 W (Grd.Tab.next hT hW) (hV.next hW) hB s'
      (fun hz w0 W' cv' tv' gv' hb hm => one1_calls s zScr cv' tv' gv' cf hcf n B1 B2 _ w0 W' hm.v hm.b.size (cell_stay (hb.trans (hm.b.mono hb.size)) h1) (cell_stay (hb.trans (hm.b.mono hb.size)) h2) fun V hV' => hbad hz w0 V cv' tv' gv' (hm.next hV'))
      (fun nn hh hR => ⟨fun w0 W' cv' tv' gv' hb hm => one1_calls s s' cv' tv' gv' cf hcf n B1 B2 _ w0 W' hm.v hm.b.size (cell_stay (hb.trans (hm.b.mono hb.size)) h1) (cell_stay (hb.trans (hm.b.mono hb.size)) h2) fun V hV' => (hgood nn hh hR).1 w0 V cv' tv' gv' (hm.next hV'), (hgood nn hh hR).2⟩)
end Put
end Go.Proofs.YtennlgkjckcjoaaGreatDoor

/- The desk's Go, often, rowOf. -/
namespace Go.Proofs.YtennlgkjckcjoaaGreatDoor
open Go.ChangeShapes Go.WideShapes Go.ChangeAt Go.RowKit
namespace Put
open Grd (C SliceAt CellsAt gridErr z0 nilV rowsL RowsAt RowB flat)
theorem below_drewN (W : World) (k : Nat) : Below W.heap.size W (W.drewN k) := ⟨rfl, rfl, rfl, Nat.le_refl _, fun _ _ => rfl⟩
def oft (n : Int) : Int := max 1 (min n 9999)
theorem oft_cnt (n : Int) : oft n = cnt n := by unfold oft cnt withinI; omega
theorem often_any (n : Int) (w : World) : Calls Tryz.prog 72 #[.int .i64 n] w fun e w' => e = .returned (.int .i64 (cnt n)) ∧ w = w' := by
  have h1 := Grd.min2 n 9999
  have h2 := Grd.max2 1 (min n 9999)
  have HE : Hid (max 1 (min n 9999) = cnt n) := oft_cnt n
  go_enter Tryz.func72, Tryz.ntmps72
  go_wp2_with fail
  go_ret
  exact ⟨ret_int HE.out, rfl⟩
/-- A place within the screen. -/
def goS (s : Scr) (x y : Int) : Scr := { s with x := max 0 (min x (s.w - 1)), y := max 0 (min y (s.h - 1)), late := false }
theorem DkAt.three {W : World} {N p : Nat} {s : Scr} {rows : List (List C)} (h : DkAt W N p s rows) (x y : Int) : DkAt (((W.setCell ⟨p, 3, none⟩ (.int .i64 x)).setCell ⟨p, 4, none⟩ (.int .i64 y)).setCell ⟨p, 5, none⟩ (.bool false)) N p { s with x := x, y := y, late := false } rows ∧ Below N W (((W.setCell ⟨p, 3, none⟩ (.int .i64 x)).setCell ⟨p, 4, none⟩ (.int .i64 y)).setCell ⟨p, 5, none⟩ (.bool false)) := by
  have h1 : DkAt (W.setCell ⟨p, 3, none⟩ (.int .i64 x)) N p { s with x := x } rows := h.set 3 _ (fun _ _ _ _ => rfl) rfl rfl
  have h2 : DkAt ((W.setCell ⟨p, 3, none⟩ (.int .i64 x)).setCell ⟨p, 4, none⟩ (.int .i64 y)) N p { s with x := x, y := y } rows := h1.set 4 _ (fun _ _ _ _ => rfl) rfl rfl
  refine ⟨h2.set 5 _ (fun _ _ _ _ => rfl) rfl rfl, (((Below.refl _ _).setCell h.lo _).setCell h.lo _).setCell h.lo _⟩
theorem DkAt.drew {W : World} {N p : Nat} {s : Scr} {rows : List (List C)} (h : DkAt W N p s rows) : DkAt W.drew N p s rows := h.next ((Below.refl _ _).drew)
set_option maxHeartbeats 4000000 in
theorem go_any {N p : Nat} {s : Scr} {rows : List (List C)} (x y : Int) (W : World) (h : DkAt W N p s rows) (w1 : 1 ≤ s.w) (w2 : s.w ≤ 120) (w3 : 1 ≤ s.h) (w4 : s.h ≤ 60) :
    Calls Tryz.prog 71 #[.pointer (some ⟨p, 0, none⟩), .int .i64 x, .int .i64 y] W fun e W' => e = .returned (.tuple #[]) ∧ DkAt W' N p (goS s x y) rows ∧ Below N W W' := by
  obtain ⟨c0, c1, c3, c4, c5, c9, c10, c11, c19, f⟩ := h.words
  have f3 := f 3
  have f4 := f 4
  have f5 := f 5
  have m1 := Grd.min2 x (s.w - 1)
  have m2 := Grd.max2 0 (min x (s.w - 1))
  have m3 := Grd.min2 y (s.h - 1)
  have m4 := Grd.max2 0 (min y (s.h - 1))
  have h3 := h.three (max 0 (min x (s.w - 1))) (max 0 (min y (s.h - 1)))
  have HE : Hid _ := And.intro h3.1.drew h3.2.drew
  clear h h3 c9 c10 c11 c19 f
  go_enter Tryz.func71, Tryz.ntmps71
  go_upto_region 0 with fail
  go_region
  all_goals go_end0
  all_goals exact ⟨rfl, HE.out⟩
theorem has_bits (m : Int) (h0 : 0 ≤ m) (h1 : m ≤ 63) : hasB m 1 = !(bits .and .i64 m 1 == 0) ∧ hasB m 2 = !(bits .and .i64 m 2 == 0) ∧ hasB m 4 = !(bits .and .i64 m 4 == 0) := by
  have key : ∀ k : Fin 64, hasB (k.val : Int) 1 = !(bits .and .i64 (k.val : Int) 1 == 0) ∧ hasB (k.val : Int) 2 = !(bits .and .i64 (k.val : Int) 2 == 0) ∧ hasB (k.val : Int) 4 = !(bits .and .i64 (k.val : Int) 4 == 0) := by decide +kernel
  have h := key ⟨m.toNat, by omega⟩
  have e : ((m.toNat : Nat) : Int) = m := by omega
  simp only [e] at h
  exact h
theorem RightS.modes {s : Scr} {n hh : Nat} (h : RightS s n hh) : 0 ≤ s.modes ∧ s.modes ≤ 63 := by
  have := h.looks
  simp only [looksOk, Bool.and_eq_true, decide_eq_true_eq] at this
  exact this.2.2.1
set_option maxHeartbeats 4000000 in
theorem rowOf_any {N p : Nat} {s : Scr} {rows : List (List C)} (n : Int) (W : World) (h : DkAt W N p s rows) (t0 : 0 ≤ s.top) (t1 : s.top ≤ 60) (hb : hasB s.modes 2 = !(bits .and .i64 s.modes 2 == 0)) :
    Calls Tryz.prog 73 #[.pointer (some ⟨p, 0, none⟩), .int .i64 n] W fun e W' => e = .returned (.int .i64 (if hasB s.modes 2 then min (s.top + (cnt n - 1)) s.bot else cnt n - 1)) ∧ Below W.heap.size W W' := by
  obtain ⟨c0, c1, c3, c4, c5, c9, c10, c11, c19, f⟩ := h.words
  have hc := cnt_range n
  have HO : Hid (∀ W, Calls Tryz.prog 72 #[.int .i64 n] W fun e w' => e = .returned (.int .i64 (cnt n)) ∧ W = w') := fun W => often_any n W
  clear h c0 c1 c3 c4 c5 c19 f
  cases hq : (bits .and .i64 s.modes 2 == 0) with
  | true =>
    rw [hq] at hb
    rw [hb, if_neg (by simp)]
    clear hb
    generalize cnt n = k at *
    go_enter Tryz.func73, Tryz.ntmps73
    go_wp2_with fail
    refine (HO.out _).mono ?_
    rintro e V ⟨rfl, hv⟩
    subst hv
    go_wp2_with fail
    go_ret
    exact ⟨rfl, Below.refl _ _⟩
  | false =>
    rw [hq] at hb
    rw [hb, if_pos (by simp)]
    clear hb
    generalize cnt n = k at *
    have hw1 : IntKind.i64.wrap (s.top + k) = s.top + k := wrap_id _ (by omega) (by omega)
    have hw2 : IntKind.i64.wrap (s.top + k - 1) = s.top + k - 1 := wrap_id _ (by omega) (by omega)
    have HM : Hid (min (s.top + k - 1) s.bot = min (s.top + (k - 1)) s.bot) := by unfold Hid; omega
    go_enter Tryz.func73, Tryz.ntmps73
    go_upto_region 3 with fail
    go_region_held3 (fun w' => w'.cell? ⟨p, 9, none⟩ = some (.int .i64 s.top) ∧ w'.cell? ⟨p, 10, none⟩ = some (.int .i64 s.bot)) (go_keep) (first | (go_at_call 72; refine (HO.out _).mono ?_; rintro e V ⟨rfl, hv⟩; subst hv))
    all_goals go_wp2_with fail
    all_goals go_ret
    all_goals exact ⟨ret_int HM.out, (Below.refl _ _).drew⟩
end Put
end Go.Proofs.YtennlgkjckcjoaaGreatDoor

/- slices.Delete of one row. -/
namespace Go.Proofs.YtennlgkjckcjoaaGreatDoor
open Go.ChangeShapes Go.WideShapes Go.ChangeAt Go.RowKit
namespace Put
open Grd (C nilV)
def delRen : Go.Shelf.Ren := ⟨fun | 45 => 120 | n => n, fun | 0 => 0 | 3 => 3 | 4 => 4 | 22 => 30 | 23 => 22 | n => n, fun | n => n⟩
theorem delLays : SlLaysE.n45 Tryz.prog delRen := {
  mixed := by kernel_rfl
  f45 := Exists.intro "slices.Delete[[][]trellis/api.Cell,[]trellis/api.Cell]" ⟨by kernel_rfl, Tryz.func120.trans (congrArg some (by kernel_rfl))⟩
  t0 := Tryz.underlying0
  a0 := Tryz.isAgg0
  z0 := Tryz.sizeOf0
  v0 := Tryz.zeroValue0
  t3 := Tryz.underlying3
  a3 := Tryz.isAgg3
  z3 := Tryz.sizeOf3
  v3 := Tryz.zeroValue3
  t4 := Tryz.underlying4
  a4 := Tryz.isAgg4
  z4 := Tryz.sizeOf4
  v4 := Tryz.zeroValue4
  t22 := Tryz.underlying30
  a22 := Tryz.isAgg30
  z22 := Tryz.sizeOf30
  v22 := Tryz.zeroValue30
  a23 := Tryz.isAgg22
  z23 := Tryz.sizeOf22 }
/-- A slice's words. -/
abbrev Sl := Option Addr × Nat × Nat
def encS (x : Sl) : Value := .slice x.1 x.2.1 x.2.2
theorem encS_one : OneCell encS := fun _ => rfl
def IsSl (v : Value) : Prop := ∃ x : Sl, v = encS x
theorem sls_of : ∀ (vs : List Value), (∀ v, v ∈ vs → IsSl v) → ∃ zs : List Sl, vs = zs.map encS
  | [], _ => ⟨[], rfl⟩
  | v :: vs, h => by
    obtain ⟨x, hx⟩ := h v (by simp)
    obtain ⟨zs, hz⟩ := sls_of vs fun u hu => h u (by simp [hu])
    exact ⟨x :: zs, by rw [hx, hz]; rfl⟩
theorem info_rows1 : (Tryz.prog.info? 22).map (·.size) = some 1 := by kernel_rfl
theorem putRow_other {w : World} {g q k : Nat} {d : Array Sl} (h : k ≠ g) : (Sort.putRow encS (Sort.ahead w q) g 0 d).heap[k]? = w.heap[k]? := by
  simp [Sort.putRow, Sort.mapBlock, Sort.ahead, Array.getElem?_modify, Ne.symm h]
/-- One row goes. -/
theorem delete_own (N g n cap i : Nat) (vs : List Value) (w : World) (h : w.ownsRow N 22 1 (.slice (some ⟨g, 0, none⟩) n cap) n vs) (hv : ∀ v, v ∈ vs → IsSl v) (hi : i < n) :
    Calls Tryz.prog 120 #[.slice (some ⟨g, 0, none⟩) n cap, .int .i64 (i : Int), .int .i64 ((i + 1 : Nat) : Int)] w fun e w' => e = .returned (.slice (some ⟨g, 0, none⟩) (n - 1) cap) ∧ w'.ownsRow N 22 1 (.slice (some ⟨g, 0, none⟩) (n - 1) cap) (n - 1) (vs.eraseIdx i) ∧ (∀ k, k ≠ g → w'.heap[k]? = w.heap[k]?) ∧ Below g w w' := by
  obtain ⟨zs, rfl⟩ := sls_of vs hv
  obtain ⟨g', cap', e0, -, -, h1, h2, hl, hH⟩ := Lib.holds_of_ownsRow h (by intro e; cases e)
  injection e0 with e1 _ e3
  injection e1 with e1
  injection e1 with e1
  subst e1 e3
  obtain ⟨i0, hi0, hz⟩ := Option.map_eq_some_iff.1 info_rows1
  have key := AnyE.slices_Delete delLays encS encS_one (none, 0, 0) Tryz.zeroValue22 i0 hi0 hz g 0 cap i (i + 1) zs.toArray w hH (by simpa [hl] using h1) (by unfold maxLen at h2; omega) (by omega) (by simp; omega)
  have hsz : zs.toArray.size = n := by simp [hl]
  rw [hsz, Nat.add_sub_cancel_left] at key
  refine Calls.mono key ?_
  rintro e w' ⟨rfl, q, rfl⟩
  refine ⟨rfl, ?_, fun k hk => putRow_other hk, Lib.below_putRow (Below.refl _ _) (Nat.le_refl _)⟩
  have hlen : (zs.take i ++ zs.drop (i + 1) ++ List.replicate 1 ((none, 0, 0) : Sl)).length = n := by simp; omega
  have := Lib.ownsRow_putRow (q := q) (k := n - 1) h hlen (by omega)
  have e : (zs.take i ++ zs.drop (i + 1) ++ List.replicate 1 ((none, 0, 0) : Sl)).take (n - 1) = zs.eraseIdx i := by
    rw [List.eraseIdx_eq_take_drop_succ, List.take_left' (by simp; omega)]
  rw [e] at this
  have e2 : (zs.map encS).eraseIdx i = (zs.eraseIdx i).map encS := by rw [List.eraseIdx_eq_take_drop_succ, List.eraseIdx_eq_take_drop_succ, List.map_append, List.map_take, List.map_drop]
  rw [e2]
  exact this
end Put
end Go.Proofs.YtennlgkjckcjoaaGreatDoor

/- slices.Insert of one row, where there is room. -/
namespace Go.Proofs.YtennlgkjckcjoaaGreatDoor
open Go.ChangeShapes Go.WideShapes Go.ChangeAt Go.RowKit
namespace Put
open Grd (C nilV)
theorem wp_copyR {P : Program} (w : World) {o : Oper} {a : Act} {K : Act → World → Prop} {Q : Exit → Act → World → Prop} (d s : Operand) (t t' : TypeId)
    (ho : o.op = .call { callee := .builtin .copy, args := #[d, s], argTypes := #[t, t'] }) (v u : Value) (hd : a.eval d = v) (hs : a.eval s = u) {v' : Value} {w' : World}
    (hr : (Builtin.copy_ #[t, t'] o.type #[v, u]).run P w = .ok v' w') (h : K (a.put o.dst v') w') : o.wp P a w K Q := by
  unfold Oper.wp execOp
  simp only [ho, resolve, invoke, builtin, Sem.run_bind, Sem.run_pure, Result.andThen_ok, List.map_toArray, List.map_cons, List.map_nil, hd, hs, hr]
  exact h
theorem wpList_copyR {P : Program} (w : World) {ops : Array Oper} {rest : List Oper} {o : Oper} {a : Act} {Q : Exit → Act → World → Prop} (hgd : o.guard = none) (d s : Operand) (t t' : TypeId)
    (ho : o.op = .call { callee := .builtin .copy, args := #[d, s], argTypes := #[t, t'] }) (v u : Value) (hd : a.eval d = v) (hs : a.eval s = u) {v' : Value} {w' : World}
    (hr : (Builtin.copy_ #[t, t'] o.type #[v, u]).run P w = .ok v' w') (h : wpList P ops Q rest (a.put o.dst v') w') : wpList P ops Q (o :: rest) a w :=
  wpList_plain hgd fun _ hK => wp_copyR w d s t t' ho v u hd hs hr (hK _ _ h)
theorem step_copyR {P : Program} {ops : Array Oper} {o : Oper} {a : Act} {w : World} {K : Act → World → Prop} {Q : Exit → Act → World → Prop} {E : Prop}
    (hg : o.guard = none) (d x : Operand) (dT sT : TypeId) (hop : o.op = Op.call { callee := Callee.builtin Builtin.copy, args := #[d, x], argTypes := #[dT, sT] })
    (v u : Value) (hd : a.eval d = v) (hx : a.eval x = u) {v' : Value} {w' : World} (hr : (Builtin.copy_ #[dT, sT] o.type #[v, u]).run P w = .ok v' w') (hK : K (a.put o.dst v') w') :
    if Region.wanted o (yielded ops a.tmps) = true then Oper.wp P o a w K Q else E := by
  have hw : Region.wanted o (yielded ops a.tmps) = true := by simp [Region.wanted, hg]
  rw [if_pos hw]
  unfold Oper.wp
  simp [execOp, hop, resolve, invoke, builtin, hd, hx, hr, Result.andThen]
  exact hK
/-- Words set one behind the other. -/
def setL (cur : Array Value) (o : Nat) : List Value → Array Value
  | [] => cur
  | v :: r => setL (cur.setIfInBounds o v) (o + 1) r
theorem setL_size : ∀ (xs : List Value) (cur : Array Value) (o : Nat), (setL cur o xs).size = cur.size
  | [], _, _ => rfl
  | v :: r, cur, o => by
    show (setL (cur.setIfInBounds o v) (o + 1) r).size = _
    rw [setL_size r]
    simp
theorem setL_at : ∀ (xs : List Value) (cur : Array Value) (o j : Nat), j < cur.size → (setL cur o xs)[j]? = if o ≤ j ∧ j < o + xs.length then xs[j - o]? else cur[j]?
  | [], cur, o, j, h => by
    rw [if_neg (by simp)]
    rfl
  | v :: r, cur, o, j, h => by
    show (setL (cur.setIfInBounds o v) (o + 1) r)[j]? = _
    rw [setL_at r _ _ j (by simpa using h)]
    by_cases h1 : o + 1 ≤ j ∧ j < o + 1 + r.length
    · rw [if_pos h1, if_pos (by simp; omega), show j - o = (j - (o + 1)) + 1 by omega]
      rfl
    · rw [if_neg h1]
      by_cases h2 : j = o
      · subst h2
        rw [if_pos (by simp)]
        simp [h]
      · rw [if_neg (by simp; omega), Array.getElem?_setIfInBounds_ne (Ne.symm h2)]
theorem setL_heap (g : Nat) (e : TypeId) : ∀ (xs : List Value) (w : World) (o : Nat) (cur : Array Value), w.heap[g]? = some (.cells cur e (0, 0)) → (w.setCells g o xs).heap[g]? = some (.cells (setL cur o xs) e (0, 0))
  | [], _, _, _, h => h
  | v :: r, w, o, cur, h => setL_heap g e r _ _ _ (heap_setCell_same w g o cur e v h)
/-- One row more. -/
theorem ins_list (cur : Array Value) (vs : List Value) (n i : Nat) (v : Value) (hl : vs.length = n) (hi : i ≤ n) (hs : n + 1 ≤ cur.size) (ht : cur.toList.take n = vs) : (setL (setL cur (i + 1) (vs.drop i)) i [v]).toList.take (n + 1) = vs.insertIdx i v := by
  apply List.ext_getElem?
  intro j
  have hc : ∀ k, k < n → cur[k]? = vs[k]? := fun k hk => by rw [← ht, List.getElem?_take_of_lt hk, Array.getElem?_toList]
  by_cases hj : j < n + 1
  · rw [List.getElem?_take_of_lt hj, Array.getElem?_toList, setL_at _ _ _ _ (by rw [setL_size]; omega), List.getElem?_insertIdx]
    by_cases h1 : j < i
    · rw [if_neg (by simp; omega), setL_at _ _ _ _ (by omega), if_neg (by simp; omega), if_pos h1, hc j (by omega)]
    · rw [if_neg h1]
      by_cases h2 : j = i
      · subst h2
        rw [if_pos (by simp), if_pos rfl, if_pos (by omega)]
        simp
      · rw [if_neg (by simp; omega), setL_at _ _ _ _ (by omega), if_pos (by simp; omega), if_neg h2, List.getElem?_drop]
        congr 1
        omega
  · rw [List.getElem?_eq_none (by simp; omega), List.getElem?_eq_none (by rw [List.length_insertIdx]; split <;> omega)]
theorem ins_end (cur : Array Value) (vs : List Value) (n : Nat) (v : Value) (hl : vs.length = n) (hs : n + 1 ≤ cur.size) (ht : cur.toList.take n = vs) : (setL cur n [v]).toList.take (n + 1) = vs.insertIdx n v := by
  have := ins_list cur vs n n v hl (Nat.le_refl _) hs ht
  rw [List.drop_of_length_le (by omega)] at this
  exact this
theorem heap_setCells_off (g k : Nat) (h : k ≠ g) : ∀ (xs : List Value) (o : Nat) (w : World), (w.setCells g o xs).heap[k]? = w.heap[k]? := fun xs o w => Grd.heap_setCells_ne _ k h xs o w
set_option maxHeartbeats 4000000 in
set_option maxRecDepth 100000 in
theorem insert_end (N g n cap vb vc : Nat) (vs : List Value) (v : Value) (w : World) (h : w.ownsRow N 22 1 (.slice (some ⟨g, 0, none⟩) n cap) n vs) (hsv : IsSl v) (hroom : n + 1 ≤ cap) (hvb : w.cell? ⟨vb, 0, none⟩ = some v) :
    Calls Tryz.prog 119 #[.slice (some ⟨g, 0, none⟩) n cap, .int .i64 (n : Int), .slice (some ⟨vb, 0, none⟩) 1 vc] w fun e w' => e = .returned (.slice (some ⟨g, 0, none⟩) (n + 1) cap) ∧ w'.ownsRow N 22 1 (.slice (some ⟨g, 0, none⟩) (n + 1) cap) (n + 1) (vs.insertIdx n v) ∧ (∀ k, k ≠ g → w'.heap[k]? = w.heap[k]?) ∧ Below g w w' := by
  obtain ⟨h0, ⟨h1, -⟩ | ⟨g', cap', cur, hv, hb, hg, hn, hm, hs, ht⟩⟩ := h
  · injection h1 with h1
    cases h1
  injection hv with e1 _ e3
  injection e1 with e1
  injection e1 with e1
  subst e1 e3
  rw [Nat.mul_one] at h0 hs ht
  obtain ⟨x, rfl⟩ := hsv
  have hc63 : cap ≤ 9223372036854775807 := by unfold maxLen at hm; omega
  obtain ⟨i0, hi0, hz⟩ := Option.map_eq_some_iff.1 info_rows1
  have hsrc : Src Tryz.prog 1 30 (.slice (some ⟨vb, 0, none⟩) 1 vc) 1 [encS x] w := Src.ofSlice w und_rows ⟨vb, 0, none⟩ 1 vc [encS x] (by simp) (fun j u hj => by
    rw [Addr.add_lit]
    match j, hj with
    | 0, hj => rw [← Option.some.inj hj]; exact hvb) (by simp [encS, Value.oneCell'])
  have hcell : ∀ j, j < 1 → (w.cell? ⟨g, 0 + n + j, none⟩).isSome = true := fun j hj => by
    simp only [World.cell?, hg]
    simp only [Option.isSome_none, Bool.false_eq_true, if_false]
    rw [Array.getElem?_eq_getElem (by omega)]
    rfl
  have hfz : ∀ j, j < 1 → w.frozen? ⟨g, 0 + n + j, none⟩ = false := fun j _ => by simp [World.frozen?, hg]
  have HE : Hid ((w.setCells g n [encS x]).ownsRow N 22 1 (.slice (some ⟨g, 0, none⟩) (n + 1) cap) (n + 1) (vs.insertIdx n (encS x)) ∧ (∀ k, k ≠ g → (w.setCells g n [encS x]).heap[k]? = w.heap[k]?) ∧ Below g w (w.setCells g n [encS x])) := by
    refine ⟨⟨by rw [List.length_insertIdx, if_pos (by omega)]; omega, .inr ⟨g, cap, _, rfl, hb, setL_heap g _ [encS x] w n cur hg, hroom, hm, by rw [setL_size]; omega, ?_⟩⟩, fun k hk => heap_setCells_off g k hk _ _ _, Grd.below_cells (Nat.le_refl _) _ _ _ (Below.refl _ _)⟩
    rw [Nat.mul_one]
    exact ins_end cur vs n (encS x) h0 (by omega) ht
  clear hg ht hs
  go_enter Tryz.func119, Tryz.ntmps119
  go_wp2_with (at_builtin; refine wpList_append_room1 _ rfl _ _ 30 30 rfl 22 _ _ und_rows info_rows g 0 n cap rfl _ rfl 1 [encS x] hsrc hroom (by simpa using hcell) (by simpa using hfz) ?_)
  go_ret
  exact ⟨rfl, HE.out⟩
theorem isSome_setC (b : Nat) (vs : List Value) (o : Nat) (w : World) (h : ∀ j, j < vs.length → (w.cell? ⟨b, o + j, none⟩).isSome = true) (k : Nat) (hk : (w.cell? ⟨b, k, none⟩).isSome = true) : ((w.setCells b o vs).cell? ⟨b, k, none⟩).isSome = true := by
  by_cases hin : o ≤ k ∧ k < o + vs.length
  · have := World.cell?_setCells_in b vs o w h (k - o) (by omega)
    rw [show o + (k - o) = k by omega] at this
    rw [this]
    simp
  · rw [World.cell?_setCells_out b vs o w ⟨b, k, none⟩ (fun _ _ => by show k < o ∨ o + vs.length ≤ k; omega)]
    exact hk
set_option maxHeartbeats 4000000 in
set_option maxRecDepth 100000 in
theorem insert_shift (N g n cap i vb vc : Nat) (vs : List Value) (v : Value) (w : World) (h : w.ownsRow N 22 1 (.slice (some ⟨g, 0, none⟩) n cap) n vs) (hvs : ∀ u, u ∈ vs → IsSl u) (hsv : IsSl v) (hi : i < n) (hroom : n + 1 ≤ cap) (hvb : w.heap[vb]? = some (.cells #[v] 22 (0, 0))) (hne : vb ≠ g) :
    Calls Tryz.prog 119 #[.slice (some ⟨g, 0, none⟩) n cap, .int .i64 (i : Int), .slice (some ⟨vb, 0, none⟩) 1 vc] w fun e w' => e = .returned (.slice (some ⟨g, 0, none⟩) (n + 1) cap) ∧ w'.ownsRow N 22 1 (.slice (some ⟨g, 0, none⟩) (n + 1) cap) (n + 1) (vs.insertIdx i v) ∧ (∀ k, k ≠ g → w'.heap[k]? = w.heap[k]?) ∧ Below g w w' := by
  obtain ⟨h0, ⟨h1, -⟩ | ⟨g', cap', cur, hv, hb, hg, hn, hm, hs, ht⟩⟩ := h
  · injection h1 with h1
    cases h1
  injection hv with e1 _ e3
  injection e1 with e1
  injection e1 with e1
  subst e1 e3
  rw [Nat.mul_one] at h0 hs ht
  have hsv1 : v.oneCell' = true := by obtain ⟨x, rfl⟩ := hsv; rfl
  have hv1 : ∀ u, u ∈ vs → u.oneCell' = true := fun u hu => by obtain ⟨x, rfl⟩ := hvs u hu; rfl
  have hc63 : cap ≤ 9223372036854775807 := by unfold maxLen at hm; omega
  have hcell : ∀ (W : World), W.heap[g]? = w.heap[g]? → ∀ j, j < cap → (W.cell? ⟨g, 0 + j, none⟩).isSome = true := fun W hW j hj => by
    simp only [World.cell?, hW, hg]
    simp only [Option.isSome_none, Bool.false_eq_true, if_false]
    rw [Array.getElem?_eq_getElem (by omega)]
    rfl
  have hfz : ∀ j, w.frozen? ⟨g, j, none⟩ = false := fun j => by simp [World.frozen?, hg]
  have hcs : ∀ j u, vs[j]? = some u → w.cell? ⟨g, 0 + j, none⟩ = some u := fun j u hj => by
    have hlt := (List.getElem?_eq_some_iff.1 hj).1
    simp only [World.cell?, hg]
    simp only [Option.isSome_none, Bool.false_eq_true, if_false]
    rw [← hj, ← ht, List.getElem?_take_of_lt (by omega), Array.getElem?_toList, Nat.zero_add]
  have hvc : w.cell? ⟨vb, 0, none⟩ = some v := by simp [World.cell?, hvb]
  have hsa : w.shape? vb = some (22, 1) := by simp [World.shape?, hvb]
  have hsb : w.shape? g = some (22, cur.size) := by simp [World.shape?, hg]
  have hov : ∀ lb cb, (callFunc 143 #[.slice (some ⟨vb, 0, none⟩) 1 vc, .slice (some ⟨g, i + 1, none⟩) lb cb]).run Tryz.prog w = .ok (.value (.bool false)) w := fun lb cb => by
    rw [run_callFunc_extern Tryz.func143 (by kernel_rfl) (by kernel_rfl) (by kernel_rfl) (e := Extern.SlicesOverlaps.overlaps #[30, 30] #[4]) (by kernel_rfl),
      Lib.run_overlaps_apart w 30 4 22 und_rows 1 Tryz.sizeOf22 ⟨vb, 0, none⟩ ⟨g, i + 1, none⟩ 1 vc lb cb hne _ _ _ _ hsa hsb (by omega) (by simp [World.frozen?, hvb]) (by simp [World.frozen?, hvb])]
    rfl
  have hdl : (vs.drop i).length = n - i := by rw [List.length_drop, h0]
  have hcp1 : ∀ ty dc sc, (Builtin.copy_ #[30, 30] ty #[.slice (some ⟨g, i + 1, none⟩) (n - i) dc, .slice (some ⟨g, i, none⟩) (n + 1 - i) sc]).run Tryz.prog w.drew = .ok (goInt (vs.drop i).length) (w.drew.setCells g (i + 1) (vs.drop i)) := fun ty dc sc =>
    run_copy_cells w.drew _ _ ty 22 g (i + 1) (n - i) dc ⟨g, i, none⟩ (n + 1 - i) sc (vs.drop i) und_rows info_rows1 (by rw [hdl]; simp only [Nat.min_def]; split <;> omega)
      (fun j u hj => by rw [Addr.add_lit, ← Nat.zero_add (i + j)]; exact hcs (i + j) u (by rwa [List.getElem?_drop] at hj))
      (fun j hj => by rw [← Nat.zero_add (i + 1 + j)]; exact hcell w.drew rfl _ (by omega)) (fun j hj => hfz _) (fun u hu => hv1 u (List.mem_of_mem_drop hu))
  obtain ⟨W1, hW1⟩ : ∃ W1, W1 = w.drew.setCells g (i + 1) (vs.drop i) := ⟨_, rfl⟩
  have hg1 : W1.heap[g]? = some (.cells (setL cur (i + 1) (vs.drop i)) 22 (0, 0)) := by
    rw [hW1]
    exact setL_heap g _ (vs.drop i) w.drew (i + 1) cur hg
  have ho1 : ∀ k, k ≠ g → W1.heap[k]? = w.heap[k]? := fun k hk => by rw [hW1]; exact heap_setCells_off g k hk _ _ _
  have hb1 : Below g w W1 := by rw [hW1]; exact Grd.below_cells (Nat.le_refl _) _ _ _ ((Below.refl _ _).drew)
  have hcp2 : ∀ (W : World), W.heap = W1.heap → ∀ ty dc, (Builtin.copy_ #[30, 30] ty #[.slice (some ⟨g, i, none⟩) (n + 1 - i) dc, .slice (some ⟨vb, 0, none⟩) 1 vc]).run Tryz.prog W = .ok (goInt [v].length) (W.setCells g i [v]) := fun W hWh ty dc =>
    run_copy_cells W _ _ ty 22 g i (n + 1 - i) dc ⟨vb, 0, none⟩ 1 vc [v] und_rows info_rows1 (by simp only [List.length_singleton, Nat.min_def]; split <;> omega)
      (fun j u hj => by
        rw [Addr.add_lit]
        match j, hj with
        | 0, hj =>
          rw [← Option.some.inj hj]
          simp only [World.cell?, hWh, ho1 vb hne, hvb]
          rfl)
      (fun j hj => by
        simp only [World.cell?, hWh, hg1]
        simp only [Option.isSome_none, Bool.false_eq_true, if_false]
        rw [Array.getElem?_eq_getElem (by rw [setL_size]; simp at hj; omega)]
        rfl) (fun j hj => by simp [World.frozen?, hWh, hg1]) (by simpa using hsv1)
  have HE : Hid (∀ W : World, W.heap = W1.heap → Below g w W → (W.setCells g i [v]).ownsRow N 22 1 (.slice (some ⟨g, 0, none⟩) (n + 1) cap) (n + 1) (vs.insertIdx i v) ∧ (∀ k, k ≠ g → (W.setCells g i [v]).heap[k]? = w.heap[k]?) ∧ Below g w (W.setCells g i [v])) := fun W hW hbW => by
    refine ⟨⟨by rw [List.length_insertIdx, if_pos (by omega)]; omega, .inr ⟨g, cap, _, rfl, hb, setL_heap g _ [v] W i _ (by rw [hW]; exact hg1), hroom, hm, by rw [setL_size, setL_size]; omega, ?_⟩⟩, fun k hk => (heap_setCells_off g k hk _ _ _).trans (by rw [hW]; exact ho1 k hk), Grd.below_cells (Nat.le_refl _) _ _ _ hbW⟩
    rw [Nat.mul_one]
    exact ins_list cur vs n i v h0 (by omega) (by omega) ht
  have HB1 : Hid (Below g w W1) := hb1
  rw [← hW1] at hcp1
  clear hg ht hs hW1 hcs hcell hfz hvb hvc hg1 ho1 hb1 hsa hsb hv1 hvs hsv hsv1 hdl
  have mixed : Tryz.prog.follows .mixedOrders = true := by kernel_rfl
  have hz2 : ¬ ((i : Int) = (n : Int)) := by omega
  have hw1 : IntKind.i64.wrap ((i : Int) + 1) = (i : Int) + 1 := by rw [IntKind.wrap_i64]; omega
  have hb1 : (0 : Int) ≤ (i : Int) + 1 := by omega
  have htn : ((i : Int) + 1).toNat = i + 1 := by omega
  have hb2 : ¬ (cap = i + 1) := by omega
  have hb3 : (i : Int) ≤ (n : Int) + 1 := by omega
  have hb4 : ¬ (cap = i) := by omega
  have hin : i ≤ n := by omega
  go_enter Tryz.func119, Tryz.ntmps119
  go_wp2_with (simp only [hov])
  go_region_law_o (refine step_copyR rfl _ _ 30 30 rfl _ _ (by simp [Act.eval, Act.put]) (by simp [Act.eval, Act.put]) (hcp1 _ _ _) ?_)
  go_wp2_with (at_builtin; refine wpList_copyR _ rfl _ _ 30 30 rfl _ _ rfl rfl (hcp2 _ rfl _ _) ?_)
  go_ret
  exact ⟨rfl, HE.out _ rfl HB1.out⟩
/-- A row is put in, where there is room. -/
theorem insert_own (N g n cap i vb vc : Nat) (vs : List Value) (v : Value) (w : World) (h : w.ownsRow N 22 1 (.slice (some ⟨g, 0, none⟩) n cap) n vs) (hvs : ∀ u, u ∈ vs → IsSl u) (hsv : IsSl v) (hi : i ≤ n) (hroom : n + 1 ≤ cap) (hvb : w.heap[vb]? = some (.cells #[v] 22 (0, 0))) (hne : vb ≠ g) :
    Calls Tryz.prog 119 #[.slice (some ⟨g, 0, none⟩) n cap, .int .i64 (i : Int), .slice (some ⟨vb, 0, none⟩) 1 vc] w fun e w' => e = .returned (.slice (some ⟨g, 0, none⟩) (n + 1) cap) ∧ w'.ownsRow N 22 1 (.slice (some ⟨g, 0, none⟩) (n + 1) cap) (n + 1) (vs.insertIdx i v) ∧ (∀ k, k ≠ g → w'.heap[k]? = w.heap[k]?) ∧ Below g w w' := by
  rcases Nat.lt_or_eq_of_le hi with hlt | rfl
  · exact insert_shift N g n cap i vb vc vs v w h hvs hsv hlt hroom hvb hne
  · exact insert_end N g i cap vb vc vs v w h hsv hroom (by simp [World.cell?, hvb])
end Put
end Go.Proofs.YtennlgkjckcjoaaGreatDoor

/- (*sheet.Sheet).blanks, replace, Drop, Down: a row goes, and a blank one comes. -/
namespace Go.Proofs.YtennlgkjckcjoaaGreatDoor
open Go.ChangeShapes Go.WideShapes Go.ChangeAt Go.RowKit
namespace Put
open Grd (C SliceAt CellsAt gridErr z0 nilV flat rowsL OwnG RowB)
theorem getD_erase {α : Type} (l : List α) (i j : Nat) (d : α) : (l.eraseIdx i).getD j d = if j < i then l.getD j d else l.getD (j + 1) d := by
  simp only [List.getD, List.getElem?_eraseIdx]
  split <;> rfl
theorem getD_insert {α : Type} (l : List α) (i j : Nat) (x d : α) (hi : i ≤ l.length) : (l.insertIdx i x).getD j d = if j < i then l.getD j d else if j = i then x else l.getD (j - 1) d := by
  simp only [List.getD, List.getElem?_insertIdx]
  by_cases h1 : j < i
  · rw [if_pos h1, if_pos h1]
  · rw [if_neg h1, if_neg h1]
    by_cases h2 : j = i
    · subst h2
      rw [if_pos rfl, if_pos rfl, if_pos hi]
      rfl
    · rw [if_neg h2, if_neg h2]
theorem RowsIn.erase {W : World} {N : Nat} {vs : List Value} {rows : List (List C)} (h : RowsIn W N vs rows) (i : Nat) (hi : i < rows.length) : RowsIn W N (vs.eraseIdx i) (rows.eraseIdx i) := by
  have hl := h.1
  refine ⟨by rw [List.length_eraseIdx_of_lt (by omega), List.length_eraseIdx_of_lt hi, hl], fun j hj => ?_⟩
  rw [List.length_eraseIdx_of_lt hi] at hj
  rw [getD_erase, getD_erase]
  split
  · exact h.2 j (by omega)
  · exact h.2 (j + 1) (by omega)
theorem RowsIn.insert {W : World} {N : Nat} {vs : List Value} {rows : List (List C)} (h : RowsIn W N vs rows) (i : Nat) (hi : i ≤ rows.length) (v : Value) (row : List C) (hr : RowIn W N v row) : RowsIn W N (vs.insertIdx i v) (rows.insertIdx i row) := by
  have hl := h.1
  refine ⟨by rw [List.length_insertIdx_of_le_length (by omega), List.length_insertIdx_of_le_length hi, hl], fun j hj => ?_⟩
  rw [List.length_insertIdx_of_le_length hi] at hj
  rw [getD_insert _ _ _ _ _ (by omega), getD_insert _ _ _ _ _ hi]
  split
  · exact h.2 j (by omega)
  · split
    · exact hr
    · exact h.2 (j - 1) (by omega)
theorem RowsIn.sls {W : World} {N : Nat} {vs : List Value} {rows : List (List C)} (h : RowsIn W N vs rows) : ∀ v, v ∈ vs → IsSl v := by
  intro v hv
  obtain ⟨i, hi, rfl⟩ := List.mem_iff_getElem.1 hv
  obtain ⟨a, c, e⟩ := (h.2 i (by rw [← h.1]; exact hi)).shape
  have e2 : vs.getD i nilV = vs[i] := by simp [List.getD, hi]
  rw [e2] at e
  exact ⟨(a, _, c), e⟩
theorem sl_in {W : World} {N : Nat} {v : Value} {row : List C} (h : RowIn W N v row) : IsSl v := by
  obtain ⟨a, c, e⟩ := h.shape
  exact ⟨(a, _, c), e⟩
theorem ShA.keptR {W V : World} {M N p : Nat} {s : Scr} {rows : List (List C)} {cv tv gv rv : Value} {gvs vs : List Value} {rb : Nat} (h : ShA 52 W M N p s rows cv tv gv rv gvs vs) (hrb : rv.ownBlock = some rb) (ho : ∀ k, k < W.heap.size → k ≠ rb → V.heap[k]? = W.heap[k]?) : Kept M W V := fun k hk hS => ho k hk fun e => by
  obtain ⟨hlo, A, f, hA⟩ := owns_block h.rws rb hrb
  subst e
  rcases hS with hS | ⟨B, f', hS⟩
  · have := h.ml
    omega
  · rw [hA] at hS
    injection hS with hS
    injection hS with _ hS _
    exact absurd hS (by decide)
/-- Other rows in the same block. -/
theorem ShA.rowsNew {W V : World} {M N p : Nat} {s : Scr} {rows rows' : List (List C)} {cv tv gv rv rv' : Value} {gvs vs vs' : List Value} {rb : Nat} (h : ShA 52 W M N p s rows cv tv gv rv gvs vs) (hrb : rv.ownBlock = some rb) (hrb' : rv'.ownBlock = some rb)
    (ho : ∀ k, k < W.heap.size → k ≠ rb → V.heap[k]? = W.heap[k]?) (hw : V.ownsRow N 22 1 rv' rows'.length vs') (hr : RowsIn V M vs' rows') :
    ShA 52 (V.setCell ⟨p, 22, none⟩ rv') M N p s rows' cv tv gv rv' gvs vs' := by
  obtain ⟨hlo, A, f, hA⟩ := owns_block h.rws rb hrb
  have hpr : p ≠ rb := by
    intro e
    rw [← e, h.blk] at hA
    injection hA with hA
    injection hA with _ hA _
    exact absurd hA (by decide)
  have hp : V.heap[p]? = some (.cells (shA s cv tv gv rv) 52 (0, 0)) := (ho p (heap_lt h.blk) hpr).trans h.blk
  have hk1 : Kept M W V := fun k hk hS => ho k hk fun e => by
    subst e
    rcases hS with hS | ⟨B, f', hS⟩
    · have := h.ml
      omega
    · rw [hA] at hS
      injection hS with hS
      injection hS with _ hS _
      exact absurd hS (by decide)
  have hk2 : Kept M V (V.setCell ⟨p, 22, none⟩ rv') := Kept.store hp (by decide) (Nat.le_trans h.ml h.lo)
  have hof : ∀ {e : TypeId} {v : Value} {n : Nat} {xs : List Value}, e ≠ 52 → (∀ k, v.ownBlock = some k → k ≠ rb) → W.ownsRow N e 1 v n xs → (V.setCell ⟨p, 22, none⟩ rv').ownsRow N e 1 v n xs := fun hte hn hw => by
    refine own_off (owns_kept hw fun g hg => ?_) hp (Ne.symm hte)
    obtain ⟨-, B, f', hB⟩ := owns_block hw g hg
    exact ho g (heap_lt hB) (hn g hg)
  have hnb : ∀ k, tv.ownBlock = some k → k ≠ rb := fun k hk e => by
    subst e
    obtain ⟨-, B, f', hB⟩ := owns_block h.tabs k hk
    rw [hA] at hB
    injection hB with hB
    injection hB with _ hB _
    exact absurd hB (by decide)
  have hng : ∀ k, gv.ownBlock = some k → k ≠ rb := fun k hk e => h.two rb hrb (by rw [hk, e])
  refine ⟨store_at hp rfl, h.lo, h.ml, h.cvs, hof (by decide) hnb h.tabs, hof (by decide) hng h.gone, (h.gin.keep hk1).keep hk2, own_off hw hp (by decide), hr.keep hk2, fun k hk e => ?_⟩
  rw [hrb'] at hk
  exact hng k e (Option.some.inj hk).symm
theorem one4w (a : Int) (b c d : Int) : (#[.int .i32 a, .int .i64 b, .int .i64 c, .int .i64 d] : Array Value).all (·.oneCell') = true := by simp [Value.oneCell']
set_option maxHeartbeats 2000000 in
theorem blankS_any (p : Nat) (bk : Int) (V : World) (h : V.cell? ⟨p, 7, none⟩ = some (.int .i64 bk)) : Calls Tryz.prog 92 #[.pointer (some ⟨p, 0, none⟩)] V fun e V' => e = .returned (.agg #[.int .i32 32, .int .i64 0, .int .i64 bk, .int .i64 0]) ∧ Below V.heap.size V V' := by
  have x0 := heap_alloc_new V (.cells #[.int .i32 0, .int .i64 0, .int .i64 0, .int .i64 0] 73)
  have kb : Below V.heap.size V (V.alloc (.cells #[.int .i32 0, .int .i64 0, .int .i64 0, .int .i64 0] 73)) := (Below.refl _ _).alloc (Nat.le_refl _) _
  have h1 := cell_stay kb h
  have HX0 : Hid _ := x0
  have HKB : Hid _ := kb
  clear x0 kb h
  go_enter Tryz.func92, Tryz.ntmps92
  go_upto_region 1 with fail
  generalize V.alloc (.cells #[.int .i32 0, .int .i64 0, .int .i64 0, .int .i64 0] 73) = Y at *
  go_wp2_with (refine wpList_store_row rfl 73 (.tmp 2) _ rfl V.heap.size #[.int .i32 32, .int .i64 0, .int .i64 bk, .int .i64 0] rfl rfl _ _ HX0.out (by kernel_rfl) rfl (one4w _ _ _ _) ?_)
  (try simp only [Exit.inBlock, Exit.then])
  refine bodyPost_ret (v := .agg #[.int .i32 32, .int .i64 0, .int .i64 bk, .int .i64 0]) ?_ rfl ⟨rfl, below_setRow HKB.out (Nat.le_refl _) _⟩
  exact results_cell_row rfl _ _ V.heap.size _ _ _ _ rfl (setRow_heap _ _ _ _ _ _ HX0.out) Tryz.underlying73 rfl (by kernel_rfl)
theorem cells_one (V : World) (c : C) : CellsAt (V.alloc (.cells #[.int .i32 c.1, .int .i64 c.2.1, .int .i64 c.2.2.1, .int .i64 c.2.2.2] 73)) V.heap.size 0 [c] := fun j hj => by
  have h := heap_alloc_new V (.cells #[.int .i32 c.1, .int .i64 c.2.1, .int .i64 c.2.2.1, .int .i64 c.2.2.2] 73)
  generalize V.alloc (.cells #[.int .i32 c.1, .int .i64 c.2.1, .int .i64 c.2.2.1, .int .i64 c.2.2.2] 73) = X at *
  match j, hj with
  | 0, _ => exact ⟨by simp [World.cell?, h], by simp [World.cell?, h], by simp [World.cell?, h], by simp [World.cell?, h]⟩
set_option maxHeartbeats 2000000 in
theorem blanks_any (p n : Nat) (bk : Int) (W : World) (h7 : W.cell? ⟨p, 7, none⟩ = some (.int .i64 bk)) (hn1 : 1 ≤ n) (hn2 : n ≤ 120) :
    Calls Tryz.prog 95 #[.pointer (some ⟨p, 0, none⟩), .int .i64 (n : Int)] W fun e W' => ∃ a c g, e = .returned (.slice a n c) ∧ W.heap.size ≤ g ∧ RowB W' g (.slice a n c) (List.replicate n (32, 0, bk, 0)) ∧ Below W.heap.size W W' := by
  have HB := blankS_any p bk W h7
  have HRP : Hid (∀ V : World, Calls Tryz.prog 78 #[.slice (some ⟨V.heap.size, 0, none⟩) 1 1, .int .i64 (n : Int)] (V.alloc (.cells #[.int .i32 32, .int .i64 0, .int .i64 bk, .int .i64 0] 73)) fun e w' => ∃ v', e = .returned v' ∧ OwnG w' (V.alloc (.cells #[.int .i32 32, .int .i64 0, .int .i64 bk, .int .i64 0] 73)).heap.size v' (List.replicate n (32, 0, bk, 0)) ∧ Below (V.alloc (.cells #[.int .i32 32, .int .i64 0, .int .i64 bk, .int .i64 0] 73)).heap.size (V.alloc (.cells #[.int .i32 32, .int .i64 0, .int .i64 bk, .int .i64 0] 73)) w') := fun V => Grd.repeat_one V.heap.size 0 1 n (32, 0, bk, 0) _ (cells_one V (32, 0, bk, 0)) hn1 (by omega)
  clear h7
  go_enter Tryz.func95, Tryz.ntmps95
  go_wp2_with fail
  refine HB.mono ?_
  rintro e V1 ⟨rfl, b1⟩
  clear HB
  go_wp2_with fail
  refine (HRP.out V1).mono ?_
  rintro e V2 ⟨v2, rfl, ho, b2⟩
  have q2 := b1.alloc b1.size (.cells #[.int .i32 32, .int .i64 0, .int .i64 bk, .int .i64 0] 73)
  have q3 := q2.trans (b2.mono q2.size)
  obtain ⟨g, hg1, hr⟩ := own_rowB ho
  obtain ⟨cap, rest, hv, hc1, hc2, hh⟩ := hr
  subst hv
  go_wp2_with fail
  go_ret
  refine ⟨_, cap, g, rfl, by have := q2.size; omega, ⟨cap, rest, by rw [List.length_replicate], hc1, hc2, hh⟩, q3⟩
/-- A row goes, and a blank one comes. -/
def replR (rows : List (List C)) (n : Nat) (bk : Int) (gone fresh : Nat) : List (List C) := (rows.eraseIdx gone).insertIdx fresh (List.replicate n (32, 0, bk, 0))
theorem replR_len (rows : List (List C)) (n : Nat) (bk : Int) (gone fresh : Nat) (hg : gone < rows.length) (hf : fresh < rows.length) : (replR rows n bk gone fresh).length = rows.length := by
  unfold replR
  rw [List.length_insertIdx_of_le_length (by rw [List.length_eraseIdx_of_lt hg]; omega), List.length_eraseIdx_of_lt hg]
  omega
theorem replR_row (rows : List (List C)) (n : Nat) (bk : Int) (gone fresh : Nat) (hg : gone < rows.length) (hf : fresh < rows.length) (hn : ∀ i, i < rows.length → (rows.getD i []).length = n) (i : Nat) (hi : i < rows.length) : ((replR rows n bk gone fresh).getD i []).length = n := by
  have hl : (rows.eraseIdx gone).length = rows.length - 1 := List.length_eraseIdx_of_lt hg
  have he : ∀ j, j < rows.length - 1 → ((rows.eraseIdx gone).getD j []).length = n := fun j hj => by
    rw [getD_erase]
    split
    · exact hn j (by omega)
    · exact hn (j + 1) (by omega)
  unfold replR
  rw [getD_insert _ _ _ _ _ (by omega)]
  split
  · exact he i (by omega)
  · split
    · simp
    · exact he (i - 1) (by omega)
set_option linter.unusedSimpArgs false in
set_option maxHeartbeats 4000000 in
set_option maxRecDepth 100000 in
theorem replace_any (W : World) (M N p n : Nat) (s : Scr) (rows : List (List C)) (hS : ShAt 52 W M N p s rows) (gone fresh : Nat) (hw : s.w = n) (hn1 : 1 ≤ n) (hn2 : n ≤ 120) (hg : gone < rows.length) (hf : fresh < rows.length) (hrl : rows.length ≤ 60) :
    Calls Tryz.prog 99 #[.pointer (some ⟨p, 0, none⟩), .int .i64 (gone : Int), .int .i64 (fresh : Int)] W (Ran W M N p s (replR rows n s.sb gone fresh)) := by
  obtain ⟨cv, tv, gv, rv, gvs, vs, hS⟩ := hS
  obtain ⟨rb, rc, hrv, hrb, hrc1, hrc2, hvl, hrcell, A, hrA⟩ := own_cells hS.rws (by omega)
  subst hrv
  have HD := delete_own N rb rows.length rc gone vs W hS.rws hS.rin.sls hg
  obtain ⟨⟨c0, -⟩, ⟨-, -, -, -, -, -, -, -, -, -, -, c22⟩, f⟩ := sh_cells hS.blk
  have hpr : p ≠ rb := by
    intro e
    rw [← e, hS.blk] at hrA
    injection hrA with hrA
    injection hrA with _ hrA _
    exact absurd hrA (by decide)
  have hlo := hS.lo
  have hwg : IntKind.i64.wrap ((gone : Int) + 1) = ((gone + 1 : Nat) : Int) := by rw [wrap_id _ (by omega) (by omega)]; omega
  have HS : Hid (ShA 52 W M N p s rows cv tv gv (.slice (some ⟨rb, 0, none⟩) rows.length rc) gvs vs) := hS
  clear hS hrcell hvl f c0
  go_enter Tryz.func99, Tryz.ntmps99
  go_wp2_with fail
  refine HD.mono ?_
  rintro e V1 ⟨rfl, hO1, hk1, hb1⟩
  have hpV := (hk1 p hpr).trans HS.out.blk
  have c22' := (sh_cells hpV).2.1.2.2.2.2.2.2.2.2.2.2.2
  have f22 := (sh_cells hpV).2.2 22
  go_upto_region 1 with fail
  have hS1 : ShA 52 (V1.setCell ⟨p, 22, none⟩ (.slice (some ⟨rb, 0, none⟩) (rows.length - 1) rc)) M N p s (rows.eraseIdx gone) cv tv gv (.slice (some ⟨rb, 0, none⟩) (rows.length - 1) rc) gvs (vs.eraseIdx gone) :=
    HS.out.rowsNew (rb := rb) rfl rfl (fun k _ hk => hk1 k hk) (by rw [List.length_eraseIdx_of_lt hg]; exact hO1) ((HS.out.rin.erase gone hg).keep (HS.out.keptR (rb := rb) rfl fun k _ hk => hk1 k hk))
  have hB1 : Below N W (V1.setCell ⟨p, 22, none⟩ (.slice (some ⟨rb, 0, none⟩) (rows.length - 1) rc)) := (hb1.mono hrb).setCell hlo _
  have hF1 : Framed W (V1.setCell ⟨p, 22, none⟩ (.slice (some ⟨rb, 0, none⟩) (rows.length - 1) rc)) := fun k o hk ho => by
    have e1 : k ≠ rb := by
      intro e
      rw [e, hrA] at hk
      injection hk with hk
      exact not_other_rows (ho A _ _ hk.symm)
    exact Framed.store hpV not_other_sheet k o ((hk1 k e1).trans hk) ho
  have HS1 : Hid _ := hS1
  have HB1 : Hid _ := hB1
  have HF1 : Hid _ := hF1
  clear hS1 hB1 hF1 hO1 hk1 hb1 hpV c22' f22 c22 hrA HS HD
  generalize V1.setCell ⟨p, 22, none⟩ (.slice (some ⟨rb, 0, none⟩) (rows.length - 1) rc) = X at *
  have hX := HS1.out
  obtain ⟨⟨c0, -, -, -, -, -, -, c7, -⟩, ⟨-, -, -, -, -, -, -, -, -, -, -, c22⟩, -⟩ := sh_cells hX.blk
  rw [hw] at c0
  have b0 : Below X.heap.size X X.drew := (Below.refl _ _).drew
  have hNX : N ≤ X.heap.size := Nat.le_trans hlo (Nat.le_of_lt (heap_lt hX.blk))
  have HBL := blanks_any p n s.sb X.drew (cell_stay b0 c7) hn1 hn2
  have HIN : Hid (∀ (V2 : World) (a : Option Addr) (c g : Nat), Below X.heap.size X V2 → RowB V2 g (.slice a n c) (List.replicate n (32, 0, s.sb, 0)) → Calls Tryz.prog 119 #[.slice (some ⟨rb, 0, none⟩) (rows.length - 1) rc, .int .i64 (fresh : Int), .slice (some ⟨V2.heap.size, 0, none⟩) 1 1] (V2.alloc (.cells #[.slice a n c] 22)) fun e V3 => e = .returned (.slice (some ⟨rb, 0, none⟩) (rows.length - 1 + 1) rc) ∧ V3.cell? ⟨p, 22, none⟩ = some (.slice (some ⟨rb, 0, none⟩) (rows.length - 1) rc) ∧ V3.frozen? ⟨p, 22, none⟩ = false ∧ Hid (Ran W M N p s (replR rows n s.sb gone fresh) (.returned (.tuple #[])) (V3.setCell ⟨p, 22, none⟩ (.slice (some ⟨rb, 0, none⟩) (rows.length - 1 + 1) rc)))) := fun V2 a c g q1 hR => by
    have q2 := q1.alloc q1.size (.cells #[.slice a n c] 22)
    have hS2 := hX.next q2
    have hal := heap_alloc_new V2 (.cells #[.slice a n c] 22)
    have hri : RowIn V2 M (.slice a n c) (List.replicate n (32, 0, s.sb, 0)) := rowIn_rowB hR
    have hle : (rows.eraseIdx gone).length = rows.length - 1 := List.length_eraseIdx_of_lt hg
    obtain ⟨-, B, f', hB⟩ := owns_block hX.rws rb rfl
    have hne : V2.heap.size ≠ rb := by have h1 := heap_lt hB; have h2 := q1.size; omega
    have key := insert_own N rb (rows.length - 1) rc fresh V2.heap.size 1 (vs.eraseIdx gone) (.slice a n c) _ (by have := hS2.rws; rwa [hle] at this) hS2.rin.sls (sl_in hri) (by omega) (by omega) hal hne
    refine Calls.mono key ?_
    rintro e V3 ⟨rfl, hO3, hk3, hb3⟩
    have hp3 : V3.heap[p]? = _ := (hk3 p hpr).trans hS2.blk
    have hri3 : RowIn V3 M (.slice a n c) (List.replicate n (32, 0, s.sb, 0)) := (hri.keep (Kept.of_below ((Below.refl _ _).alloc (Nat.le_refl _) _))).keep (hS2.keptR (rb := rb) rfl fun k _ hk => hk3 k hk)
    have hS3 := hS2.rowsNew (rb := rb) (rv' := .slice (some ⟨rb, 0, none⟩) (rows.length - 1 + 1) rc) (rows' := replR rows n s.sb gone fresh) (vs' := (vs.eraseIdx gone).insertIdx fresh (.slice a n c)) rfl rfl (fun k _ hk => hk3 k hk) (by rw [replR_len rows n s.sb gone fresh hg hf, show rows.length = rows.length - 1 + 1 by omega]; exact hO3) ((hS2.rin.keep (hS2.keptR (rb := rb) rfl fun k _ hk => hk3 k hk)).insert fresh (by omega) _ _ hri3)
    refine ⟨rfl, (sh_cells hp3).2.1.2.2.2.2.2.2.2.2.2.2.2, (sh_cells hp3).2.2 22, rfl, ⟨_, _, _, _, _, _, hS3⟩, ((HB1.out.trans (q2.mono hNX)).trans (hb3.mono hrb)).setCell hlo _, ?_⟩
    refine (Framed.trans HF1.out (Framed.of_below q2)).trans ?_
    intro k o hk ho
    have e1 : k ≠ rb := by
      intro e
      have hB2 := Grd.carry hB q2
      rw [e, hB2] at hk
      injection hk with hk
      exact not_other_rows (ho B _ _ hk.symm)
    exact Framed.store hp3 not_other_sheet k o ((hk3 k e1).trans hk) ho
  have HC22 : Hid (∀ V, Below X.heap.size X V → V.cell? ⟨p, 22, none⟩ = some (.slice (some ⟨rb, 0, none⟩) (rows.length - 1) rc)) := fun V h => cell_stay h c22
  clear hX c7 HS1 HB1 HF1 hw
  generalize rows.length - 1 = m at *
  generalize replR rows n s.sb gone fresh = rows' at *
  go_region_with (first
    | (go_at_call 95; refine HBL.mono ?_; rintro e V2 ⟨a, c, g, rfl, hg2, hR, b2⟩; have q1 := b0.trans (b2.mono b0.size); have d22 := HC22.out _ q1; have e22 := HC22.out _ (q1.alloc q1.size (.cells #[.slice a n c] 22)); have hI := HIN.out V2 a c g q1 hR; clear hR b2)
    | (go_at_call 119; refine hI.mono ?_; rintro e V3 ⟨rfl, z22, zf, HE⟩))
  all_goals go_wp2_with fail
  all_goals go_end0
  all_goals exact HE.out
end Put
end Go.Proofs.YtennlgkjckcjoaaGreatDoor

/- (*sheet.Sheet).keep, Up: a row goes behind all that is gone. -/
namespace Go.Proofs.YtennlgkjckcjoaaGreatDoor
open Go.ChangeShapes Go.WideShapes Go.ChangeAt Go.RowKit
namespace Put
open Grd (C SliceAt CellsAt gridErr z0 nilV flat rowsL OwnG RowB)
/-- What is gone, and one row more. -/
def keepG (g : List (List C)) (row : List C) : List (List C) := if g.length < 50 then g ++ [row] else (g ++ [row]).eraseIdx 0
theorem keepG_len (g : List (List C)) (row : List C) (h : g.length ≤ 50) : (keepG g row).length ≤ 50 := by
  unfold keepG
  split
  · rw [List.length_append, List.length_singleton]
    omega
  · rw [List.length_eraseIdx_of_lt (by simp), List.length_append, List.length_singleton]
    omega
theorem RowsIn.push {W : World} {N : Nat} {vs : List Value} {rows : List (List C)} (h : RowsIn W N vs rows) (v : Value) (row : List C) (hr : RowIn W N v row) : RowsIn W N (vs ++ [v]) (rows ++ [row]) := by
  have hl := h.1
  refine ⟨by simp [hl], fun i hi => ?_⟩
  rw [List.length_append, List.length_singleton] at hi
  simp only [List.getD]
  by_cases e : i < rows.length
  · rw [List.getElem?_append_left (by omega), List.getElem?_append_left e]
    exact h.2 i e
  · have e2 : i = rows.length := by omega
    subst e2
    rw [List.getElem?_append_right (by omega), List.getElem?_append_right (Nat.le_refl _), hl]
    simpa using hr
theorem cell_news (W : World) (v : Value) (t : TypeId) : ∀ j u, [v][j]? = some u → (W.alloc (.cells #[v] t)).cell? ((⟨W.heap.size, 0, none⟩ : Addr).add j) = some u := fun j u hj => by
  have h := heap_alloc_new W (.cells #[v] t)
  generalize W.alloc (.cells #[v] t) = X at *
  rw [Addr.add_lit]
  match j, hj with
  | 0, hj =>
    rw [← Option.some.inj hj]
    simp [World.cell?, h]
/-- Another list of what is gone. -/
theorem ShA.goneNew {W V : World} {M N p : Nat} {s s' : Scr} {rows : List (List C)} {cv tv gv gv' rv : Value} {gvs vs gvs' : List Value} (h : ShA 52 W M N p s rows cv tv gv rv gvs vs) (hs' : { s with gone := s'.gone } = s')
    (ho : ∀ k, k < W.heap.size → some k ≠ gv.ownBlock → V.heap[k]? = W.heap[k]?) (hw : V.ownsRow N 22 1 gv' s'.gone.length gvs') (hr : RowsIn V M gvs' s'.gone) (hat : gv'.ownBlock = gv.ownBlock ∨ ∃ k, gv'.ownBlock = some k ∧ W.heap.size ≤ k) :
    ShA 52 (V.setCell ⟨p, 21, none⟩ gv') M N p s' rows cv tv gv' rv gvs' vs := by
  have hgb : ∀ k A t, W.heap[k]? = some (.cells A t (0, 0)) → t ≠ 22 → some k ≠ gv.ownBlock := fun k A t hk ht e => by
    obtain ⟨-, B, f, hB⟩ := owns_block h.gone k e.symm
    rw [hk] at hB
    injection hB with hB
    injection hB with _ hB _
    exact ht hB
  have hp : V.heap[p]? = some (.cells (shA s cv tv gv rv) 52 (0, 0)) := (ho p (heap_lt h.blk) (hgb p _ _ h.blk (by decide))).trans h.blk
  have hk1 : Kept M W V := fun k hk hS => ho k hk fun e => by
    obtain ⟨hlo, B, f, hB⟩ := owns_block h.gone k e.symm
    rcases hS with hS | ⟨A, f', hS⟩
    · have := h.ml
      omega
    · rw [hB] at hS
      injection hS with hS
      injection hS with _ hS _
      exact absurd hS (by decide)
  have hk2 : Kept M V (V.setCell ⟨p, 21, none⟩ gv') := Kept.store hp (by decide) (Nat.le_trans h.ml h.lo)
  have hof : ∀ {e : TypeId} {v : Value} {n : Nat} {xs : List Value}, e ≠ 52 → (∀ k, v.ownBlock = some k → some k ≠ gv.ownBlock) → W.ownsRow N e 1 v n xs → (V.setCell ⟨p, 21, none⟩ gv').ownsRow N e 1 v n xs := fun hte hn hw => by
    refine own_off (owns_kept hw fun g hg => ?_) hp (Ne.symm hte)
    obtain ⟨-, B, f', hB⟩ := owns_block hw g hg
    exact ho g (heap_lt hB) (hn g hg)
  have htb : s'.tabs = s.tabs := by rw [← hs']
  refine ⟨store_at hp ?_, h.lo, h.ml, h.cvs, ?_, own_off hw hp (by decide), hr.keep hk2, hof (by decide) (fun k hk e => h.two k hk e.symm) h.rws, (h.rin.keep hk1).keep hk2, fun k hk e => ?_⟩
  · rw [← hs']
    rfl
  · rw [htb]
    refine hof (by decide) (fun k hk e => ?_) h.tabs
    obtain ⟨-, B, f, hB⟩ := owns_block h.tabs k hk
    obtain ⟨-, A, f', hA⟩ := owns_block h.gone k e.symm
    rw [hA] at hB
    injection hB with hB
    injection hB with _ hB _
    exact absurd hB (by decide)
  · rcases hat with hat | ⟨q, hq, hlt⟩
    · rw [hat] at e
      exact h.two k hk e
    · rw [hq] at e
      obtain ⟨-, B, f, hB⟩ := owns_block h.rws k hk
      have := heap_lt hB
      have := Option.some.inj e
      omega
theorem ShA.keptG {W V : World} {M N p : Nat} {s : Scr} {rows : List (List C)} {cv tv gv rv : Value} {gvs vs : List Value} (h : ShA 52 W M N p s rows cv tv gv rv gvs vs) (ho : ∀ k, k < W.heap.size → some k ≠ gv.ownBlock → V.heap[k]? = W.heap[k]?) : Kept M W V := fun k hk hS => ho k hk fun e => by
  obtain ⟨hlo, B, f, hB⟩ := owns_block h.gone k e.symm
  rcases hS with hS | ⟨A, f', hS⟩
  · have := h.ml
    omega
  · rw [hB] at hS
    injection hS with hS
    injection hS with _ hS _
    exact absurd hS (by decide)
theorem ShA.framedG {W V : World} {M N p : Nat} {s : Scr} {rows : List (List C)} {cv tv gv rv gv' : Value} {gvs vs : List Value} (h : ShA 52 W M N p s rows cv tv gv rv gvs vs) (ho : ∀ k, k < W.heap.size → some k ≠ gv.ownBlock → V.heap[k]? = W.heap[k]?) (hp : V.heap[p]? = some (.cells (shA s cv tv gv rv) 52 (0, 0))) : Framed W (V.setCell ⟨p, 21, none⟩ gv') := fun k o hk hO => by
  refine Framed.store hp not_other_sheet k o ((ho k (heap_lt hk) fun e => ?_).trans hk) hO
  obtain ⟨-, B, f, hB⟩ := owns_block h.gone k e.symm
  rw [hk] at hB
  injection hB with hB
  exact not_other_rows (hO B _ _ hB)
theorem grown_below {W V : World} {N : Nat} {row : Option Nat} (h : W.grownBy V row) (hr : ∀ k, row = some k → N ≤ k) (hN : N ≤ W.heap.size) : Below N W V :=
  ⟨h.os, h.tape, h.output, h.size, fun k hk => h.block k (by omega) fun e => by have := hr k e.symm; omega⟩
set_option maxHeartbeats 4000000 in
set_option maxRecDepth 100000 in
theorem keep_any (W : World) (M N p : Nat) (s : Scr) (rows : List (List C)) (hS : ShAt 52 W M N p s rows) (v : Value) (row : List C) (hv : RowIn W M v row) (hgl : s.gone.length ≤ 50) :
    Calls Tryz.prog 100 #[.pointer (some ⟨p, 0, none⟩), v] W (Ran W M N p { s with gone := keepG s.gone row } rows) := by
  obtain ⟨cv, tv, gv, rv, gvs, vs, hS⟩ := hS
  obtain ⟨va, vc, rfl⟩ := hv.shape
  obtain ⟨ga, gc, rfl⟩ := own_slice hS.gone
  obtain ⟨i0, hi, hzz⟩ := Option.map_eq_some_iff.1 info_rows
  simp only [Prod.mk.injEq] at hzz
  obtain ⟨hz0, hz1, hz2⟩ := hzz
  have hlo := hS.lo
  have hNW : N ≤ W.heap.size := Nat.le_trans hlo (Nat.le_of_lt (heap_lt hS.blk))
  have c21 := (sh_cells hS.blk).2.1.2.2.2.2.2.2.2.2.2.2.1
  have k0 : Below W.heap.size W (W.alloc (.cells #[.slice va row.length vc] 22)) := (Below.refl _ _).alloc (Nat.le_refl _) _
  have hown : (W.alloc (.cells #[.slice va row.length vc] 22)).ownsRow N 22 1 (.slice ga s.gone.length gc) s.gone.length gvs := hS.gone.alloc _
  have HNW : Hid (∀ j u, [Value.slice va row.length vc][j]? = some u → (W.alloc (.cells #[.slice va row.length vc] 22)).cell? ((⟨W.heap.size, 0, none⟩ : Addr).add j) = some u) := cell_news W _ _
  have hal := heap_alloc_new W (.cells #[.slice va row.length vc] 22)
  have HS0 : Hid (ShA 52 (W.alloc (.cells #[.slice va row.length vc] 22)) M N p s rows cv tv (.slice ga s.gone.length gc) rv gvs vs) := hS.next k0
  have HRI : Hid (RowIn (W.alloc (.cells #[.slice va row.length vc] 22)) M (.slice va row.length vc) row) := hv.keep (Kept.of_below k0)
  have HK0 : Hid _ := k0
  have c21a := cell_stay k0 c21
  have hszW : (W.alloc (.cells #[.slice va row.length vc] 22)).heap.size = W.heap.size + 1 := by simp
  clear hS hv k0 hal
  go_enter Tryz.func100, Tryz.ntmps100
  go_upto_region 1 with (at_builtin; refine wpList_append_own_at _ rfl _ _ 30 rfl N 22 i0 (.slice none 0 0) 1 24 und_rows hi hz0 hz1 hz2 rfl (by decide) (.slice ga s.gone.length gc) s.gone.length gvs rfl hown ⟨W.heap.size, 0, none⟩ 1 1 [.slice va row.length vc] rfl rfl HNW.out (by intro u hu; simp at hu; rw [hu]; rfl) (by unfold maxLen; omega) (by omega) (by omega) ?_; intro gv' W2 hown' hgr hnil hat; obtain ⟨ga', gc', rfl⟩ := own_slice hown'; have hp2 := (hgr.block p (heap_lt HS0.out.blk) (fun e => (by obtain ⟨-, B, f, hB⟩ := owns_block HS0.out.gone p e.symm; rw [HS0.out.blk] at hB; injection hB with hB; injection hB with _ hB _; exact absurd hB (by decide)))).trans HS0.out.blk; have z21 := (sh_cells hp2).2.1.2.2.2.2.2.2.2.2.2.2.1; have f21 := (sh_cells hp2).2.2 21; clear hnil)
  have hho : ∀ k, k < (W.alloc (.cells #[.slice va row.length vc] 22)).heap.size → some k ≠ (Value.slice ga s.gone.length gc).ownBlock → W2.heap[k]? = (W.alloc (.cells #[.slice va row.length vc] 22)).heap[k]? := fun k hk hne => hgr.block k hk hne
  have hS2 : ShA 52 (W2.setCell ⟨p, 21, none⟩ (.slice ga' (s.gone.length + 1) gc')) M N p { s with gone := s.gone ++ [row] } rows cv tv (.slice ga' (s.gone.length + 1) gc') rv (gvs ++ [.slice va row.length vc]) vs :=
    HS0.out.goneNew (s' := { s with gone := s.gone ++ [row] }) rfl hho (by simpa using hown') ((HS0.out.gin.push _ _ HRI.out).keep (HS0.out.keptG hho)) (hat.imp id fun h => ⟨_, h, Nat.le_refl _⟩)
  have hB2 : Below N W (W2.setCell ⟨p, 21, none⟩ (.slice ga' (s.gone.length + 1) gc')) := ((HK0.out.mono hNW).trans (grown_below hgr (fun k e => (owns_block HS0.out.gone k e).1) (by omega))).setCell hlo _
  have hF2 : Framed W (W2.setCell ⟨p, 21, none⟩ (.slice ga' (s.gone.length + 1) gc')) := (Framed.of_below HK0.out).trans (HS0.out.framedG hho hp2)
  have HS2 : Hid _ := hS2
  have HB2 : Hid _ := hB2
  have HF2 : Hid (Framed W (W2.setCell ⟨p, 21, none⟩ (.slice ga' (s.gone.length + 1) gc'))) := hF2
  have d21 := (sh_cells hS2.blk).2.1.2.2.2.2.2.2.2.2.2.2.1
  clear hS2 hB2 hF2 hho hat hown' hgr hp2 z21 f21 HS0 HK0 HRI HNW hown c21 c21a hszW hi hz0 hz1 hz2
  generalize W2.setCell ⟨p, 21, none⟩ (.slice ga' (s.gone.length + 1) gc') = X at *
  by_cases hlt : s.gone.length < 50
  · have HE : Hid (keepG s.gone row = s.gone ++ [row]) := by unfold Hid keepG; rw [if_pos hlt]
    have hl1 : ¬ ((50 : Int) < (s.gone.length : Int) + 1) := by omega
    go_wp2_with fail
    go_end0
    refine ⟨rfl, ?_, HB2.out, HF2.out⟩
    rw [HE.out]
    exact ⟨_, _, _, _, _, _, HS2.out⟩
  · have HE : Hid (keepG s.gone row = (s.gone ++ [row]).eraseIdx 0) := by unfold Hid keepG; rw [if_neg hlt]
    have hl1 : (50 : Int) < (s.gone.length : Int) + 1 := by omega
    have hX := HS2.out
    have hgo := hX.gone
    have hlen : (s.gone ++ [row]).length = s.gone.length + 1 := by simp
    rw [hlen] at hgo
    obtain ⟨g, cap, hgv, hgN, -, -, -, -, A, hA⟩ := own_cells hgo (by omega)
    injection hgv with e1 _ e3
    subst e1 e3
    have HDel := delete_own N g (s.gone.length + 1) gc' 0 _ X hgo hX.gin.sls (by omega)
    have hpg : p ≠ g := by
      intro e
      rw [← e, hX.blk] at hA
      injection hA with hA
      injection hA with _ hA _
      exact absurd hA (by decide)
    have HEND : Hid (∀ V3 : World, V3.ownsRow N 22 1 (.slice (some ⟨g, 0, none⟩) (s.gone.length + 1 - 1) gc') (s.gone.length + 1 - 1) ((gvs ++ [Value.slice va row.length vc]).eraseIdx 0) → (∀ k, k ≠ g → V3.heap[k]? = X.heap[k]?) → Below g X V3 → V3.cell? ⟨p, 21, none⟩ = some (.slice (some ⟨g, 0, none⟩) (s.gone.length + 1) gc') ∧ V3.frozen? ⟨p, 21, none⟩ = false ∧ Hid (Ran W M N p { s with gone := keepG s.gone row } rows (.returned (.tuple #[])) (V3.setCell ⟨p, 21, none⟩ (.slice (some ⟨g, 0, none⟩) (s.gone.length + 1 - 1) gc')))) := fun V3 hO3 hk3 hb3 => by
      have hho : ∀ k, k < X.heap.size → some k ≠ (Value.slice (some ⟨g, 0, none⟩) (s.gone.length + 1) gc').ownBlock → V3.heap[k]? = X.heap[k]? := fun k _ hne => hk3 k fun e => hne (by rw [e]; rfl)
      have hp3 := (hk3 p hpg).trans hX.blk
      have hl2 : (keepG s.gone row).length = s.gone.length + 1 - 1 := by rw [HE.out, List.length_eraseIdx_of_lt (by omega), hlen]
      have hS3 := hX.goneNew (V := V3) (s' := { s with gone := keepG s.gone row }) (gv' := .slice (some ⟨g, 0, none⟩) (s.gone.length + 1 - 1) gc') (gvs' := (gvs ++ [Value.slice va row.length vc]).eraseIdx 0) rfl hho (by show V3.ownsRow N _ 1 _ (keepG s.gone row).length _; rw [hl2]; exact hO3) (by show RowsIn V3 M _ (keepG s.gone row); rw [HE.out]; exact (hX.gin.keep (hX.keptG hho)).erase 0 (by simp)) (.inl rfl)
      exact ⟨(sh_cells hp3).2.1.2.2.2.2.2.2.2.2.2.2.1, (sh_cells hp3).2.2 21, rfl, ⟨_, _, _, _, _, _, hS3⟩, (HB2.out.trans (hb3.mono hgN)).setCell hlo _, HF2.out.trans (hX.framedG hho hp3)⟩
    clear hX hgo hlen hA HS2 HB2 HF2 HE
    go_wp2_with fail
    refine HDel.mono ?_
    rintro e V3 ⟨rfl, hO3, hk3, hb3⟩
    obtain ⟨z21, f21, HR⟩ := HEND.out V3 hO3 hk3 hb3
    clear HEND HDel hO3 hk3 hb3
    go_wp2_with fail
    go_end0
    exact HR.out
set_option maxHeartbeats 1000000 in
theorem drop_any (W : World) (M N p n : Nat) (s : Scr) (rows : List (List C)) (hS : ShAt 52 W M N p s rows) (top bot : Nat) (hb : s.bot = bot) (hw : s.w = n) (hn1 : 1 ≤ n) (hn2 : n ≤ 120) (hg : top < rows.length) (hf : bot < rows.length) (hrl : rows.length ≤ 60) :
    Calls Tryz.prog 52 #[.pointer (some ⟨p, 0, none⟩), .int .i64 (top : Int)] W (Ran W M N p s (replR rows n s.sb top bot)) := by
  have H := replace_any W M N p n s rows hS top bot hw hn1 hn2 hg hf hrl
  obtain ⟨c0, c1, c3, c4, c5, c9, c10, c11, c19, f⟩ := hS.words
  rw [hb] at c10
  clear hS c0 c1 c3 c4 c5 c9 c11 c19 f
  go_enter Tryz.func52, Tryz.ntmps52
  go_wp2_with fail
  refine H.mono ?_
  rintro e V ⟨rfl, hS1, hB1, hF1⟩
  go_wp2_with fail
  go_end0
  exact ⟨rfl, hS1, hB1, hF1⟩
set_option maxHeartbeats 1000000 in
theorem down_any' (W : World) (M N p n : Nat) (s : Scr) (rows : List (List C)) (hS : ShAt 52 W M N p s rows) (top bot : Nat) (hb : s.bot = bot) (hw : s.w = n) (hn1 : 1 ≤ n) (hn2 : n ≤ 120) (hg : top < rows.length) (hf : bot < rows.length) (hrl : rows.length ≤ 60) :
    Calls Tryz.prog 51 #[.pointer (some ⟨p, 0, none⟩), .int .i64 (top : Int)] W (Ran W M N p s (replR rows n s.sb bot top)) := by
  have H := replace_any W M N p n s rows hS bot top hw hn1 hn2 hf hg hrl
  obtain ⟨c0, c1, c3, c4, c5, c9, c10, c11, c19, f⟩ := hS.words
  rw [hb] at c10
  clear hS c0 c1 c3 c4 c5 c9 c11 c19 f
  go_enter Tryz.func51, Tryz.ntmps51
  go_wp2_with fail
  refine H.mono ?_
  rintro e V ⟨rfl, hS1, hB1, hF1⟩
  go_wp2_with fail
  go_end0
  exact ⟨rfl, hS1, hB1, hF1⟩
/-- Rows move up, once. -/
def upS (s : Scr) (rows : List (List C)) (top : Nat) : Scr := if top = 0 then { s with gone := keepG s.gone (rows.getD 0 []) } else s
set_option maxHeartbeats 2000000 in
theorem up_any' (W : World) (M N p n : Nat) (s : Scr) (rows : List (List C)) (hS : ShAt 52 W M N p s rows) (top bot : Nat) (hb : s.bot = bot) (hw : s.w = n) (hn1 : 1 ≤ n) (hn2 : n ≤ 120) (hg : top < rows.length) (hf : bot < rows.length) (hrl : rows.length ≤ 60) (hgl : s.gone.length ≤ 50) :
    Calls Tryz.prog 55 #[.pointer (some ⟨p, 0, none⟩), .int .i64 (top : Int)] W (Ran W M N p (upS s rows top) (replR rows n s.sb top bot)) := by
  by_cases h0 : top = 0
  · subst h0
    have HU : Hid (upS s rows 0 = { s with gone := keepG s.gone (rows.getD 0 []) }) := rfl
    obtain ⟨cv, tv, gv, rv, gvs, vs, hA⟩ := hS
    obtain ⟨rb, rc, hrv, hrb, hrc1, hrc2, hvl, hrcell, A, hrA⟩ := own_cells hA.rws (by omega)
    subst hrv
    have c22 := (sh_cells hA.blk).2.1.2.2.2.2.2.2.2.2.2.2.2
    have d0 := hrcell 0 (by omega)
    have hri := hA.rin.2 0 (by omega)
    obtain ⟨va, vc, hsh⟩ := hri.shape
    rw [hsh] at d0 hri
    have HK := keep_any W M N p s rows ⟨_, _, _, _, _, _, hA⟩ _ _ hri hgl
    have HDR : Hid (∀ V, ShAt 52 V M N p { s with gone := keepG s.gone (rows.getD 0 []) } rows → Calls Tryz.prog 52 #[.pointer (some ⟨p, 0, none⟩), .int .i64 ((0 : Nat) : Int)] V (Ran V M N p { s with gone := keepG s.gone (rows.getD 0 []) } (replR rows n s.sb 0 bot))) := fun V h => drop_any V M N p n _ rows h 0 bot hb hw hn1 hn2 hg hf hrl
    have hl0 : (0 : Int) < (rows.length : Int) := by omega
    clear hA hrA hrcell hvl hsh hri
    generalize rows.getD 0 [] = row at *
    generalize replR rows n s.sb 0 bot = rows' at *
    go_enter Tryz.func55, Tryz.ntmps55
    go_wp2_with fail
    refine HK.mono ?_
    rintro e V ⟨rfl, hS1, hB1, hF1⟩
    have HD2 := HDR.out V hS1
    clear HK HDR c22 d0
    go_wp2_with fail
    refine HD2.mono ?_
    rintro e V2 ⟨rfl, hS2, hB2, hF2⟩
    go_wp2_with fail
    go_end0
    rw [HU.out]
    exact ⟨rfl, hS2, hB1.trans hB2, hF1.trans hF2⟩
  · have HU : Hid (upS s rows top = s) := by unfold Hid upS; rw [if_neg h0]
    have HD2 := drop_any W M N p n s rows hS top bot hb hw hn1 hn2 hg hf hrl
    have hz : ((top : Int) == 0) = false := by simp only [beq_eq_false_iff_ne, ne_eq]; omega
    clear hS
    go_enter Tryz.func55, Tryz.ntmps55
    go_wp2_with fail
    refine HD2.mono ?_
    rintro e V2 ⟨rfl, hS2, hB2, hF2⟩
    go_wp2_with fail
    go_end0
    rw [HU.out]
    exact ⟨rfl, hS2, hB2, hF2⟩
end Put
end Go.Proofs.YtennlgkjckcjoaaGreatDoor

/- What is kept of rows that went. -/
namespace Go.Proofs.YtennlgkjckcjoaaGreatDoor
open Go.ChangeShapes Go.WideShapes Go.ChangeAt Go.RowKit
namespace Put
open Grd (C)
theorem keepG_mem {g : List (List C)} {row r : List C} (h : r ∈ keepG g row) : r ∈ g ∨ r = row := by
  unfold keepG at h
  split at h
  · simpa using h
  · simpa using List.mem_of_mem_eraseIdx h
theorem keepG_rows {s : Scr} {n hh : Nat} (hR : RightS s n hh) (row : List C) (hr : row.length = n) : ∀ r, r ∈ keepG s.gone row → r.length ≤ 120 := by
  intro r hm
  rcases keepG_mem hm with h | h
  · have := (grid_size (hR.gr r h)).2.1
    omega
  · have := hR.n2
    rw [h, hr]
    omega
theorem rows_le {l : List (List C)} (h : ∀ r, r ∈ l → r.length ≤ 120) (i : Nat) (hi : i < l.length) : (l.getD i []).length ≤ 1048576 := by
  have e : l.getD i [] = l[i] := by simp [List.getD, hi]
  rw [e]
  have := h _ (List.getElem_mem hi)
  omega
theorem gone_le120 {s : Scr} {n hh : Nat} (hR : RightS s n hh) : ∀ r, r ∈ s.gone → r.length ≤ 120 := fun r hr => by
  have := (grid_size (hR.gr r hr)).2.1
  omega
end Put
end Go.Proofs.YtennlgkjckcjoaaGreatDoor
