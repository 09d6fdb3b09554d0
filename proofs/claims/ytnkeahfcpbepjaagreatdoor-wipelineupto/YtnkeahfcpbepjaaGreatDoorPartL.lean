/- wipe.change: a screen is checked, and changed. -/
import Derived.Test.YtnkeahfcpbepjaaGreatDoorPartI
import Derived.Test.YtnkeahfcpbepjaaGreatDoorPartG
import Derived.Test.YtnkeahfcpbepjaaGreatDoorPartK
import Derived.Test.YtnkeahfcpbepjaaGreatDoorPartH
import Derived.Test.YtnkeahfcpbepjaaGreatDoorPartJ
import Derived.BigRegion
namespace Go.Proofs.YtnkeahfcpbepjaaGreatDoor
set_option linter.unusedVariables false
open Go.ChangeShapes Go.WideShapes Go.ChangeAt Go.RowKit
namespace Put
open Grd (C SliceAt CellsAt gridErr z0 nilV flat rowsL)
theorem kf_ofw {w V : World} {s : Scr} {cv tv gv : Value} {A : Array Value} {t t' : TypeId} (hb : Below w.heap.size w V) (h0 : V.heap[w.heap.size]? = some (.cells (scrA s cv tv gv) t (0, 0))) (h1 : V.heap[w.heap.size + 1]? = some (.cells A t' (0, 0))) {s' : Scr} {cv' tv' gv' : Value} :
    Below w.heap.size w (V.setRow (w.heap.size + 1) (scrA s' cv' tv' gv')) ∧ ScrPtr (V.setRow (w.heap.size + 1) (scrA s' cv' tv' gv')) (.pointer (some ⟨w.heap.size, 0, none⟩)) ∧ blkAt (V.setRow (w.heap.size + 1) (scrA s' cv' tv' gv')) (.pointer (some ⟨w.heap.size, 0, none⟩)) = scrA s cv tv gv ∧ ScrPtr0 (V.setRow (w.heap.size + 1) (scrA s' cv' tv' gv')) (.pointer (some ⟨w.heap.size + 1, 0, none⟩)) := by
  have h2 : (V.setRow (w.heap.size + 1) (scrA s' cv' tv' gv')).heap[w.heap.size]? = _ := (setRow_other _ _ _ _ (by omega)).trans h0
  have h3 := setRow_heap V (w.heap.size + 1) A (scrA s' cv' tv' gv') t' _ h1
  exact ⟨below_setRow hb (by omega) _, (scrPtr_of h2).1, (scrPtr_of h2).2, scrPtr0_of h3 rfl⟩
section
attribute [local go_sem ↓] load_scr store_scr
attribute [local go_sem] isScrS ptrBlk_at aggOf_agg
set_option maxHeartbeats 4000000 in
set_option maxRecDepth 100000 in
theorem wchange_any (s s' : Scr) (cv tv gv : Value) (df : FuncId) (caps : Array Value) (w0 w : World) (hT : Txt.Tab w) (hV : ScrV w0 s cv tv gv) (hb0 : Below w0.heap.size w0 w) (hF : Fits s)
    (hCH : ∀ W, Below w.heap.size w W → Calls Tryz.prog 33 #[.agg (scrA s cv tv gv), .int .i64 (scrErr s), .func (.func df) #[] caps] W (Made w0 W s' (scrErr s))) :
    Calls Tryz.prog 48 #[.agg (scrA s cv tv gv), .func (.func df) #[] caps] w (Made w0 w s' (scrErr s)) := by
  obtain ⟨ca, cc, rfl⟩ := hV.c.shape
  obtain ⟨ta, tc, rfl⟩ := hV.t.slice
  obtain ⟨ga, gc, rfl⟩ := hV.g.slice
  have hx0 : ((w.alloc (.cells (scrA s (.slice ca s.cs.length cc) (.slice ta s.tabs.length tc) (.slice ga s.gone.length gc)) 32)).alloc (.cells #[.int .i64 0, .int .i64 0, .slice none 0 0, .int .i64 0, .int .i64 0, .bool false, .int .i64 0, .int .i64 0, .int .i64 0, .int .i64 0, .int .i64 0, .int .i64 0, .slice none 0 0, .int .i64 0, .int .i64 0, .int .i64 0, .int .i64 0, .int .i64 0, .int .i64 0, .int .i32 0, .string ⟨#[]⟩, .slice none 0 0] 32)).heap[w.heap.size]? = some (.cells (scrA s (.slice ca s.cs.length cc) (.slice ta s.tabs.length tc) (.slice ga s.gone.length gc)) 32 (0, 0)) := (Below.heap_alloc _ _ _ (by simp)).trans (heap_alloc_new _ _)
  have hx1 : ((w.alloc (.cells (scrA s (.slice ca s.cs.length cc) (.slice ta s.tabs.length tc) (.slice ga s.gone.length gc)) 32)).alloc (.cells #[.int .i64 0, .int .i64 0, .slice none 0 0, .int .i64 0, .int .i64 0, .bool false, .int .i64 0, .int .i64 0, .int .i64 0, .int .i64 0, .int .i64 0, .int .i64 0, .slice none 0 0, .int .i64 0, .int .i64 0, .int .i64 0, .int .i64 0, .int .i64 0, .int .i64 0, .int .i32 0, .string ⟨#[]⟩, .slice none 0 0] 32)).heap[w.heap.size + 1]? = some (.cells #[.int .i64 0, .int .i64 0, .slice none 0 0, .int .i64 0, .int .i64 0, .bool false, .int .i64 0, .int .i64 0, .int .i64 0, .int .i64 0, .int .i64 0, .int .i64 0, .slice none 0 0, .int .i64 0, .int .i64 0, .int .i64 0, .int .i64 0, .int .i64 0, .int .i64 0, .int .i32 0, .string ⟨#[]⟩, .slice none 0 0] 32 (0, 0)) := heap_alloc2_new w _ _
  have hkb : Below w.heap.size w ((w.alloc (.cells (scrA s (.slice ca s.cs.length cc) (.slice ta s.tabs.length tc) (.slice ga s.gone.length gc)) 32)).alloc (.cells #[.int .i64 0, .int .i64 0, .slice none 0 0, .int .i64 0, .int .i64 0, .bool false, .int .i64 0, .int .i64 0, .int .i64 0, .int .i64 0, .int .i64 0, .int .i64 0, .slice none 0 0, .int .i64 0, .int .i64 0, .int .i64 0, .int .i64 0, .int .i64 0, .int .i64 0, .int .i32 0, .string ⟨#[]⟩, .slice none 0 0] 32)) := ((Below.refl _ _).alloc (Nat.le_refl _) _).alloc (by simp) _
  have hsz : ((w.alloc (.cells (scrA s (.slice ca s.cs.length cc) (.slice ta s.tabs.length tc) (.slice ga s.gone.length gc)) 32)).alloc (.cells #[.int .i64 0, .int .i64 0, .slice none 0 0, .int .i64 0, .int .i64 0, .bool false, .int .i64 0, .int .i64 0, .int .i64 0, .int .i64 0, .int .i64 0, .int .i64 0, .slice none 0 0, .int .i64 0, .int .i64 0, .int .i64 0, .int .i64 0, .int .i64 0, .int .i64 0, .int .i32 0, .string ⟨#[]⟩, .slice none 0 0] 32)).heap.size = w.heap.size + 2 := by simp
  have HX0 : Hid _ := hx0
  have HX1 : Hid _ := hx1
  have HKB : Hid _ := hkb
  have HSZ : Hid _ := hsz
  have HCK : Hid (∀ W, Below w.heap.size w W → Calls Tryz.prog 34 #[.agg (scrA s (.slice ca s.cs.length cc) (.slice ta s.tabs.length tc) (.slice ga s.gone.length gc))] W fun e w' => e = .returned (.int .i64 (scrErr s)) ∧ Below W.heap.size W w') := fun W hW => putCheck_any s _ _ _ W (Grd.Tab.next hT hW) (hV.next (hb0.trans (hW.mono hb0.size))) hF
  have HCH : Hid (∀ W, Below w.heap.size w W → Calls Tryz.prog 33 #[.agg (scrA s (.slice ca s.cs.length cc) (.slice ta s.tabs.length tc) (.slice ga s.gone.length gc)), .int .i64 (scrErr s), .func (.func df) #[] caps] W (Made w0 W s' (scrErr s))) := hCH
  have hM := hb0.size
  clear hx0 hx1 hkb hV hF hT hCH hb0 hsz
  generalize scrErr s = er at *
  go_enter Tryz.func48, Tryz.ntmps48
  go_upto_region 1 with fail
  generalize ((w.alloc (.cells (scrA s (.slice ca s.cs.length cc) (.slice ta s.tabs.length tc) (.slice ga s.gone.length gc)) 32)).alloc (.cells #[.int .i64 0, .int .i64 0, .slice none 0 0, .int .i64 0, .int .i64 0, .bool false, .int .i64 0, .int .i64 0, .int .i64 0, .int .i64 0, .int .i64 0, .int .i64 0, .slice none 0 0, .int .i64 0, .int .i64 0, .int .i64 0, .int .i64 0, .int .i64 0, .int .i64 0, .int .i32 0, .string ⟨#[]⟩, .slice none 0 0] 32)) = X at *
  have SK : Hid (∀ w', Below X.heap.size X w' → Below w.heap.size w w' ∧ ScrPtr w' (.pointer (some ⟨w.heap.size, 0, none⟩)) ∧ blkAt w' (.pointer (some ⟨w.heap.size, 0, none⟩)) = (scrA s (.slice ca s.cs.length cc) (.slice ta s.tabs.length tc) (.slice ga s.gone.length gc)) ∧ ScrPtr0 w' (.pointer (some ⟨w.heap.size + 1, 0, none⟩))) := fun w' hb => by
    have h0 := Grd.carry HX0.out hb
    exact ⟨HKB.out.trans (hb.mono HKB.out.size), (scrPtr_of h0).1, (scrPtr_of h0).2, scrPtr0_of (Grd.carry HX1.out hb) rfl⟩
  have b0 : Below X.heap.size X X.drew := (Below.refl _ _).drew
  go_region_held3 (fun w' => Below w.heap.size w w' ∧ ScrPtr w' (.pointer (some ⟨w.heap.size, 0, none⟩)) ∧ blkAt w' (.pointer (some ⟨w.heap.size, 0, none⟩)) = (scrA s (.slice ca s.cs.length cc) (.slice ta s.tabs.length tc) (.slice ga s.gone.length gc)) ∧ ScrPtr0 w' (.pointer (some ⟨w.heap.size + 1, 0, none⟩)))
    (first | exact KF.out | exact SK.out _ b2 | exact SK.out _ b1 | exact SK.out _ b0)
    (first | (go_at_call 34; refine (HCK.out _ (SK.out _ b0).1).mono ?_; rintro e V1 ⟨rfl, c1⟩; have b1 := b0.trans (c1.mono b0.size); clear c1) | (go_at_call 33; refine (HCH.out _ (SK.out _ b1).1).mono ?_; rintro e V2 ⟨cv', tv', gv', rfl, hO, c2⟩; have b2 := b1.trans (c2.mono b1.size); obtain ⟨a1, n1, c1, a2, n2, c2', a3, n3, c3, rfl, rfl, rfl⟩ := hO.shapes; have HO : Hid (ScrO V2 0 _ s' _ _ _) := hO; clear c2 hO; have HR : Hid (V2.heap[w.heap.size + 1]? = _) := Grd.carry HX1.out b2; have KF : Hid (Below w.heap.size w (V2.setRow (w.heap.size + 1) (scrA s' (.slice a1 n1 c1) (.slice a2 n2 c2') (.slice a3 n3 c3))) ∧ ScrPtr (V2.setRow (w.heap.size + 1) (scrA s' (.slice a1 n1 c1) (.slice a2 n2 c2') (.slice a3 n3 c3))) (.pointer (some ⟨w.heap.size, 0, none⟩)) ∧ blkAt (V2.setRow (w.heap.size + 1) (scrA s' (.slice a1 n1 c1) (.slice a2 n2 c2') (.slice a3 n3 c3))) (.pointer (some ⟨w.heap.size, 0, none⟩)) = (scrA s (.slice ca s.cs.length cc) (.slice ta s.tabs.length tc) (.slice ga s.gone.length gc)) ∧ ScrPtr0 (V2.setRow (w.heap.size + 1) (scrA s' (.slice a1 n1 c1) (.slice a2 n2 c2') (.slice a3 n3 c3))) (.pointer (some ⟨w.heap.size + 1, 0, none⟩))) := kf_ofw (SK.out _ b2).1 (Grd.carry HX0.out b2) HR.out))
  go_wp2_with fail
  (try simp only [Exit.inBlock, Exit.then])
  refine bodyPost_ret (v := .tuple #[.agg (scrA s' (.slice a1 n1 c1) (.slice a2 n2 c2') (.slice a3 n3 c3)), .int .i64 er]) ?_ rfl ⟨_, _, _, rfl, ?_, KF.out.1⟩
  · exact Grd.results_row_tmp rfl _ _ (w.heap.size + 1) _ _ _ _ rfl (setRow_heap _ _ _ _ _ _ HR.out) Tryz.underlying32 rfl (by kernel_rfl) _ rfl
  · exact (ScrO.off HO.out HR.out screen_is (by omega) fun k hk => setRow_other _ _ _ _ hk).mono (SK.out _ b1).1.size
end
end Put
end Go.Proofs.YtnkeahfcpbepjaaGreatDoor

/- Package wipe: the calls that hand a closure on. (Written by gen_call.py.) -/
namespace Go.Proofs.YtnkeahfcpbepjaaGreatDoor
set_option linter.unusedVariables false
open Go.ChangeShapes Go.WideShapes Go.ChangeAt Go.RowKit
namespace Put
open Grd (C)
theorem cell_onew {W : World} {R : Nat} {v : Value} {t : TypeId} (h : W.heap[R]? = some (.cells #[v] t (0, 0))) : W.cell? ⟨R, 0, none⟩ = some v := by simp [World.cell?, h]
set_option maxHeartbeats 2000000 in
set_option maxRecDepth 100000 in
theorem wiped_calls (s s' : Scr) (cv tv gv : Value) (tf : FuncId) (tcaps : Array Value) (er : Int) (w0 w : World) (hV : ScrV w0 s cv tv gv) (hM : w0.heap.size ≤ w.heap.size)
    (hC : ∀ (W : World) (B1 : Nat), Below w.heap.size w W → W.cell? ⟨B1, 0, none⟩ = some (.func (.func tf) #[] tcaps) → Calls Tryz.prog 48 #[.agg (scrA s cv tv gv), .func (.func 105) #[] #[.pointer (some ⟨B1, 0, none⟩)]] W (Made w0 W s' er)) :
    Calls Tryz.prog 43 #[.agg (scrA s cv tv gv), .func (.func tf) #[] tcaps] w (Made w0 w s' er) := by
  obtain ⟨ca, cc, rfl⟩ := hV.c.shape
  obtain ⟨ta, tc, rfl⟩ := hV.t.slice
  obtain ⟨ga, gc, rfl⟩ := hV.g.slice
  have hkb : Below w.heap.size w (((w.alloc (.cells (scrA s (.slice ca s.cs.length cc) (.slice ta s.tabs.length tc) (.slice ga s.gone.length gc)) 32)).alloc (.cells #[.func (.func tf) #[] tcaps] 59)).alloc (.cells #[.int .i64 0, .int .i64 0, .slice none 0 0, .int .i64 0, .int .i64 0, .bool false, .int .i64 0, .int .i64 0, .int .i64 0, .int .i64 0, .int .i64 0, .int .i64 0, .slice none 0 0, .int .i64 0, .int .i64 0, .int .i64 0, .int .i64 0, .int .i64 0, .int .i64 0, .int .i32 0, .string ⟨#[]⟩, .slice none 0 0] 32)) := ((((Below.refl _ _).alloc (by simp) _).alloc (by simp) _).alloc (by simp; omega) _)
  have hx0 : (w.alloc (.cells (scrA s (.slice ca s.cs.length cc) (.slice ta s.tabs.length tc) (.slice ga s.gone.length gc)) 32)).heap[w.heap.size]? = some (.cells (scrA s (.slice ca s.cs.length cc) (.slice ta s.tabs.length tc) (.slice ga s.gone.length gc)) 32 (0, 0)) := by
    have h := heap_alloc_new w (.cells (scrA s (.slice ca s.cs.length cc) (.slice ta s.tabs.length tc) (.slice ga s.gone.length gc)) 32)
    have e : w.heap.size = w.heap.size := by simp
    rw [e] at h
    exact h
  have hx0 := (Below.heap_alloc (w.alloc (.cells (scrA s (.slice ca s.cs.length cc) (.slice ta s.tabs.length tc) (.slice ga s.gone.length gc)) 32)) (.cells #[.func (.func tf) #[] tcaps] 59) _ (heap_lt hx0)).trans hx0
  have hx0 := (Below.heap_alloc ((w.alloc (.cells (scrA s (.slice ca s.cs.length cc) (.slice ta s.tabs.length tc) (.slice ga s.gone.length gc)) 32)).alloc (.cells #[.func (.func tf) #[] tcaps] 59)) (.cells #[.int .i64 0, .int .i64 0, .slice none 0 0, .int .i64 0, .int .i64 0, .bool false, .int .i64 0, .int .i64 0, .int .i64 0, .int .i64 0, .int .i64 0, .int .i64 0, .slice none 0 0, .int .i64 0, .int .i64 0, .int .i64 0, .int .i64 0, .int .i64 0, .int .i64 0, .int .i32 0, .string ⟨#[]⟩, .slice none 0 0] 32) _ (heap_lt hx0)).trans hx0
  have hx1 : ((w.alloc (.cells (scrA s (.slice ca s.cs.length cc) (.slice ta s.tabs.length tc) (.slice ga s.gone.length gc)) 32)).alloc (.cells #[.func (.func tf) #[] tcaps] 59)).heap[w.heap.size + 1]? = some (.cells #[.func (.func tf) #[] tcaps] 59 (0, 0)) := by
    have h := heap_alloc_new (w.alloc (.cells (scrA s (.slice ca s.cs.length cc) (.slice ta s.tabs.length tc) (.slice ga s.gone.length gc)) 32)) (.cells #[.func (.func tf) #[] tcaps] 59)
    have e : (w.alloc (.cells (scrA s (.slice ca s.cs.length cc) (.slice ta s.tabs.length tc) (.slice ga s.gone.length gc)) 32)).heap.size = w.heap.size + 1 := by simp
    rw [e] at h
    exact h
  have hx1 := (Below.heap_alloc ((w.alloc (.cells (scrA s (.slice ca s.cs.length cc) (.slice ta s.tabs.length tc) (.slice ga s.gone.length gc)) 32)).alloc (.cells #[.func (.func tf) #[] tcaps] 59)) (.cells #[.int .i64 0, .int .i64 0, .slice none 0 0, .int .i64 0, .int .i64 0, .bool false, .int .i64 0, .int .i64 0, .int .i64 0, .int .i64 0, .int .i64 0, .int .i64 0, .slice none 0 0, .int .i64 0, .int .i64 0, .int .i64 0, .int .i64 0, .int .i64 0, .int .i64 0, .int .i32 0, .string ⟨#[]⟩, .slice none 0 0] 32) _ (heap_lt hx1)).trans hx1
  have hx2 : (((w.alloc (.cells (scrA s (.slice ca s.cs.length cc) (.slice ta s.tabs.length tc) (.slice ga s.gone.length gc)) 32)).alloc (.cells #[.func (.func tf) #[] tcaps] 59)).alloc (.cells #[.int .i64 0, .int .i64 0, .slice none 0 0, .int .i64 0, .int .i64 0, .bool false, .int .i64 0, .int .i64 0, .int .i64 0, .int .i64 0, .int .i64 0, .int .i64 0, .slice none 0 0, .int .i64 0, .int .i64 0, .int .i64 0, .int .i64 0, .int .i64 0, .int .i64 0, .int .i32 0, .string ⟨#[]⟩, .slice none 0 0] 32)).heap[w.heap.size + 2]? = some (.cells #[.int .i64 0, .int .i64 0, .slice none 0 0, .int .i64 0, .int .i64 0, .bool false, .int .i64 0, .int .i64 0, .int .i64 0, .int .i64 0, .int .i64 0, .int .i64 0, .slice none 0 0, .int .i64 0, .int .i64 0, .int .i64 0, .int .i64 0, .int .i64 0, .int .i64 0, .int .i32 0, .string ⟨#[]⟩, .slice none 0 0] 32 (0, 0)) := by
    have h := heap_alloc_new ((w.alloc (.cells (scrA s (.slice ca s.cs.length cc) (.slice ta s.tabs.length tc) (.slice ga s.gone.length gc)) 32)).alloc (.cells #[.func (.func tf) #[] tcaps] 59)) (.cells #[.int .i64 0, .int .i64 0, .slice none 0 0, .int .i64 0, .int .i64 0, .bool false, .int .i64 0, .int .i64 0, .int .i64 0, .int .i64 0, .int .i64 0, .int .i64 0, .slice none 0 0, .int .i64 0, .int .i64 0, .int .i64 0, .int .i64 0, .int .i64 0, .int .i64 0, .int .i32 0, .string ⟨#[]⟩, .slice none 0 0] 32)
    have e : ((w.alloc (.cells (scrA s (.slice ca s.cs.length cc) (.slice ta s.tabs.length tc) (.slice ga s.gone.length gc)) 32)).alloc (.cells #[.func (.func tf) #[] tcaps] 59)).heap.size = w.heap.size + 2 := by simp
    rw [e] at h
    exact h
  have HX0 : Hid _ := hx0
  have HXR : Hid _ := hx2
  have HKB : Hid _ := hkb
  have HC := hC _ (w.heap.size + 1) hkb (cell_onew hx1)
  have hsz : w.heap.size ≤ (((w.alloc (.cells (scrA s (.slice ca s.cs.length cc) (.slice ta s.tabs.length tc) (.slice ga s.gone.length gc)) 32)).alloc (.cells #[.func (.func tf) #[] tcaps] 59)).alloc (.cells #[.int .i64 0, .int .i64 0, .slice none 0 0, .int .i64 0, .int .i64 0, .bool false, .int .i64 0, .int .i64 0, .int .i64 0, .int .i64 0, .int .i64 0, .int .i64 0, .slice none 0 0, .int .i64 0, .int .i64 0, .int .i64 0, .int .i64 0, .int .i64 0, .int .i64 0, .int .i32 0, .string ⟨#[]⟩, .slice none 0 0] 32)).heap.size := hkb.size
  clear hkb hV hC hx0 hx1 hx2
  go_enter Tryz.func43, Tryz.ntmps43
  go_upto_region 1 with fail
  generalize (((w.alloc (.cells (scrA s (.slice ca s.cs.length cc) (.slice ta s.tabs.length tc) (.slice ga s.gone.length gc)) 32)).alloc (.cells #[.func (.func tf) #[] tcaps] 59)).alloc (.cells #[.int .i64 0, .int .i64 0, .slice none 0 0, .int .i64 0, .int .i64 0, .bool false, .int .i64 0, .int .i64 0, .int .i64 0, .int .i64 0, .int .i64 0, .int .i64 0, .slice none 0 0, .int .i64 0, .int .i64 0, .int .i64 0, .int .i64 0, .int .i64 0, .int .i64 0, .int .i32 0, .string ⟨#[]⟩, .slice none 0 0] 32)) = X at *
  go_wp2_with (refine wpList_load_row rfl 32 (.tmp 2) rfl w.heap.size rfl _ _ _ _ HX0.out Tryz.underlying32 rfl (by kernel_rfl) ?_)
  refine HC.mono ?_
  rintro e V ⟨cv', tv', gv', rfl, hO, c2⟩
  obtain ⟨a1, n1, c1, a2, n2, c2', a3, n3, c3, rfl, rfl, rfl⟩ := hO.shapes
  have HO : Hid (ScrO V 0 _ s' _ _ _) := hO
  have HR : Hid (V.heap[w.heap.size + 2]? = _) := Grd.carry HXR.out c2
  have HB : Hid (Below w.heap.size w V) := HKB.out.trans (c2.mono HKB.out.size)
  clear hO c2 HC
  go_wp2_with (refine wpList_store_row rfl 32 (.tmp 4) (.tmp 9) rfl (w.heap.size + 2) (scrA s' (.slice a1 n1 c1) (.slice a2 n2 c2') (.slice a3 n3 c3)) rfl rfl _ _ HR.out (by kernel_rfl) rfl (scr_one _ _ _ _ _ _ _ _ _ _) ?_)
  (try simp only [Exit.inBlock, Exit.then])
  refine bodyPost_ret (v := .tuple #[.agg (scrA s' (.slice a1 n1 c1) (.slice a2 n2 c2') (.slice a3 n3 c3)), .int .i64 er]) ?_ rfl ⟨_, _, _, rfl, ?_, below_setRow HB.out (by omega) _⟩
  · exact Grd.results_row_tmp rfl _ _ (w.heap.size + 2) _ _ _ _ rfl (setRow_heap _ _ _ _ _ _ HR.out) Tryz.underlying32 rfl (by kernel_rfl) _ rfl
  · exact (ScrO.off HO.out HR.out screen_is (by omega) fun k hk => setRow_other _ _ _ _ hk).mono hsz
set_option maxHeartbeats 2000000 in
set_option maxRecDepth 100000 in
theorem wipeLine_calls (s s' : Scr) (cv tv gv : Value) (n : Int) (er : Int) (w0 w : World) (hV : ScrV w0 s cv tv gv) (hM : w0.heap.size ≤ w.heap.size)
    (hC : ∀ (W : World) (B1 : Nat), Below w.heap.size w W → W.cell? ⟨B1, 0, none⟩ = some (.int .i64 n) → Calls Tryz.prog 43 #[.agg (scrA s cv tv gv), .func (.func 44) #[] #[.pointer (some ⟨B1, 0, none⟩)]] W (Made w0 W s' er)) :
    Calls Tryz.prog 15 #[.agg (scrA s cv tv gv), .int .i64 n] w (Made w0 w s' er) := by
  obtain ⟨ca, cc, rfl⟩ := hV.c.shape
  obtain ⟨ta, tc, rfl⟩ := hV.t.slice
  obtain ⟨ga, gc, rfl⟩ := hV.g.slice
  have hkb : Below w.heap.size w (((w.alloc (.cells (scrA s (.slice ca s.cs.length cc) (.slice ta s.tabs.length tc) (.slice ga s.gone.length gc)) 32)).alloc (.cells #[.int .i64 n] 3)).alloc (.cells #[.int .i64 0, .int .i64 0, .slice none 0 0, .int .i64 0, .int .i64 0, .bool false, .int .i64 0, .int .i64 0, .int .i64 0, .int .i64 0, .int .i64 0, .int .i64 0, .slice none 0 0, .int .i64 0, .int .i64 0, .int .i64 0, .int .i64 0, .int .i64 0, .int .i64 0, .int .i32 0, .string ⟨#[]⟩, .slice none 0 0] 32)) := ((((Below.refl _ _).alloc (by simp) _).alloc (by simp) _).alloc (by simp; omega) _)
  have hx0 : (w.alloc (.cells (scrA s (.slice ca s.cs.length cc) (.slice ta s.tabs.length tc) (.slice ga s.gone.length gc)) 32)).heap[w.heap.size]? = some (.cells (scrA s (.slice ca s.cs.length cc) (.slice ta s.tabs.length tc) (.slice ga s.gone.length gc)) 32 (0, 0)) := by
    have h := heap_alloc_new w (.cells (scrA s (.slice ca s.cs.length cc) (.slice ta s.tabs.length tc) (.slice ga s.gone.length gc)) 32)
    have e : w.heap.size = w.heap.size := by simp
    rw [e] at h
    exact h
  have hx0 := (Below.heap_alloc (w.alloc (.cells (scrA s (.slice ca s.cs.length cc) (.slice ta s.tabs.length tc) (.slice ga s.gone.length gc)) 32)) (.cells #[.int .i64 n] 3) _ (heap_lt hx0)).trans hx0
  have hx0 := (Below.heap_alloc ((w.alloc (.cells (scrA s (.slice ca s.cs.length cc) (.slice ta s.tabs.length tc) (.slice ga s.gone.length gc)) 32)).alloc (.cells #[.int .i64 n] 3)) (.cells #[.int .i64 0, .int .i64 0, .slice none 0 0, .int .i64 0, .int .i64 0, .bool false, .int .i64 0, .int .i64 0, .int .i64 0, .int .i64 0, .int .i64 0, .int .i64 0, .slice none 0 0, .int .i64 0, .int .i64 0, .int .i64 0, .int .i64 0, .int .i64 0, .int .i64 0, .int .i32 0, .string ⟨#[]⟩, .slice none 0 0] 32) _ (heap_lt hx0)).trans hx0
  have hx1 : ((w.alloc (.cells (scrA s (.slice ca s.cs.length cc) (.slice ta s.tabs.length tc) (.slice ga s.gone.length gc)) 32)).alloc (.cells #[.int .i64 n] 3)).heap[w.heap.size + 1]? = some (.cells #[.int .i64 n] 3 (0, 0)) := by
    have h := heap_alloc_new (w.alloc (.cells (scrA s (.slice ca s.cs.length cc) (.slice ta s.tabs.length tc) (.slice ga s.gone.length gc)) 32)) (.cells #[.int .i64 n] 3)
    have e : (w.alloc (.cells (scrA s (.slice ca s.cs.length cc) (.slice ta s.tabs.length tc) (.slice ga s.gone.length gc)) 32)).heap.size = w.heap.size + 1 := by simp
    rw [e] at h
    exact h
  have hx1 := (Below.heap_alloc ((w.alloc (.cells (scrA s (.slice ca s.cs.length cc) (.slice ta s.tabs.length tc) (.slice ga s.gone.length gc)) 32)).alloc (.cells #[.int .i64 n] 3)) (.cells #[.int .i64 0, .int .i64 0, .slice none 0 0, .int .i64 0, .int .i64 0, .bool false, .int .i64 0, .int .i64 0, .int .i64 0, .int .i64 0, .int .i64 0, .int .i64 0, .slice none 0 0, .int .i64 0, .int .i64 0, .int .i64 0, .int .i64 0, .int .i64 0, .int .i64 0, .int .i32 0, .string ⟨#[]⟩, .slice none 0 0] 32) _ (heap_lt hx1)).trans hx1
  have hx2 : (((w.alloc (.cells (scrA s (.slice ca s.cs.length cc) (.slice ta s.tabs.length tc) (.slice ga s.gone.length gc)) 32)).alloc (.cells #[.int .i64 n] 3)).alloc (.cells #[.int .i64 0, .int .i64 0, .slice none 0 0, .int .i64 0, .int .i64 0, .bool false, .int .i64 0, .int .i64 0, .int .i64 0, .int .i64 0, .int .i64 0, .int .i64 0, .slice none 0 0, .int .i64 0, .int .i64 0, .int .i64 0, .int .i64 0, .int .i64 0, .int .i64 0, .int .i32 0, .string ⟨#[]⟩, .slice none 0 0] 32)).heap[w.heap.size + 2]? = some (.cells #[.int .i64 0, .int .i64 0, .slice none 0 0, .int .i64 0, .int .i64 0, .bool false, .int .i64 0, .int .i64 0, .int .i64 0, .int .i64 0, .int .i64 0, .int .i64 0, .slice none 0 0, .int .i64 0, .int .i64 0, .int .i64 0, .int .i64 0, .int .i64 0, .int .i64 0, .int .i32 0, .string ⟨#[]⟩, .slice none 0 0] 32 (0, 0)) := by
    have h := heap_alloc_new ((w.alloc (.cells (scrA s (.slice ca s.cs.length cc) (.slice ta s.tabs.length tc) (.slice ga s.gone.length gc)) 32)).alloc (.cells #[.int .i64 n] 3)) (.cells #[.int .i64 0, .int .i64 0, .slice none 0 0, .int .i64 0, .int .i64 0, .bool false, .int .i64 0, .int .i64 0, .int .i64 0, .int .i64 0, .int .i64 0, .int .i64 0, .slice none 0 0, .int .i64 0, .int .i64 0, .int .i64 0, .int .i64 0, .int .i64 0, .int .i64 0, .int .i32 0, .string ⟨#[]⟩, .slice none 0 0] 32)
    have e : ((w.alloc (.cells (scrA s (.slice ca s.cs.length cc) (.slice ta s.tabs.length tc) (.slice ga s.gone.length gc)) 32)).alloc (.cells #[.int .i64 n] 3)).heap.size = w.heap.size + 2 := by simp
    rw [e] at h
    exact h
  have HX0 : Hid _ := hx0
  have HXR : Hid _ := hx2
  have HKB : Hid _ := hkb
  have HC := hC _ (w.heap.size + 1) hkb (cell_onew hx1)
  have hsz : w.heap.size ≤ (((w.alloc (.cells (scrA s (.slice ca s.cs.length cc) (.slice ta s.tabs.length tc) (.slice ga s.gone.length gc)) 32)).alloc (.cells #[.int .i64 n] 3)).alloc (.cells #[.int .i64 0, .int .i64 0, .slice none 0 0, .int .i64 0, .int .i64 0, .bool false, .int .i64 0, .int .i64 0, .int .i64 0, .int .i64 0, .int .i64 0, .int .i64 0, .slice none 0 0, .int .i64 0, .int .i64 0, .int .i64 0, .int .i64 0, .int .i64 0, .int .i64 0, .int .i32 0, .string ⟨#[]⟩, .slice none 0 0] 32)).heap.size := hkb.size
  clear hkb hV hC hx0 hx1 hx2
  go_enter Tryz.func15, Tryz.ntmps15
  go_upto_region 1 with fail
  generalize (((w.alloc (.cells (scrA s (.slice ca s.cs.length cc) (.slice ta s.tabs.length tc) (.slice ga s.gone.length gc)) 32)).alloc (.cells #[.int .i64 n] 3)).alloc (.cells #[.int .i64 0, .int .i64 0, .slice none 0 0, .int .i64 0, .int .i64 0, .bool false, .int .i64 0, .int .i64 0, .int .i64 0, .int .i64 0, .int .i64 0, .int .i64 0, .slice none 0 0, .int .i64 0, .int .i64 0, .int .i64 0, .int .i64 0, .int .i64 0, .int .i64 0, .int .i32 0, .string ⟨#[]⟩, .slice none 0 0] 32)) = X at *
  go_wp2_with (refine wpList_load_row rfl 32 (.tmp 2) rfl w.heap.size rfl _ _ _ _ HX0.out Tryz.underlying32 rfl (by kernel_rfl) ?_)
  refine HC.mono ?_
  rintro e V ⟨cv', tv', gv', rfl, hO, c2⟩
  obtain ⟨a1, n1, c1, a2, n2, c2', a3, n3, c3, rfl, rfl, rfl⟩ := hO.shapes
  have HO : Hid (ScrO V 0 _ s' _ _ _) := hO
  have HR : Hid (V.heap[w.heap.size + 2]? = _) := Grd.carry HXR.out c2
  have HB : Hid (Below w.heap.size w V) := HKB.out.trans (c2.mono HKB.out.size)
  clear hO c2 HC
  go_wp2_with (refine wpList_store_row rfl 32 (.tmp 4) (.tmp 9) rfl (w.heap.size + 2) (scrA s' (.slice a1 n1 c1) (.slice a2 n2 c2') (.slice a3 n3 c3)) rfl rfl _ _ HR.out (by kernel_rfl) rfl (scr_one _ _ _ _ _ _ _ _ _ _) ?_)
  (try simp only [Exit.inBlock, Exit.then])
  refine bodyPost_ret (v := .tuple #[.agg (scrA s' (.slice a1 n1 c1) (.slice a2 n2 c2') (.slice a3 n3 c3)), .int .i64 er]) ?_ rfl ⟨_, _, _, rfl, ?_, below_setRow HB.out (by omega) _⟩
  · exact Grd.results_row_tmp rfl _ _ (w.heap.size + 2) _ _ _ _ rfl (setRow_heap _ _ _ _ _ _ HR.out) Tryz.underlying32 rfl (by kernel_rfl) _ rfl
  · exact (ScrO.off HO.out HR.out screen_is (by omega) fun k hk => setRow_other _ _ _ _ hk).mono hsz
set_option maxHeartbeats 2000000 in
set_option maxRecDepth 100000 in
theorem wipeChars_calls (s s' : Scr) (cv tv gv : Value) (n : Int) (er : Int) (w0 w : World) (hV : ScrV w0 s cv tv gv) (hM : w0.heap.size ≤ w.heap.size)
    (hC : ∀ (W : World) (B1 : Nat), Below w.heap.size w W → W.cell? ⟨B1, 0, none⟩ = some (.int .i64 n) → Calls Tryz.prog 43 #[.agg (scrA s cv tv gv), .func (.func 50) #[] #[.pointer (some ⟨B1, 0, none⟩)]] W (Made w0 W s' er)) :
    Calls Tryz.prog 17 #[.agg (scrA s cv tv gv), .int .i64 n] w (Made w0 w s' er) := by
  obtain ⟨ca, cc, rfl⟩ := hV.c.shape
  obtain ⟨ta, tc, rfl⟩ := hV.t.slice
  obtain ⟨ga, gc, rfl⟩ := hV.g.slice
  have hkb : Below w.heap.size w (((w.alloc (.cells (scrA s (.slice ca s.cs.length cc) (.slice ta s.tabs.length tc) (.slice ga s.gone.length gc)) 32)).alloc (.cells #[.int .i64 n] 3)).alloc (.cells #[.int .i64 0, .int .i64 0, .slice none 0 0, .int .i64 0, .int .i64 0, .bool false, .int .i64 0, .int .i64 0, .int .i64 0, .int .i64 0, .int .i64 0, .int .i64 0, .slice none 0 0, .int .i64 0, .int .i64 0, .int .i64 0, .int .i64 0, .int .i64 0, .int .i64 0, .int .i32 0, .string ⟨#[]⟩, .slice none 0 0] 32)) := ((((Below.refl _ _).alloc (by simp) _).alloc (by simp) _).alloc (by simp; omega) _)
  have hx0 : (w.alloc (.cells (scrA s (.slice ca s.cs.length cc) (.slice ta s.tabs.length tc) (.slice ga s.gone.length gc)) 32)).heap[w.heap.size]? = some (.cells (scrA s (.slice ca s.cs.length cc) (.slice ta s.tabs.length tc) (.slice ga s.gone.length gc)) 32 (0, 0)) := by
    have h := heap_alloc_new w (.cells (scrA s (.slice ca s.cs.length cc) (.slice ta s.tabs.length tc) (.slice ga s.gone.length gc)) 32)
    have e : w.heap.size = w.heap.size := by simp
    rw [e] at h
    exact h
  have hx0 := (Below.heap_alloc (w.alloc (.cells (scrA s (.slice ca s.cs.length cc) (.slice ta s.tabs.length tc) (.slice ga s.gone.length gc)) 32)) (.cells #[.int .i64 n] 3) _ (heap_lt hx0)).trans hx0
  have hx0 := (Below.heap_alloc ((w.alloc (.cells (scrA s (.slice ca s.cs.length cc) (.slice ta s.tabs.length tc) (.slice ga s.gone.length gc)) 32)).alloc (.cells #[.int .i64 n] 3)) (.cells #[.int .i64 0, .int .i64 0, .slice none 0 0, .int .i64 0, .int .i64 0, .bool false, .int .i64 0, .int .i64 0, .int .i64 0, .int .i64 0, .int .i64 0, .int .i64 0, .slice none 0 0, .int .i64 0, .int .i64 0, .int .i64 0, .int .i64 0, .int .i64 0, .int .i64 0, .int .i32 0, .string ⟨#[]⟩, .slice none 0 0] 32) _ (heap_lt hx0)).trans hx0
  have hx1 : ((w.alloc (.cells (scrA s (.slice ca s.cs.length cc) (.slice ta s.tabs.length tc) (.slice ga s.gone.length gc)) 32)).alloc (.cells #[.int .i64 n] 3)).heap[w.heap.size + 1]? = some (.cells #[.int .i64 n] 3 (0, 0)) := by
    have h := heap_alloc_new (w.alloc (.cells (scrA s (.slice ca s.cs.length cc) (.slice ta s.tabs.length tc) (.slice ga s.gone.length gc)) 32)) (.cells #[.int .i64 n] 3)
    have e : (w.alloc (.cells (scrA s (.slice ca s.cs.length cc) (.slice ta s.tabs.length tc) (.slice ga s.gone.length gc)) 32)).heap.size = w.heap.size + 1 := by simp
    rw [e] at h
    exact h
  have hx1 := (Below.heap_alloc ((w.alloc (.cells (scrA s (.slice ca s.cs.length cc) (.slice ta s.tabs.length tc) (.slice ga s.gone.length gc)) 32)).alloc (.cells #[.int .i64 n] 3)) (.cells #[.int .i64 0, .int .i64 0, .slice none 0 0, .int .i64 0, .int .i64 0, .bool false, .int .i64 0, .int .i64 0, .int .i64 0, .int .i64 0, .int .i64 0, .int .i64 0, .slice none 0 0, .int .i64 0, .int .i64 0, .int .i64 0, .int .i64 0, .int .i64 0, .int .i64 0, .int .i32 0, .string ⟨#[]⟩, .slice none 0 0] 32) _ (heap_lt hx1)).trans hx1
  have hx2 : (((w.alloc (.cells (scrA s (.slice ca s.cs.length cc) (.slice ta s.tabs.length tc) (.slice ga s.gone.length gc)) 32)).alloc (.cells #[.int .i64 n] 3)).alloc (.cells #[.int .i64 0, .int .i64 0, .slice none 0 0, .int .i64 0, .int .i64 0, .bool false, .int .i64 0, .int .i64 0, .int .i64 0, .int .i64 0, .int .i64 0, .int .i64 0, .slice none 0 0, .int .i64 0, .int .i64 0, .int .i64 0, .int .i64 0, .int .i64 0, .int .i64 0, .int .i32 0, .string ⟨#[]⟩, .slice none 0 0] 32)).heap[w.heap.size + 2]? = some (.cells #[.int .i64 0, .int .i64 0, .slice none 0 0, .int .i64 0, .int .i64 0, .bool false, .int .i64 0, .int .i64 0, .int .i64 0, .int .i64 0, .int .i64 0, .int .i64 0, .slice none 0 0, .int .i64 0, .int .i64 0, .int .i64 0, .int .i64 0, .int .i64 0, .int .i64 0, .int .i32 0, .string ⟨#[]⟩, .slice none 0 0] 32 (0, 0)) := by
    have h := heap_alloc_new ((w.alloc (.cells (scrA s (.slice ca s.cs.length cc) (.slice ta s.tabs.length tc) (.slice ga s.gone.length gc)) 32)).alloc (.cells #[.int .i64 n] 3)) (.cells #[.int .i64 0, .int .i64 0, .slice none 0 0, .int .i64 0, .int .i64 0, .bool false, .int .i64 0, .int .i64 0, .int .i64 0, .int .i64 0, .int .i64 0, .int .i64 0, .slice none 0 0, .int .i64 0, .int .i64 0, .int .i64 0, .int .i64 0, .int .i64 0, .int .i64 0, .int .i32 0, .string ⟨#[]⟩, .slice none 0 0] 32)
    have e : ((w.alloc (.cells (scrA s (.slice ca s.cs.length cc) (.slice ta s.tabs.length tc) (.slice ga s.gone.length gc)) 32)).alloc (.cells #[.int .i64 n] 3)).heap.size = w.heap.size + 2 := by simp
    rw [e] at h
    exact h
  have HX0 : Hid _ := hx0
  have HXR : Hid _ := hx2
  have HKB : Hid _ := hkb
  have HC := hC _ (w.heap.size + 1) hkb (cell_onew hx1)
  have hsz : w.heap.size ≤ (((w.alloc (.cells (scrA s (.slice ca s.cs.length cc) (.slice ta s.tabs.length tc) (.slice ga s.gone.length gc)) 32)).alloc (.cells #[.int .i64 n] 3)).alloc (.cells #[.int .i64 0, .int .i64 0, .slice none 0 0, .int .i64 0, .int .i64 0, .bool false, .int .i64 0, .int .i64 0, .int .i64 0, .int .i64 0, .int .i64 0, .int .i64 0, .slice none 0 0, .int .i64 0, .int .i64 0, .int .i64 0, .int .i64 0, .int .i64 0, .int .i64 0, .int .i32 0, .string ⟨#[]⟩, .slice none 0 0] 32)).heap.size := hkb.size
  clear hkb hV hC hx0 hx1 hx2
  go_enter Tryz.func17, Tryz.ntmps17
  go_upto_region 1 with fail
  generalize (((w.alloc (.cells (scrA s (.slice ca s.cs.length cc) (.slice ta s.tabs.length tc) (.slice ga s.gone.length gc)) 32)).alloc (.cells #[.int .i64 n] 3)).alloc (.cells #[.int .i64 0, .int .i64 0, .slice none 0 0, .int .i64 0, .int .i64 0, .bool false, .int .i64 0, .int .i64 0, .int .i64 0, .int .i64 0, .int .i64 0, .int .i64 0, .slice none 0 0, .int .i64 0, .int .i64 0, .int .i64 0, .int .i64 0, .int .i64 0, .int .i64 0, .int .i32 0, .string ⟨#[]⟩, .slice none 0 0] 32)) = X at *
  go_wp2_with (refine wpList_load_row rfl 32 (.tmp 2) rfl w.heap.size rfl _ _ _ _ HX0.out Tryz.underlying32 rfl (by kernel_rfl) ?_)
  refine HC.mono ?_
  rintro e V ⟨cv', tv', gv', rfl, hO, c2⟩
  obtain ⟨a1, n1, c1, a2, n2, c2', a3, n3, c3, rfl, rfl, rfl⟩ := hO.shapes
  have HO : Hid (ScrO V 0 _ s' _ _ _) := hO
  have HR : Hid (V.heap[w.heap.size + 2]? = _) := Grd.carry HXR.out c2
  have HB : Hid (Below w.heap.size w V) := HKB.out.trans (c2.mono HKB.out.size)
  clear hO c2 HC
  go_wp2_with (refine wpList_store_row rfl 32 (.tmp 4) (.tmp 9) rfl (w.heap.size + 2) (scrA s' (.slice a1 n1 c1) (.slice a2 n2 c2') (.slice a3 n3 c3)) rfl rfl _ _ HR.out (by kernel_rfl) rfl (scr_one _ _ _ _ _ _ _ _ _ _) ?_)
  (try simp only [Exit.inBlock, Exit.then])
  refine bodyPost_ret (v := .tuple #[.agg (scrA s' (.slice a1 n1 c1) (.slice a2 n2 c2') (.slice a3 n3 c3)), .int .i64 er]) ?_ rfl ⟨_, _, _, rfl, ?_, below_setRow HB.out (by omega) _⟩
  · exact Grd.results_row_tmp rfl _ _ (w.heap.size + 2) _ _ _ _ rfl (setRow_heap _ _ _ _ _ _ HR.out) Tryz.underlying32 rfl (by kernel_rfl) _ rfl
  · exact (ScrO.off HO.out HR.out screen_is (by omega) fun k hk => setRow_other _ _ _ _ hk).mono hsz
set_option maxHeartbeats 2000000 in
set_option maxRecDepth 100000 in
theorem wipeScreen_calls (s s' : Scr) (cv tv gv : Value) (n : Int) (er : Int) (w0 w : World) (hV : ScrV w0 s cv tv gv) (hM : w0.heap.size ≤ w.heap.size) (hk : n ≤ 2)
    (hC : ∀ (W : World) (B1 : Nat), Below w.heap.size w W → W.cell? ⟨B1, 0, none⟩ = some (.int .i64 n) → Calls Tryz.prog 43 #[.agg (scrA s cv tv gv), .func (.func 46) #[] #[.pointer (some ⟨B1, 0, none⟩)]] W (Made w0 W s' er)) :
    Calls Tryz.prog 16 #[.agg (scrA s cv tv gv), .int .i64 n] w (Made w0 w s' er) := by
  obtain ⟨ca, cc, rfl⟩ := hV.c.shape
  obtain ⟨ta, tc, rfl⟩ := hV.t.slice
  obtain ⟨ga, gc, rfl⟩ := hV.g.slice
  have hkb : Below w.heap.size w (((w.alloc (.cells (scrA s (.slice ca s.cs.length cc) (.slice ta s.tabs.length tc) (.slice ga s.gone.length gc)) 32)).alloc (.cells #[.int .i64 n] 3)).alloc (.cells #[.int .i64 0, .int .i64 0, .slice none 0 0, .int .i64 0, .int .i64 0, .bool false, .int .i64 0, .int .i64 0, .int .i64 0, .int .i64 0, .int .i64 0, .int .i64 0, .slice none 0 0, .int .i64 0, .int .i64 0, .int .i64 0, .int .i64 0, .int .i64 0, .int .i64 0, .int .i32 0, .string ⟨#[]⟩, .slice none 0 0] 32)) := ((((Below.refl _ _).alloc (by simp) _).alloc (by simp) _).alloc (by simp; omega) _)
  have hx0 : (w.alloc (.cells (scrA s (.slice ca s.cs.length cc) (.slice ta s.tabs.length tc) (.slice ga s.gone.length gc)) 32)).heap[w.heap.size]? = some (.cells (scrA s (.slice ca s.cs.length cc) (.slice ta s.tabs.length tc) (.slice ga s.gone.length gc)) 32 (0, 0)) := by
    have h := heap_alloc_new w (.cells (scrA s (.slice ca s.cs.length cc) (.slice ta s.tabs.length tc) (.slice ga s.gone.length gc)) 32)
    have e : w.heap.size = w.heap.size := by simp
    rw [e] at h
    exact h
  have hx0 := (Below.heap_alloc (w.alloc (.cells (scrA s (.slice ca s.cs.length cc) (.slice ta s.tabs.length tc) (.slice ga s.gone.length gc)) 32)) (.cells #[.int .i64 n] 3) _ (heap_lt hx0)).trans hx0
  have hx0 := (Below.heap_alloc ((w.alloc (.cells (scrA s (.slice ca s.cs.length cc) (.slice ta s.tabs.length tc) (.slice ga s.gone.length gc)) 32)).alloc (.cells #[.int .i64 n] 3)) (.cells #[.int .i64 0, .int .i64 0, .slice none 0 0, .int .i64 0, .int .i64 0, .bool false, .int .i64 0, .int .i64 0, .int .i64 0, .int .i64 0, .int .i64 0, .int .i64 0, .slice none 0 0, .int .i64 0, .int .i64 0, .int .i64 0, .int .i64 0, .int .i64 0, .int .i64 0, .int .i32 0, .string ⟨#[]⟩, .slice none 0 0] 32) _ (heap_lt hx0)).trans hx0
  have hx1 : ((w.alloc (.cells (scrA s (.slice ca s.cs.length cc) (.slice ta s.tabs.length tc) (.slice ga s.gone.length gc)) 32)).alloc (.cells #[.int .i64 n] 3)).heap[w.heap.size + 1]? = some (.cells #[.int .i64 n] 3 (0, 0)) := by
    have h := heap_alloc_new (w.alloc (.cells (scrA s (.slice ca s.cs.length cc) (.slice ta s.tabs.length tc) (.slice ga s.gone.length gc)) 32)) (.cells #[.int .i64 n] 3)
    have e : (w.alloc (.cells (scrA s (.slice ca s.cs.length cc) (.slice ta s.tabs.length tc) (.slice ga s.gone.length gc)) 32)).heap.size = w.heap.size + 1 := by simp
    rw [e] at h
    exact h
  have hx1 := (Below.heap_alloc ((w.alloc (.cells (scrA s (.slice ca s.cs.length cc) (.slice ta s.tabs.length tc) (.slice ga s.gone.length gc)) 32)).alloc (.cells #[.int .i64 n] 3)) (.cells #[.int .i64 0, .int .i64 0, .slice none 0 0, .int .i64 0, .int .i64 0, .bool false, .int .i64 0, .int .i64 0, .int .i64 0, .int .i64 0, .int .i64 0, .int .i64 0, .slice none 0 0, .int .i64 0, .int .i64 0, .int .i64 0, .int .i64 0, .int .i64 0, .int .i64 0, .int .i32 0, .string ⟨#[]⟩, .slice none 0 0] 32) _ (heap_lt hx1)).trans hx1
  have hx2 : (((w.alloc (.cells (scrA s (.slice ca s.cs.length cc) (.slice ta s.tabs.length tc) (.slice ga s.gone.length gc)) 32)).alloc (.cells #[.int .i64 n] 3)).alloc (.cells #[.int .i64 0, .int .i64 0, .slice none 0 0, .int .i64 0, .int .i64 0, .bool false, .int .i64 0, .int .i64 0, .int .i64 0, .int .i64 0, .int .i64 0, .int .i64 0, .slice none 0 0, .int .i64 0, .int .i64 0, .int .i64 0, .int .i64 0, .int .i64 0, .int .i64 0, .int .i32 0, .string ⟨#[]⟩, .slice none 0 0] 32)).heap[w.heap.size + 2]? = some (.cells #[.int .i64 0, .int .i64 0, .slice none 0 0, .int .i64 0, .int .i64 0, .bool false, .int .i64 0, .int .i64 0, .int .i64 0, .int .i64 0, .int .i64 0, .int .i64 0, .slice none 0 0, .int .i64 0, .int .i64 0, .int .i64 0, .int .i64 0, .int .i64 0, .int .i64 0, .int .i32 0, .string ⟨#[]⟩, .slice none 0 0] 32 (0, 0)) := by
    have h := heap_alloc_new ((w.alloc (.cells (scrA s (.slice ca s.cs.length cc) (.slice ta s.tabs.length tc) (.slice ga s.gone.length gc)) 32)).alloc (.cells #[.int .i64 n] 3)) (.cells #[.int .i64 0, .int .i64 0, .slice none 0 0, .int .i64 0, .int .i64 0, .bool false, .int .i64 0, .int .i64 0, .int .i64 0, .int .i64 0, .int .i64 0, .int .i64 0, .slice none 0 0, .int .i64 0, .int .i64 0, .int .i64 0, .int .i64 0, .int .i64 0, .int .i64 0, .int .i32 0, .string ⟨#[]⟩, .slice none 0 0] 32)
    have e : ((w.alloc (.cells (scrA s (.slice ca s.cs.length cc) (.slice ta s.tabs.length tc) (.slice ga s.gone.length gc)) 32)).alloc (.cells #[.int .i64 n] 3)).heap.size = w.heap.size + 2 := by simp
    rw [e] at h
    exact h
  have HX0 : Hid _ := hx0
  have HXR : Hid _ := hx2
  have HKB : Hid _ := hkb
  have HC := hC _ (w.heap.size + 1) hkb (cell_onew hx1)
  have hsz : w.heap.size ≤ (((w.alloc (.cells (scrA s (.slice ca s.cs.length cc) (.slice ta s.tabs.length tc) (.slice ga s.gone.length gc)) 32)).alloc (.cells #[.int .i64 n] 3)).alloc (.cells #[.int .i64 0, .int .i64 0, .slice none 0 0, .int .i64 0, .int .i64 0, .bool false, .int .i64 0, .int .i64 0, .int .i64 0, .int .i64 0, .int .i64 0, .int .i64 0, .slice none 0 0, .int .i64 0, .int .i64 0, .int .i64 0, .int .i64 0, .int .i64 0, .int .i64 0, .int .i32 0, .string ⟨#[]⟩, .slice none 0 0] 32)).heap.size := hkb.size
  have q1 := cell_onew hx1
  clear hkb hV hC hx0 hx1 hx2
  go_enter Tryz.func16, Tryz.ntmps16
  go_upto_region 1 with fail
  generalize (((w.alloc (.cells (scrA s (.slice ca s.cs.length cc) (.slice ta s.tabs.length tc) (.slice ga s.gone.length gc)) 32)).alloc (.cells #[.int .i64 n] 3)).alloc (.cells #[.int .i64 0, .int .i64 0, .slice none 0 0, .int .i64 0, .int .i64 0, .bool false, .int .i64 0, .int .i64 0, .int .i64 0, .int .i64 0, .int .i64 0, .int .i64 0, .slice none 0 0, .int .i64 0, .int .i64 0, .int .i64 0, .int .i64 0, .int .i64 0, .int .i64 0, .int .i32 0, .string ⟨#[]⟩, .slice none 0 0] 32)) = X at *
  go_wp2_with (refine wpList_load_row rfl 32 (.tmp 2) rfl w.heap.size rfl _ _ _ _ HX0.out Tryz.underlying32 rfl (by kernel_rfl) ?_)
  refine HC.mono ?_
  rintro e V ⟨cv', tv', gv', rfl, hO, c2⟩
  obtain ⟨a1, n1, c1, a2, n2, c2', a3, n3, c3, rfl, rfl, rfl⟩ := hO.shapes
  have HO : Hid (ScrO V 0 _ s' _ _ _) := hO
  have HR : Hid (V.heap[w.heap.size + 2]? = _) := Grd.carry HXR.out c2
  have HB : Hid (Below w.heap.size w V) := HKB.out.trans (c2.mono HKB.out.size)
  clear hO c2 HC
  go_wp2_with (refine wpList_store_row rfl 32 (.tmp 4) (.tmp 11) rfl (w.heap.size + 2) (scrA s' (.slice a1 n1 c1) (.slice a2 n2 c2') (.slice a3 n3 c3)) rfl rfl _ _ HR.out (by kernel_rfl) rfl (scr_one _ _ _ _ _ _ _ _ _ _) ?_)
  (try simp only [Exit.inBlock, Exit.then])
  refine bodyPost_ret (v := .tuple #[.agg (scrA s' (.slice a1 n1 c1) (.slice a2 n2 c2') (.slice a3 n3 c3)), .int .i64 er]) ?_ rfl ⟨_, _, _, rfl, ?_, below_setRow HB.out (by omega) _⟩
  · exact Grd.results_row_tmp rfl _ _ (w.heap.size + 2) _ _ _ _ rfl (setRow_heap _ _ _ _ _ _ HR.out) Tryz.underlying32 rfl (by kernel_rfl) _ rfl
  · exact (ScrO.off HO.out HR.out screen_is (by omega) fun k hk => setRow_other _ _ _ _ hk).mono hsz
set_option maxHeartbeats 2000000 in
set_option maxRecDepth 100000 in
theorem wipeScreen_more (s s' : Scr) (cv tv gv : Value) (n : Int) (er : Int) (w0 w : World) (hV : ScrV w0 s cv tv gv) (hM : w0.heap.size ≤ w.heap.size) (hk : ¬ n ≤ 2)
    (hC : ∀ (W : World) (B1 : Nat), Below w.heap.size w W → W.cell? ⟨B1, 0, none⟩ = some (.int .i64 n) → Calls Tryz.prog 48 #[.agg (scrA s cv tv gv), .func (.func 49) #[] #[.pointer (some ⟨B1, 0, none⟩)]] W (Made w0 W s' er)) :
    Calls Tryz.prog 16 #[.agg (scrA s cv tv gv), .int .i64 n] w (Made w0 w s' er) := by
  obtain ⟨ca, cc, rfl⟩ := hV.c.shape
  obtain ⟨ta, tc, rfl⟩ := hV.t.slice
  obtain ⟨ga, gc, rfl⟩ := hV.g.slice
  have hkb : Below w.heap.size w (((w.alloc (.cells (scrA s (.slice ca s.cs.length cc) (.slice ta s.tabs.length tc) (.slice ga s.gone.length gc)) 32)).alloc (.cells #[.int .i64 n] 3)).alloc (.cells #[.int .i64 0, .int .i64 0, .slice none 0 0, .int .i64 0, .int .i64 0, .bool false, .int .i64 0, .int .i64 0, .int .i64 0, .int .i64 0, .int .i64 0, .int .i64 0, .slice none 0 0, .int .i64 0, .int .i64 0, .int .i64 0, .int .i64 0, .int .i64 0, .int .i64 0, .int .i32 0, .string ⟨#[]⟩, .slice none 0 0] 32)) := ((((Below.refl _ _).alloc (by simp) _).alloc (by simp) _).alloc (by simp; omega) _)
  have hx0 : (w.alloc (.cells (scrA s (.slice ca s.cs.length cc) (.slice ta s.tabs.length tc) (.slice ga s.gone.length gc)) 32)).heap[w.heap.size]? = some (.cells (scrA s (.slice ca s.cs.length cc) (.slice ta s.tabs.length tc) (.slice ga s.gone.length gc)) 32 (0, 0)) := by
    have h := heap_alloc_new w (.cells (scrA s (.slice ca s.cs.length cc) (.slice ta s.tabs.length tc) (.slice ga s.gone.length gc)) 32)
    have e : w.heap.size = w.heap.size := by simp
    rw [e] at h
    exact h
  have hx0 := (Below.heap_alloc (w.alloc (.cells (scrA s (.slice ca s.cs.length cc) (.slice ta s.tabs.length tc) (.slice ga s.gone.length gc)) 32)) (.cells #[.int .i64 n] 3) _ (heap_lt hx0)).trans hx0
  have hx0 := (Below.heap_alloc ((w.alloc (.cells (scrA s (.slice ca s.cs.length cc) (.slice ta s.tabs.length tc) (.slice ga s.gone.length gc)) 32)).alloc (.cells #[.int .i64 n] 3)) (.cells #[.int .i64 0, .int .i64 0, .slice none 0 0, .int .i64 0, .int .i64 0, .bool false, .int .i64 0, .int .i64 0, .int .i64 0, .int .i64 0, .int .i64 0, .int .i64 0, .slice none 0 0, .int .i64 0, .int .i64 0, .int .i64 0, .int .i64 0, .int .i64 0, .int .i64 0, .int .i32 0, .string ⟨#[]⟩, .slice none 0 0] 32) _ (heap_lt hx0)).trans hx0
  have hx1 : ((w.alloc (.cells (scrA s (.slice ca s.cs.length cc) (.slice ta s.tabs.length tc) (.slice ga s.gone.length gc)) 32)).alloc (.cells #[.int .i64 n] 3)).heap[w.heap.size + 1]? = some (.cells #[.int .i64 n] 3 (0, 0)) := by
    have h := heap_alloc_new (w.alloc (.cells (scrA s (.slice ca s.cs.length cc) (.slice ta s.tabs.length tc) (.slice ga s.gone.length gc)) 32)) (.cells #[.int .i64 n] 3)
    have e : (w.alloc (.cells (scrA s (.slice ca s.cs.length cc) (.slice ta s.tabs.length tc) (.slice ga s.gone.length gc)) 32)).heap.size = w.heap.size + 1 := by simp
    rw [e] at h
    exact h
  have hx1 := (Below.heap_alloc ((w.alloc (.cells (scrA s (.slice ca s.cs.length cc) (.slice ta s.tabs.length tc) (.slice ga s.gone.length gc)) 32)).alloc (.cells #[.int .i64 n] 3)) (.cells #[.int .i64 0, .int .i64 0, .slice none 0 0, .int .i64 0, .int .i64 0, .bool false, .int .i64 0, .int .i64 0, .int .i64 0, .int .i64 0, .int .i64 0, .int .i64 0, .slice none 0 0, .int .i64 0, .int .i64 0, .int .i64 0, .int .i64 0, .int .i64 0, .int .i64 0, .int .i32 0, .string ⟨#[]⟩, .slice none 0 0] 32) _ (heap_lt hx1)).trans hx1
  have hx2 : (((w.alloc (.cells (scrA s (.slice ca s.cs.length cc) (.slice ta s.tabs.length tc) (.slice ga s.gone.length gc)) 32)).alloc (.cells #[.int .i64 n] 3)).alloc (.cells #[.int .i64 0, .int .i64 0, .slice none 0 0, .int .i64 0, .int .i64 0, .bool false, .int .i64 0, .int .i64 0, .int .i64 0, .int .i64 0, .int .i64 0, .int .i64 0, .slice none 0 0, .int .i64 0, .int .i64 0, .int .i64 0, .int .i64 0, .int .i64 0, .int .i64 0, .int .i32 0, .string ⟨#[]⟩, .slice none 0 0] 32)).heap[w.heap.size + 2]? = some (.cells #[.int .i64 0, .int .i64 0, .slice none 0 0, .int .i64 0, .int .i64 0, .bool false, .int .i64 0, .int .i64 0, .int .i64 0, .int .i64 0, .int .i64 0, .int .i64 0, .slice none 0 0, .int .i64 0, .int .i64 0, .int .i64 0, .int .i64 0, .int .i64 0, .int .i64 0, .int .i32 0, .string ⟨#[]⟩, .slice none 0 0] 32 (0, 0)) := by
    have h := heap_alloc_new ((w.alloc (.cells (scrA s (.slice ca s.cs.length cc) (.slice ta s.tabs.length tc) (.slice ga s.gone.length gc)) 32)).alloc (.cells #[.int .i64 n] 3)) (.cells #[.int .i64 0, .int .i64 0, .slice none 0 0, .int .i64 0, .int .i64 0, .bool false, .int .i64 0, .int .i64 0, .int .i64 0, .int .i64 0, .int .i64 0, .int .i64 0, .slice none 0 0, .int .i64 0, .int .i64 0, .int .i64 0, .int .i64 0, .int .i64 0, .int .i64 0, .int .i32 0, .string ⟨#[]⟩, .slice none 0 0] 32)
    have e : ((w.alloc (.cells (scrA s (.slice ca s.cs.length cc) (.slice ta s.tabs.length tc) (.slice ga s.gone.length gc)) 32)).alloc (.cells #[.int .i64 n] 3)).heap.size = w.heap.size + 2 := by simp
    rw [e] at h
    exact h
  have HX0 : Hid _ := hx0
  have HXR : Hid _ := hx2
  have HKB : Hid _ := hkb
  have HC := hC _ (w.heap.size + 1) hkb (cell_onew hx1)
  have hsz : w.heap.size ≤ (((w.alloc (.cells (scrA s (.slice ca s.cs.length cc) (.slice ta s.tabs.length tc) (.slice ga s.gone.length gc)) 32)).alloc (.cells #[.int .i64 n] 3)).alloc (.cells #[.int .i64 0, .int .i64 0, .slice none 0 0, .int .i64 0, .int .i64 0, .bool false, .int .i64 0, .int .i64 0, .int .i64 0, .int .i64 0, .int .i64 0, .int .i64 0, .slice none 0 0, .int .i64 0, .int .i64 0, .int .i64 0, .int .i64 0, .int .i64 0, .int .i64 0, .int .i32 0, .string ⟨#[]⟩, .slice none 0 0] 32)).heap.size := hkb.size
  have q1 := cell_onew hx1
  clear hkb hV hC hx0 hx1 hx2
  go_enter Tryz.func16, Tryz.ntmps16
  go_upto_region 1 with fail
  generalize (((w.alloc (.cells (scrA s (.slice ca s.cs.length cc) (.slice ta s.tabs.length tc) (.slice ga s.gone.length gc)) 32)).alloc (.cells #[.int .i64 n] 3)).alloc (.cells #[.int .i64 0, .int .i64 0, .slice none 0 0, .int .i64 0, .int .i64 0, .bool false, .int .i64 0, .int .i64 0, .int .i64 0, .int .i64 0, .int .i64 0, .int .i64 0, .slice none 0 0, .int .i64 0, .int .i64 0, .int .i64 0, .int .i64 0, .int .i64 0, .int .i64 0, .int .i32 0, .string ⟨#[]⟩, .slice none 0 0] 32)) = X at *
  go_wp2_with (refine wpList_load_row rfl 32 (.tmp 2) rfl w.heap.size rfl _ _ _ _ HX0.out Tryz.underlying32 rfl (by kernel_rfl) ?_)
  refine HC.mono ?_
  rintro e V ⟨cv', tv', gv', rfl, hO, c2⟩
  obtain ⟨a1, n1, c1, a2, n2, c2', a3, n3, c3, rfl, rfl, rfl⟩ := hO.shapes
  have HO : Hid (ScrO V 0 _ s' _ _ _) := hO
  have HR : Hid (V.heap[w.heap.size + 2]? = _) := Grd.carry HXR.out c2
  have HB : Hid (Below w.heap.size w V) := HKB.out.trans (c2.mono HKB.out.size)
  clear hO c2 HC
  go_wp2_with (refine wpList_store_row rfl 32 (.tmp 4) (.tmp 16) rfl (w.heap.size + 2) (scrA s' (.slice a1 n1 c1) (.slice a2 n2 c2') (.slice a3 n3 c3)) rfl rfl _ _ HR.out (by kernel_rfl) rfl (scr_one _ _ _ _ _ _ _ _ _ _) ?_)
  (try simp only [Exit.inBlock, Exit.then])
  refine bodyPost_ret (v := .tuple #[.agg (scrA s' (.slice a1 n1 c1) (.slice a2 n2 c2') (.slice a3 n3 c3)), .int .i64 er]) ?_ rfl ⟨_, _, _, rfl, ?_, below_setRow HB.out (by omega) _⟩
  · exact Grd.results_row_tmp rfl _ _ (w.heap.size + 2) _ _ _ _ rfl (setRow_heap _ _ _ _ _ _ HR.out) Tryz.underlying32 rfl (by kernel_rfl) _ rfl
  · exact (ScrO.off HO.out HR.out screen_is (by omega) fun k hk => setRow_other _ _ _ _ hk).mono hsz
end Put
end Go.Proofs.YtnkeahfcpbepjaaGreatDoor

/- Package wipe: Line and Screen, of a right screen and of another. -/
namespace Go.Proofs.YtnkeahfcpbepjaaGreatDoor
set_option linter.unusedVariables false
open Go.ChangeShapes Go.WideShapes Go.ChangeAt Go.RowKit
namespace Put
open Grd (C SliceAt CellsAt gridErr z0 nilV flat rowsL RightRow)
open Sty (isSt)
/-- A screen that came in, where it lies. -/
structure CameW (w0 w : World) (s : Scr) (cv tv gv : Value) : Prop where
  t : Txt.Tab w
  v : ScrV w0 s cv tv gv
  b : Below w0.heap.size w0 w
  f : Fits s
theorem CameW.next {w0 w W : World} {s : Scr} {cv tv gv : Value} (h : CameW w0 w s cv tv gv) (hb : Below w.heap.size w W) : CameW w0 W s cv tv gv := ⟨Grd.Tab.next h.t hb, h.v, h.b.trans (hb.mono h.b.size), h.f⟩
theorem wchange_bad {w0 w : World} {s : Scr} {cv tv gv : Value} (h : CameW w0 w s cv tv gv) (hz : scrErr s ≠ 0) (df : FuncId) (caps : Array Value) : Calls Tryz.prog 48 #[.agg (scrA s cv tv gv), .func (.func df) #[] caps] w (Made w0 w zScr (scrErr s)) :=
  wchange_any s zScr cv tv gv df caps w0 w h.t h.v h.b h.f fun W _ => made_bad s cv tv gv (scrErr s) hz _ w0 W h.v
theorem wchange_good {w0 w : World} {s s' : Scr} {cv tv gv : Value} {n hh : Nat} (h : CameW w0 w s cv tv gv) (hz : scrErr s = 0) (hR : RightS s n hh) (df : FuncId) (hpl : Plain df) (caps : Array Value) (rows' : List (List C)) (cs' : List C)
    (hM : ∀ w1, Below w.heap.size w w1 → Does df caps w0.heap.size w1 s s' (rowsL n s.cs hh) rows') (hO : RowsOk s' rows') (hcs : rows'.flatten = cs') :
    Calls Tryz.prog 48 #[.agg (scrA s cv tv gv), .func (.func df) #[] caps] w (Made w0 w { s' with cs := cs' } (scrErr s)) :=
  wchange_any s _ cv tv gv df caps w0 w h.t h.v h.b h.f fun W hW => by
    rw [hz]
    exact change_good n hh s s' rows' cv tv gv df hpl caps w0 W h.v (h.b.trans (hW.mono h.b.size)) h.f hR.w hR.h hR.gz (fun w1 hw1 => hM w1 (hW.trans (hw1.mono hW.size))) hO cs' hcs
def onTimeW (s : Scr) : Scr := { s with late := false }
set_option maxHeartbeats 2000000 in
theorem wiped_does (tf : FuncId) (hpl : Plain tf) (tcaps : Array Value) (B M : Nat) (w : World) (s s1 : Scr) (rows rows1 : List (List C)) (hB : w.cell? ⟨B, 0, none⟩ = some (.func (.func tf) #[] tcaps))
    (hto : Does tf tcaps M w (onTimeW s) s1 rows rows1) : Does 105 #[.pointer (some ⟨B, 0, none⟩)] M w s s1 rows rows1 := by
  intro W p hb hS
  obtain ⟨c0, c1, c3, c4, c5, c9, c10, c11, c19, f⟩ := hS.words
  have f5 := f 5
  have q0 := cell_stay hb hB
  have hBl := World.block_lt_of_cell? w _ hB
  have hlo := hS.lo
  have hne : B ≠ p := by have : B < w.heap.size := hBl; omega
  have HS1 : Hid (ShAt 64 (W.setCell ⟨p, 5, none⟩ (.bool false)) M w.heap.size p (onTimeW s) rows) := hS.set sheet_is 5 _ (fun _ _ _ _ => rfl) rfl rfl
  have HB1 : Hid (Below w.heap.size w (W.setCell ⟨p, 5, none⟩ (.bool false))) := hb.setCell hlo _
  have HB1' : Hid (Below w.heap.size W (W.setCell ⟨p, 5, none⟩ (.bool false))) := (Below.refl _ _).setCell hlo _
  have HTO := hto _ p HB1.out HS1.out
  unfold Plain at hpl
  clear hS hb hB c0 c1 c3 c4 c9 c10 c11 c19 f hto
  go_enter Tryz.func105, Tryz.ntmps105
  go_wp2_with fail
  refine HTO.mono ?_
  rintro e W2 ⟨rfl, hS2, b2⟩
  have HB2 : Hid (Below w.heap.size W W2) := HB1'.out.trans b2
  have HS2 : Hid (ShAt 64 W2 M w.heap.size p s1 rows1) := hS2
  clear HTO hS2 b2 q0 c5 f5
  go_wp2_with fail
  go_end0
  exact ⟨rfl, HS2.out, HB2.out⟩
theorem plain_wiped : Plain 105 := by
  intro args W
  kernel_rfl
theorem wiped_bad {w0 w : World} {s : Scr} {cv tv gv : Value} (h : CameW w0 w s cv tv gv) (hz : scrErr s ≠ 0) (tf : FuncId) (tcaps : Array Value) : Calls Tryz.prog 43 #[.agg (scrA s cv tv gv), .func (.func tf) #[] tcaps] w (Made w0 w zScr (scrErr s)) :=
  wiped_calls s zScr cv tv gv tf tcaps (scrErr s) w0 w h.v h.b.size fun _ _ hW _ => wchange_bad (h.next hW) hz _ _
/-- Rows of that many, right ones, in the place of a right screen's. -/
theorem rows_ok {s : Scr} {n hh : Nat} (hR : RightS s n hh) (s' : Scr) (rows' : List (List C)) (hl : rows'.length = hh) (hRR : RightRows n rows') (hg : s'.gone = s.gone) : RowsOk s' rows' := by
  have n1 := hR.n1
  have n2 := hR.n2
  have h1 := hR.h1
  have h2 := hR.h2
  have hlen := Grd.flatten_len n rows' (fun i hi => (hRR i hi).1) hh (by omega)
  rw [← hl, List.take_length] at hlen
  refine ⟨by omega, by omega, fun i hi e => ?_, ?_, by rw [hg]; have := hR.gl; omega, fun i hi => ?_⟩
  · have := (hRR i hi).1
    rw [e] at this
    simp at this
    omega
  · rw [hlen]
    have := Nat.mul_le_mul (show rows'.length ≤ 60 by omega) n2
    omega
  · rw [hg] at hi ⊢
    have := hR.gone_le i hi
    omega
theorem rowAt_flatten (n : Nat) (rows : List (List C)) (hr : ∀ i, i < rows.length → (rows.getD i []).length = n) (i : Nat) (hi : i < rows.length) : Grd.rowAt n rows.flatten i = rows.getD i [] := by
  have h1 := Grd.flatten_len n rows hr i (by omega)
  have h2 : rows.flatten = (rows.take i).flatten ++ (rows.drop i).flatten := by rw [← List.flatten_append, List.take_append_drop]
  have h3 : rows.getD i [] = rows[i] := by simp [List.getD, hi]
  have h4 := hr i hi
  rw [h3] at h4
  unfold Grd.rowAt
  rw [h2, List.drop_left' h1, List.drop_eq_getElem_cons hi, List.flatten_cons, List.take_left' h4, h3]
theorem right_rows {s : Scr} {n hh : Nat} (h : RightS s n hh) (rows' : List (List C)) (hl : rows'.length = hh) (hRR : RightRows n rows') : RightS { s with late := false, cs := rows'.flatten } n hh ∧ rowsL n rows'.flatten hh = rows' := by
  have hlen := Grd.flatten_len n rows' (fun i hi => (hRR i hi).1) hh (by omega)
  rw [← hl, List.take_length, hl, Nat.mul_comm] at hlen
  have hgz : gridErr n hh rows'.flatten = 0 := (Grd.gridErr_zero n hh _).2 ⟨((Grd.gridErr_zero n hh _).1 h.gz).1, hlen, fun y hy => by
    rw [rowAt_flatten n rows' (fun i hi => (hRR i hi).1) y (by omega)]
    exact (hRR y (by omega)).2⟩
  refine ⟨⟨h.w, h.h, h.n1, h.n2, h.h1, h.h2, hlen, hgz, h.x0, h.x1, h.y0, h.y1, h.kx0, h.kx1, h.ky0, h.ky1, h.t0, h.t1, h.t2, h.t3, rfl, h.looks, h.tl, h.la, h.ti, h.gl, h.gr⟩, ?_⟩
  refine rows_ext (by rw [Grd.rowsL_len, hl]) fun i hi => ?_
  rw [Grd.rowsL_len] at hi
  have e2 : (rowsL n rows'.flatten hh).getD i [] = Grd.rowAt n rows'.flatten i := by simp [rowsL, List.getD, hi]
  rw [e2, rowAt_flatten n rows' (fun i hi => (hRR i hi).1) i (by omega)]
theorem wiped_good {w0 w : World} {s : Scr} {cv tv gv : Value} {n hh : Nat} (h : CameW w0 w s cv tv gv) (hR : RightS s n hh) (tf : FuncId) (hpl : Plain tf) (tcaps : Array Value) (rows' : List (List C)) (hl : rows'.length = hh) (hRR : RightRows n rows') (hz : scrErr s = 0)
    (hM : ∀ w1, Below w.heap.size w w1 → Does tf tcaps w0.heap.size w1 (onTimeW s) (onTimeW s) (rowsL n s.cs hh) rows') :
    Calls Tryz.prog 43 #[.agg (scrA s cv tv gv), .func (.func tf) #[] tcaps] w (Made w0 w { s with late := false, cs := rows'.flatten } 0) := by
  rw [← hz]
  exact wiped_calls s _ cv tv gv tf tcaps (scrErr s) w0 w h.v h.b.size fun W B hW hB => wchange_good (h.next hW) hz hR _ plain_wiped _ rows' rows'.flatten (fun w1 hw1 => wiped_does tf hpl tcaps B _ w1 s (onTimeW s) _ _ (cell_stay hw1 hB) (hM w1 (hW.trans (hw1.mono hW.size)))) (rows_ok hR _ rows' hl hRR rfl) rfl
theorem line_does (k : Int) (B M : Nat) (w : World) (hT : Txt.Tab w) (s : Scr) (rows : List (List C)) (n y x : Nat) (hB : w.cell? ⟨B, 0, none⟩ = some (.int .i64 k)) (hw : s.w = n) (hy : s.y = y) (hx : s.x = x) (hyl : y < rows.length) (hxn : x < n) (hn1 : 1 ≤ n) (hn2 : n ≤ 120) (hR : RightRows n rows) (hst : isSt (0, s.sb, 0) = true) :
    Does 44 #[.pointer (some ⟨B, 0, none⟩)] M w s s rows (rows.set y (lineRow s k x n (rows.getD y []))) := by
  intro W p hb hS
  have q0 := cell_stay hb hB
  have H := clearLine_any W M _ p s rows (Grd.Tab.next hT hb) hS n y x k hw hy hx hyl hxn hn1 hn2 hR hst
  clear hS hB hw hy hx hR hst
  go_enter Tryz.func44, Tryz.ntmps44
  go_wp2_with fail
  refine H.mono ?_
  rintro e V ⟨rfl, hSV, hBV, hFV⟩
  clear hFV
  go_wp2_with fail
  go_end0
  exact ⟨rfl, hSV, hBV⟩
theorem screen_does (k : Int) (B M : Nat) (w : World) (hT : Txt.Tab w) (s : Scr) (rows : List (List C)) (n hh y x : Nat) (hB : w.cell? ⟨B, 0, none⟩ = some (.int .i64 k)) (hw : s.w = n) (hh' : s.h = hh) (hy : s.y = y) (hx : s.x = x) (hrl : rows.length = hh) (hyl : y < hh) (hhl : hh ≤ 60) (hxn : x < n) (hn1 : 1 ≤ n) (hn2 : n ≤ 120) (hR : RightRows n rows) (hst : isSt (0, s.sb, 0) = true) :
    Does 46 #[.pointer (some ⟨B, 0, none⟩)] M w s s rows (wipeTo (rows.set y (lineRow s k x n (rows.getD y []))) n s.sb (spanA k y hh).1 (spanA k y hh).2 y) := by
  intro W p hb hS
  have q0 := cell_stay hb hB
  have HQ : Hid (∀ V, Below w.heap.size W V → V.cell? ⟨B, 0, none⟩ = some (.int .i64 k)) := fun V h => cell_stay (hb.trans h) hB
  have H := clearLine_any W M _ p s rows (Grd.Tab.next hT hb) hS n y x k hw hy hx (by omega) hxn hn1 hn2 hR hst
  have hl : (lineRow s k x n (rows.getD y [])).length = n := by unfold lineRow; rw [wipe_len]; exact (hR y (by omega)).1
  have hr2 : RightRows n (rows.set y (lineRow s k x n (rows.getD y []))) := hR.set y _ hl (wipe_right _ _ _ _ (hR y (by omega)).2 hst)
  have H2 : Hid (∀ V, Below w.heap.size W V → ShAt 64 V M w.heap.size p s (rows.set y (lineRow s k x n (rows.getD y []))) → Calls Tryz.prog 47 #[.pointer (some ⟨p, 0, none⟩), .int .i64 k] V (Ran V M w.heap.size p s (wipeTo (rows.set y (lineRow s k x n (rows.getD y []))) n s.sb (spanA k y hh).1 (spanA k y hh).2 y))) := fun V hV hS2 => clearRows_any V M _ p s _ ((Grd.Tab.next hT hb).below hV hT.pos) hT.pos hS2 n hh y k hw hh' hy (by rw [List.length_set]; exact hrl) hyl hhl hn1 hn2 hr2 hst
  clear hS hB hw hy hx hR hst hr2 hl hT
  generalize wipeTo (rows.set y (lineRow s k x n (rows.getD y []))) n s.sb (spanA k y hh).1 (spanA k y hh).2 y = rows2 at *
  generalize rows.set y (lineRow s k x n (rows.getD y [])) = rows1 at *
  go_enter Tryz.func46, Tryz.ntmps46
  go_wp2_with fail
  refine H.mono ?_
  rintro e V ⟨rfl, hSV, hBV, hFV⟩
  have q1 := HQ.out V hBV
  have H3 := H2.out V hBV hSV
  have HBV : Hid (Below w.heap.size W V) := hBV
  clear hFV hSV hBV q0 H
  go_wp2_with fail
  refine H3.mono ?_
  rintro e V2 ⟨rfl, hSV, hBV, hFV⟩
  have HSV : Hid _ := hSV
  have HB2 : Hid (Below w.heap.size W V2) := HBV.out.trans hBV
  clear hFV hSV hBV q1 H3
  go_wp2_with fail
  go_end0
  exact ⟨rfl, HSV.out, HB2.out⟩
theorem plain_wline : Plain 44 := by
  intro args W
  kernel_rfl
theorem plain_wscreen : Plain 46 := by
  intro args W
  kernel_rfl
/-- What Line makes. -/
def lineS (s : Scr) (k : Int) (n hh : Nat) : List (List C) := (rowsL n s.cs hh).set s.y.toNat (lineRow s k s.x.toNat n ((rowsL n s.cs hh).getD s.y.toNat []))
/-- What Screen makes, of a kind that is no more than 2. -/
def screenS (s : Scr) (k : Int) (n hh : Nat) : List (List C) := wipeTo (lineS s k n hh) n s.sb (spanA k s.y.toNat hh).1 (spanA k s.y.toNat hh).2 s.y.toNat
theorem lineS_right {s : Scr} {n hh : Nat} (hR : RightS s n hh) (k : Int) : (lineS s k n hh).length = hh ∧ RightRows n (lineS s k n hh) := by
  have y0 := hR.y0
  have y1 := hR.y1
  have h0 := rightRows_of hR
  have hl : s.y.toNat < (rowsL n s.cs hh).length := by rw [Grd.rowsL_len]; omega
  refine ⟨by unfold lineS; rw [List.length_set, Grd.rowsL_len], ?_⟩
  unfold lineS
  exact h0.set _ _ (by unfold lineRow; rw [wipe_len]; exact (h0 _ hl).1) (wipe_right _ _ _ _ (h0 _ hl).2 (back_style hR))
theorem screenS_right {s : Scr} {n hh : Nat} (hR : RightS s n hh) (k : Int) : (screenS s k n hh).length = hh ∧ RightRows n (screenS s k n hh) := by
  obtain ⟨h1, h2⟩ := lineS_right hR k
  exact ⟨by unfold screenS; rw [wipeTo_len]; exact h1, wipeTo_right _ _ _ _ _ _ h2 (back_style hR)⟩
theorem wline_bad {w0 w : World} {s : Scr} {cv tv gv : Value} (h : CameW w0 w s cv tv gv) (hz : scrErr s ≠ 0) (k : Int) : Calls Tryz.prog 15 #[.agg (scrA s cv tv gv), .int .i64 k] w (Made w0 w zScr (scrErr s)) :=
  wipeLine_calls s zScr cv tv gv k (scrErr s) w0 w h.v h.b.size fun _ _ hW _ => wiped_bad (h.next hW) hz _ _
theorem wline_good {w0 w : World} {s : Scr} {cv tv gv : Value} {n hh : Nat} (h : CameW w0 w s cv tv gv) (hR : RightS s n hh) (hz : scrErr s = 0) (k : Int) : Calls Tryz.prog 15 #[.agg (scrA s cv tv gv), .int .i64 k] w (Made w0 w { s with late := false, cs := (lineS s k n hh).flatten } 0) := by
  have x0 := hR.x0
  have x1 := hR.x1
  have y0 := hR.y0
  have y1 := hR.y1
  have hbs := back_style hR
  obtain ⟨h1, h2⟩ := lineS_right hR k
  exact wipeLine_calls s _ cv tv gv k 0 w0 w h.v h.b.size fun W B hW hB => wiped_good (h.next hW) hR _ plain_wline _ (lineS s k n hh) h1 h2 hz fun w1 hw1 => line_does k B _ w1 (Grd.Tab.next h.t (hW.trans (hw1.mono hW.size))) (onTimeW s) _ n s.y.toNat s.x.toNat (cell_stay hw1 hB) hR.w (by show s.y = _; omega) (by show s.x = _; omega) (by rw [Grd.rowsL_len]; omega) (by omega) hR.n1 hR.n2 (rightRows_of hR) hbs
theorem wscreen_bad {w0 w : World} {s : Scr} {cv tv gv : Value} (h : CameW w0 w s cv tv gv) (hz : scrErr s ≠ 0) (k : Int) : Calls Tryz.prog 16 #[.agg (scrA s cv tv gv), .int .i64 k] w (Made w0 w zScr (scrErr s)) := by
  by_cases hk : k ≤ 2
  · exact wipeScreen_calls s zScr cv tv gv k (scrErr s) w0 w h.v h.b.size hk fun _ _ hW _ => wiped_bad (h.next hW) hz _ _
  · exact wipeScreen_more s zScr cv tv gv k (scrErr s) w0 w h.v h.b.size hk fun _ _ hW _ => wchange_bad (h.next hW) hz _ _
theorem wscreen_good {w0 w : World} {s : Scr} {cv tv gv : Value} {n hh : Nat} (h : CameW w0 w s cv tv gv) (hR : RightS s n hh) (hz : scrErr s = 0) (k : Int) (hk : k ≤ 2) : Calls Tryz.prog 16 #[.agg (scrA s cv tv gv), .int .i64 k] w (Made w0 w { s with late := false, cs := (screenS s k n hh).flatten } 0) := by
  have x0 := hR.x0
  have x1 := hR.x1
  have y0 := hR.y0
  have y1 := hR.y1
  have hbs := back_style hR
  obtain ⟨h1, h2⟩ := screenS_right hR k
  exact wipeScreen_calls s _ cv tv gv k 0 w0 w h.v h.b.size hk fun W B hW hB => wiped_good (h.next hW) hR _ plain_wscreen _ (screenS s k n hh) h1 h2 hz fun w1 hw1 => screen_does k B _ w1 (Grd.Tab.next h.t (hW.trans (hw1.mono hW.size))) (onTimeW s) _ n hh s.y.toNat s.x.toNat (cell_stay hw1 hB) hR.w hR.h (by show s.y = _; omega) (by show s.x = _; omega) (Grd.rowsL_len _ _ _) (by omega) hR.h2 (by omega) hR.n1 hR.n2 (rightRows_of hR) hbs
end Put
end Go.Proofs.YtnkeahfcpbepjaaGreatDoor

/- wipe.Chars; wipe.Screen of the other kinds. -/
namespace Go.Proofs.YtnkeahfcpbepjaaGreatDoor
set_option linter.unusedVariables false
open Go.ChangeShapes Go.WideShapes Go.ChangeAt Go.RowKit
namespace Put
open Grd (C SliceAt CellsAt gridErr z0 nilV flat rowsL RightRow)
open Sty (isSt)
/-- Up to where so many cells reach. -/
def charsEnd (k : Int) (x n : Nat) : Nat := x + (min (max k 1) ((n : Int) - x)).toNat
theorem charsEnd_le (k : Int) (x n : Nat) (hx : x < n) : charsEnd k x n ≤ n ∧ x ≤ charsEnd k x n := by unfold charsEnd; omega
set_option maxHeartbeats 4000000 in
theorem chars_does (k : Int) (B M : Nat) (w : World) (hT : Txt.Tab w) (s : Scr) (rows : List (List C)) (n y x : Nat) (hB : w.cell? ⟨B, 0, none⟩ = some (.int .i64 k)) (hw : s.w = n) (hy : s.y = y) (hx : s.x = x) (hyl : y < rows.length) (hxn : x < n) (hn1 : 1 ≤ n) (hn2 : n ≤ 120) (hR : RightRows n rows) (hst : isSt (0, s.sb, 0) = true) :
    Does 50 #[.pointer (some ⟨B, 0, none⟩)] M w s s rows (rows.set y (wipeRow s.sb (rows.getD y []) x (charsEnd k x n))) := by
  intro W p hb hS
  have hce := charsEnd_le k x n hxn
  obtain ⟨mm, hmm⟩ : ∃ mm : Nat, mm = (min (max k 1) ((n : Int) - x)).toNat := ⟨_, rfl⟩
  have hmi : min (max k 1) ((n : Int) - (x : Int)) = (mm : Int) := by omega
  have hm1 := Grd.max2 k 1
  have hm2 := Grd.min2 (max k 1) ((n : Int) - (x : Int))
  rw [hmi] at hm2
  have hmb : mm ≤ 120 := by omega
  have hw1 : IntKind.i64.wrap ((n : Int) - (x : Int)) = (n : Int) - (x : Int) := wrap_id _ (by omega) (by omega)
  have hw2 : IntKind.i64.wrap ((x : Int) + (mm : Int)) = (x : Int) + (mm : Int) := wrap_id _ (by omega) (by omega)
  have HCL : Hid (∀ V, Below W.heap.size W V → Calls Tryz.prog 51 #[.pointer (some ⟨p, 0, none⟩), .int .i64 (y : Int), .int .i64 (x : Int), .int .i64 ((x : Int) + (mm : Int))] V (Ran V M w.heap.size p s (rows.set y (wipeRow s.sb (rows.getD y []) x (charsEnd k x n))))) := fun V hV => by
    have h := clear_any V M _ p s rows (Grd.Tab.next hT (hb.trans (hV.mono hb.size))) (hS.next hV) n y x (charsEnd k x n) hyl _ rfl hn1 hn2 (hR y hyl).1 (one_row n _ hn1 hn2 (hR y hyl).1 (hR y hyl).2) hst (by omega) hce.1
    rw [show ((charsEnd k x n : Nat) : Int) = (x : Int) + (mm : Int) by unfold charsEnd; omega] at h
    exact h
  have q0 := cell_stay hb hB
  have hBl := World.block_lt_of_cell? w _ hB
  obtain ⟨c0, c1, c3, c4, c5, c9, c10, c11, c19, f⟩ := hS.words
  have HWD : Hid (∀ V rows', ShAt 64 V M w.heap.size p s rows' → Below w.heap.size W V → V.cell? ⟨p, 4, none⟩ = some (.int .i64 (y : Int)) ∧ V.cell? ⟨p, 3, none⟩ = some (.int .i64 (x : Int)) ∧ V.cell? ⟨p, 0, none⟩ = some (.int .i64 (n : Int)) ∧ V.cell? ⟨B, 0, none⟩ = some (.int .i64 k)) := fun V rows' hS' hb' => by
    obtain ⟨c0, c1, c3, c4, -⟩ := hS'.words
    rw [hw] at c0
    rw [hx] at c3
    rw [hy] at c4
    exact ⟨c4, c3, c0, (hb'.cell (p := ⟨B, 0, none⟩) hBl).trans q0⟩
  have s0 := HWD.out W.drew rows (hS.next ((Below.refl _ _).drew)) ((Below.refl _ _).drew)
  clear c0 c1 c3 c4 c5 c9 c10 c11 c19 f hS hb hB hw hx hy hR hst hmm hmi hce q0
  generalize max k 1 = mx at *
  generalize rows.set y (wipeRow s.sb (rows.getD y []) x (charsEnd k x n)) = rows' at *
  go_enter Tryz.func50, Tryz.ntmps50
  go_upto_region 0 with fail
  go_region_held3 (fun w' => w'.cell? ⟨p, 4, none⟩ = some (.int .i64 (y : Int)) ∧ w'.cell? ⟨p, 3, none⟩ = some (.int .i64 (x : Int)) ∧ w'.cell? ⟨p, 0, none⟩ = some (.int .i64 (n : Int)) ∧ w'.cell? ⟨B, 0, none⟩ = some (.int .i64 k))
    (first | exact s2 | exact s0)
    (first | (go_at_call 51; refine (HCL.out _ ((Below.refl _ _).drew)).mono ?_; rintro e V ⟨rfl, hSV, hBV, hFV⟩; have hb2 := (((Below.refl w.heap.size W).drew).trans hBV); have s2 := HWD.out V _ hSV hb2; have HSV : Hid _ := hSV; have HB2 : Hid _ := hb2; clear hSV hBV hFV hb2))
  go_wp2_with fail
  go_end0
  exact ⟨rfl, HSV.out, HB2.out⟩
theorem plain_wchars : Plain 50 := by
  intro args W
  kernel_rfl
/-- What Chars makes. -/
def charsS (s : Scr) (k : Int) (n hh : Nat) : List (List C) := (rowsL n s.cs hh).set s.y.toNat (wipeRow s.sb ((rowsL n s.cs hh).getD s.y.toNat []) s.x.toNat (charsEnd k s.x.toNat n))
theorem charsS_right {s : Scr} {n hh : Nat} (hR : RightS s n hh) (k : Int) : (charsS s k n hh).length = hh ∧ RightRows n (charsS s k n hh) := by
  have y0 := hR.y0
  have y1 := hR.y1
  have h0 := rightRows_of hR
  have hl : s.y.toNat < (rowsL n s.cs hh).length := by rw [Grd.rowsL_len]; omega
  refine ⟨by unfold charsS; rw [List.length_set, Grd.rowsL_len], ?_⟩
  unfold charsS
  exact h0.set _ _ (by rw [wipe_len]; exact (h0 _ hl).1) (wipe_right _ _ _ _ (h0 _ hl).2 (back_style hR))
theorem wchars_bad {w0 w : World} {s : Scr} {cv tv gv : Value} (h : CameW w0 w s cv tv gv) (hz : scrErr s ≠ 0) (k : Int) : Calls Tryz.prog 17 #[.agg (scrA s cv tv gv), .int .i64 k] w (Made w0 w zScr (scrErr s)) :=
  wipeChars_calls s zScr cv tv gv k (scrErr s) w0 w h.v h.b.size fun _ _ hW _ => wiped_bad (h.next hW) hz _ _
theorem wchars_good {w0 w : World} {s : Scr} {cv tv gv : Value} {n hh : Nat} (h : CameW w0 w s cv tv gv) (hR : RightS s n hh) (hz : scrErr s = 0) (k : Int) : Calls Tryz.prog 17 #[.agg (scrA s cv tv gv), .int .i64 k] w (Made w0 w { s with late := false, cs := (charsS s k n hh).flatten } 0) := by
  have x0 := hR.x0
  have x1 := hR.x1
  have y0 := hR.y0
  have y1 := hR.y1
  have hbs := back_style hR
  obtain ⟨h1, h2⟩ := charsS_right hR k
  exact wipeChars_calls s _ cv tv gv k 0 w0 w h.v h.b.size fun W B hW hB => wiped_good (h.next hW) hR _ plain_wchars _ (charsS s k n hh) h1 h2 hz fun w1 hw1 => chars_does k B _ w1 (Grd.Tab.next h.t (hW.trans (hw1.mono hW.size))) (onTimeW s) _ n s.y.toNat s.x.toNat (cell_stay hw1 hB) hR.w (by show s.y = _; omega) (by show s.x = _; omega) (by rw [Grd.rowsL_len]; omega) (by omega) hR.n1 hR.n2 (rightRows_of hR) hbs
/-- Nothing is gone. -/
theorem ShA.noGone {t : TypeId} (ht : IsSheet t) {W : World} {M N p : Nat} {s : Scr} {rows : List (List C)} {cv tv gv rv : Value} {gvs vs : List Value} (h : ShA t W M N p s rows cv tv gv rv gvs vs) : ShA t (W.setCell ⟨p, 21, none⟩ (.slice none 0 0)) M N p { s with gone := [] } rows cv tv (.slice none 0 0) rv [] vs := by
  have hk : Kept M W (W.setCell ⟨p, 21, none⟩ (.slice none 0 0)) := Kept.store h.blk ht.2.2 (Nat.le_trans h.ml h.lo)
  exact ⟨store_at h.blk rfl, h.lo, h.ml, h.cvs, own_off h.tabs h.blk ht.1, World.ownsRow_nil _ _ _ _, ⟨rfl, fun i hi => absurd hi (by simp)⟩, own_off h.rws h.blk ht.2.1, h.rin.keep hk, fun k _ h2 => by cases h2⟩
theorem screen2_does (k : Int) (B M : Nat) (w : World) (s : Scr) (rows : List (List C)) (hB : w.cell? ⟨B, 0, none⟩ = some (.int .i64 k)) : Does 49 #[.pointer (some ⟨B, 0, none⟩)] M w s (if k = 3 then { s with gone := [] } else s) rows rows := by
  intro W p hb hS
  have q0 := cell_stay hb hB
  by_cases hk : k = 3
  · rw [if_pos hk]
    obtain ⟨cv, tv, gv, rv, gvs, vs, hA⟩ := hS
    obtain ⟨-, ⟨-, -, -, -, -, -, -, -, -, -, c21, -⟩, f⟩ := sh_cells hA.blk
    have f21 := f 21
    have HE : Hid (ShAt 64 (W.setCell ⟨p, 21, none⟩ (.slice none 0 0)) M w.heap.size p { s with gone := [] } rows ∧ Below w.heap.size W (W.setCell ⟨p, 21, none⟩ (.slice none 0 0))) := ⟨⟨_, _, _, _, _, _, hA.noGone sheet_is⟩, (Below.refl _ _).setCell hA.lo _⟩
    clear hA hb hB f
    subst hk
    go_enter Tryz.func49, Tryz.ntmps49
    go_wp2_with fail
    go_end0
    exact ⟨rfl, HE.out⟩
  · rw [if_neg hk]
    have hkb : (k == 3) = false := by rw [beq_eq_false_iff_ne]; exact hk
    have HS : Hid (ShAt 64 W M w.heap.size p s rows) := hS
    clear hb hB hS hk
    go_enter Tryz.func49, Tryz.ntmps49
    go_wp2_with fail
    go_end0
    exact ⟨rfl, HS.out, Below.refl _ _⟩
theorem plain_wscreen2 : Plain 49 := by
  intro args W
  kernel_rfl
theorem wscreen_more {w0 w : World} {s : Scr} {cv tv gv : Value} {n hh : Nat} (h : CameW w0 w s cv tv gv) (hR : RightS s n hh) (hz : scrErr s = 0) (k : Int) (hk : ¬ k ≤ 2) : Calls Tryz.prog 16 #[.agg (scrA s cv tv gv), .int .i64 k] w (Made w0 w { (if k = 3 then { s with gone := [] } else s) with cs := s.cs } 0) := by
  have hO : RowsOk (if k = 3 then { s with gone := [] } else s) (rowsL n s.cs hh) := by
    have h1 := hR.rows (s' := s) rfl
    split
    · exact ⟨h1.r1, h1.r2, h1.ne, h1.cl, by simp, fun i hi => absurd hi (by simp)⟩
    · exact h1
  exact wipeScreen_more s _ cv tv gv k 0 w0 w h.v h.b.size hk fun W B hW hB => by
    have h2 := wchange_good (h.next hW) hz hR _ plain_wscreen2 #[.pointer (some ⟨B, 0, none⟩)] (rowsL n s.cs hh) s.cs (fun w1 hw1 => screen2_does k B w0.heap.size w1 s _ (cell_stay hw1 hB)) hO hR.flatten
    rw [hz] at h2
    exact h2
end Put
end Go.Proofs.YtnkeahfcpbepjaaGreatDoor

/- The desk's Give and Go; noScreen. -/
namespace Go.Proofs.YtnkeahfcpbepjaaGreatDoor
open Go.ChangeShapes Go.WideShapes Go.ChangeAt Go.RowKit
namespace Put
open Grd (C SliceAt CellsAt gridErr z0 nilV rowsL RowsAt RowB flat)
theorem zScr_v (W : World) : ScrV W zScr (.slice none 0 0) (.slice none 0 0) (.slice none 0 0) := ⟨.inl ⟨rfl, none, 0, rfl⟩, .inl ⟨rfl, none, 0, rfl⟩, .inl ⟨rfl, none, 0, rfl⟩⟩
theorem zScr_small : Small zScr := ⟨by simp [zScr], by simp [zScr], by simp [zScr], by simp [zScr]⟩
set_option maxHeartbeats 2000000 in
set_option maxRecDepth 100000 in
theorem noScreen_any (cv tv gv : Value) (w : World) (hV : ScrV w zScr cv tv gv) : Calls Tryz.prog 66 #[.agg (scrA zScr cv tv gv)] w fun e w' => e = .returned (.bool true) ∧ Below w.heap.size w w' := by
  have x0 := heap_alloc_new w (.cells (scrA zScr cv tv gv) 32)
  have kb : Below w.heap.size w (w.alloc (.cells (scrA zScr cv tv gv) 32)) := (Below.refl _ _).alloc (Nat.le_refl _) _
  have HX0 : Hid _ := x0
  have HKB : Hid _ := kb
  have HS := sameScreen_any zScr cv tv gv (.slice none 0 0) (.slice none 0 0) (.slice none 0 0) _ (hV.next kb) (zScr_v _) zScr_small
  clear x0 kb hV
  go_enter Tryz.func66, Tryz.ntmps66
  go_wp2_with (refine wpList_load_row rfl 32 (.tmp 1) rfl w.heap.size rfl _ _ _ _ HX0.out Tryz.underlying32 rfl (by kernel_rfl) ?_)
  refine HS.mono ?_
  rintro e W1 ⟨rfl, b1⟩
  have HB1 : Hid (Below w.heap.size w W1) := HKB.out.trans (b1.mono HKB.out.size)
  clear b1 HS
  go_wp2_with fail
  go_ret
  exact ⟨rfl, HB1.out⟩
theorem one3v (a b : Int) (q : Option Addr) (n c : Nat) : (#[.int .i64 a, .int .i64 b, .slice q n c] : Array Value).all (·.oneCell') = true := by simp [Value.oneCell']
set_option maxHeartbeats 4000000 in
set_option maxRecDepth 100000 in
theorem give_any (W : World) (N p : Nat) (s : Scr) (rows : List (List C)) (h : DkAt W N p s rows) (n hh : Nat) (hn : 1 ≤ n) (hn' : n ≤ 120) (hh1 : 1 ≤ hh) (hh' : hh ≤ 60) (hrl : rows.length = hh) (hrn : ∀ i, i < rows.length → (rows.getD i []).length = n) (cs : List C) (hcs : rows.flatten = cs) :
    Calls Tryz.prog 68 #[.pointer (some ⟨p, 0, none⟩)] W fun e W' => ∃ cv' tv' gv', e = .returned (.agg (scrA { s with w := (n : Int), h := (hh : Int), cs := cs } cv' tv' gv')) ∧ ScrV W' { s with w := (n : Int), h := (hh : Int), cs := cs } cv' tv' gv' ∧ Below W.heap.size W W' := by
  obtain ⟨cv, tv, gv, rv, gvs, vs, gs, hS⟩ := h
  obtain ⟨ca, cn, cc, rfl⟩ := hS.cvs
  obtain ⟨ta, tc, rfl⟩ := own_slice hS.tabs
  obtain ⟨ga, gc, rfl⟩ := hS.gone.slice
  have hvl : vs.length = rows.length := hS.rin.1
  obtain ⟨G, rc, rest, rfl, hGN, hrc1, hrc2, hG⟩ := Grd.out_of_own (show W.ownsRow N 22 1 rv vs.length vs by rw [hvl]; exact hS.rws) (by omega)
  have kb : Below W.heap.size W ((W.alloc (.cells #[.int .i64 0, .int .i64 0, .slice none 0 0, .int .i64 0, .int .i64 0, .bool false, .int .i64 0, .int .i64 0, .int .i64 0, .int .i64 0, .int .i64 0, .int .i64 0, .slice none 0 0, .int .i64 0, .int .i64 0, .int .i64 0, .int .i64 0, .int .i64 0, .int .i64 0, .int .i32 0, .string ⟨#[]⟩, .slice none 0 0] 32)).alloc (.cells #[.int .i64 0, .int .i64 0, .slice none 0 0, .int .i64 0, .int .i64 0, .bool false, .int .i64 0, .int .i64 0, .int .i64 0, .int .i64 0, .int .i64 0, .int .i64 0, .slice none 0 0, .int .i64 0, .int .i64 0, .int .i64 0, .int .i64 0, .int .i64 0, .int .i64 0, .int .i32 0, .string ⟨#[]⟩, .slice none 0 0] 32)) := ((Below.refl _ _).alloc (Nat.le_refl _) _).alloc (by simp) _
  have x3 : ((W.alloc (.cells #[.int .i64 0, .int .i64 0, .slice none 0 0, .int .i64 0, .int .i64 0, .bool false, .int .i64 0, .int .i64 0, .int .i64 0, .int .i64 0, .int .i64 0, .int .i64 0, .slice none 0 0, .int .i64 0, .int .i64 0, .int .i64 0, .int .i64 0, .int .i64 0, .int .i64 0, .int .i32 0, .string ⟨#[]⟩, .slice none 0 0] 32)).alloc (.cells #[.int .i64 0, .int .i64 0, .slice none 0 0, .int .i64 0, .int .i64 0, .bool false, .int .i64 0, .int .i64 0, .int .i64 0, .int .i64 0, .int .i64 0, .int .i64 0, .slice none 0 0, .int .i64 0, .int .i64 0, .int .i64 0, .int .i64 0, .int .i64 0, .int .i64 0, .int .i32 0, .string ⟨#[]⟩, .slice none 0 0] 32)).heap[W.heap.size + 1]? = some (.cells #[.int .i64 0, .int .i64 0, .slice none 0 0, .int .i64 0, .int .i64 0, .bool false, .int .i64 0, .int .i64 0, .int .i64 0, .int .i64 0, .int .i64 0, .int .i64 0, .slice none 0 0, .int .i64 0, .int .i64 0, .int .i64 0, .int .i64 0, .int .i64 0, .int .i64 0, .int .i32 0, .string ⟨#[]⟩, .slice none 0 0] 32 (0, 0)) := heap_alloc2_new W _ _
  have HX1 : Hid ((((W.alloc (.cells #[.int .i64 0, .int .i64 0, .slice none 0 0, .int .i64 0, .int .i64 0, .bool false, .int .i64 0, .int .i64 0, .int .i64 0, .int .i64 0, .int .i64 0, .int .i64 0, .slice none 0 0, .int .i64 0, .int .i64 0, .int .i64 0, .int .i64 0, .int .i64 0, .int .i64 0, .int .i32 0, .string ⟨#[]⟩, .slice none 0 0] 32)).alloc (.cells #[.int .i64 0, .int .i64 0, .slice none 0 0, .int .i64 0, .int .i64 0, .bool false, .int .i64 0, .int .i64 0, .int .i64 0, .int .i64 0, .int .i64 0, .int .i64 0, .slice none 0 0, .int .i64 0, .int .i64 0, .int .i64 0, .int .i64 0, .int .i64 0, .int .i64 0, .int .i32 0, .string ⟨#[]⟩, .slice none 0 0] 32)).setRow (W.heap.size + 1) (scrA s (.slice ca cn cc) (.slice ta s.tabs.length tc) (.slice ga s.gone.length gc))).heap[W.heap.size + 1]? = some (.cells (scrA s (.slice ca cn cc) (.slice ta s.tabs.length tc) (.slice ga s.gone.length gc)) 32 (0, 0))) := setRow_heap _ _ _ _ _ _ x3
  have HX0 : Hid ((((W.alloc (.cells #[.int .i64 0, .int .i64 0, .slice none 0 0, .int .i64 0, .int .i64 0, .bool false, .int .i64 0, .int .i64 0, .int .i64 0, .int .i64 0, .int .i64 0, .int .i64 0, .slice none 0 0, .int .i64 0, .int .i64 0, .int .i64 0, .int .i64 0, .int .i64 0, .int .i64 0, .int .i32 0, .string ⟨#[]⟩, .slice none 0 0] 32)).alloc (.cells #[.int .i64 0, .int .i64 0, .slice none 0 0, .int .i64 0, .int .i64 0, .bool false, .int .i64 0, .int .i64 0, .int .i64 0, .int .i64 0, .int .i64 0, .int .i64 0, .slice none 0 0, .int .i64 0, .int .i64 0, .int .i64 0, .int .i64 0, .int .i64 0, .int .i64 0, .int .i32 0, .string ⟨#[]⟩, .slice none 0 0] 32)).setRow (W.heap.size + 1) (scrA s (.slice ca cn cc) (.slice ta s.tabs.length tc) (.slice ga s.gone.length gc))).heap[W.heap.size]? = some (.cells (scrA zScr (.slice none 0 0) (.slice none 0 0) (.slice none 0 0)) 32 (0, 0))) := by
    unfold Hid
    rw [setRow_other _ _ _ _ (by omega), Below.heap_alloc _ _ _ (by simp), heap_alloc_new]
    rfl
  have HB0 : Hid (Below W.heap.size W (((W.alloc (.cells #[.int .i64 0, .int .i64 0, .slice none 0 0, .int .i64 0, .int .i64 0, .bool false, .int .i64 0, .int .i64 0, .int .i64 0, .int .i64 0, .int .i64 0, .int .i64 0, .slice none 0 0, .int .i64 0, .int .i64 0, .int .i64 0, .int .i64 0, .int .i64 0, .int .i64 0, .int .i32 0, .string ⟨#[]⟩, .slice none 0 0] 32)).alloc (.cells #[.int .i64 0, .int .i64 0, .slice none 0 0, .int .i64 0, .int .i64 0, .bool false, .int .i64 0, .int .i64 0, .int .i64 0, .int .i64 0, .int .i64 0, .int .i64 0, .slice none 0 0, .int .i64 0, .int .i64 0, .int .i64 0, .int .i64 0, .int .i64 0, .int .i64 0, .int .i32 0, .string ⟨#[]⟩, .slice none 0 0] 32)).setRow (W.heap.size + 1) (scrA s (.slice ca cn cc) (.slice ta s.tabs.length tc) (.slice ga s.gone.length gc)))) := below_setRow kb (by omega) _
  have HX3 : Hid _ := x3
  have HRG : Hid _ := sh_range hS.blk
  have HS : Hid (DkA W N p s rows _ _ _ _ gvs vs gs) := hS
  have HG : Hid (W.heap[G]? = _) := hG
  clear x3 kb hS hG
  go_enter Tryz.func68, Tryz.ntmps68
  go_upto_region 2 with (first
    | (refine wpList_load_mid rfl 32 (.tmp 6) rfl p 0 rfl (scrA s (.slice ca cn cc) (.slice ta s.tabs.length tc) (.slice ga s.gone.length gc)).toList _ (fun j v hj => cell_stay ((Below.refl _ _).alloc (Nat.le_refl _) _) (HRG.out j v hj)) Tryz.underlying32 rfl (by kernel_rfl) ?_)
    | (refine wpList_store_row rfl 32 (.tmp 3) _ rfl (W.heap.size + 1) (scrA s (.slice ca cn cc) (.slice ta s.tabs.length tc) (.slice ga s.gone.length gc)) rfl rfl _ _ HX3.out (by kernel_rfl) rfl (scr_one _ _ _ _ _ _ _ _ _ _) ?_))
  clear HX3 HRG
  generalize (((W.alloc (.cells #[.int .i64 0, .int .i64 0, .slice none 0 0, .int .i64 0, .int .i64 0, .bool false, .int .i64 0, .int .i64 0, .int .i64 0, .int .i64 0, .int .i64 0, .int .i64 0, .slice none 0 0, .int .i64 0, .int .i64 0, .int .i64 0, .int .i64 0, .int .i64 0, .int .i64 0, .int .i32 0, .string ⟨#[]⟩, .slice none 0 0] 32)).alloc (.cells #[.int .i64 0, .int .i64 0, .slice none 0 0, .int .i64 0, .int .i64 0, .bool false, .int .i64 0, .int .i64 0, .int .i64 0, .int .i64 0, .int .i64 0, .int .i64 0, .slice none 0 0, .int .i64 0, .int .i64 0, .int .i64 0, .int .i64 0, .int .i64 0, .int .i64 0, .int .i32 0, .string ⟨#[]⟩, .slice none 0 0] 32)).setRow (W.heap.size + 1) (scrA s (.slice ca cn cc) (.slice ta s.tabs.length tc) (.slice ga s.gone.length gc))) = X at *
  have hgl1 : W.heap.size + 1 < X.heap.size := heap_lt HX1.out
  have c22 := (sh_cells (Grd.carry HS.out.blk HB0.out)).2.1.2.2.2.2.2.2.2.2.2.2.2
  have HGO := Grd.gridOf_any n hh G rc N vs rest gs rows X hn hn' hh1 hh' (Grd.carry HG.out HB0.out) (HS.out.rin.below HB0.out) hrl hrn
  rw [hcs] at HGO
  have hvh : vs.length = hh := by omega
  rw [hvh] at c22
  clear hvl hvh hrl hrn hcs
  go_wp2_with (first | (go_at_call 127; refine HGO.mono ?_; rintro e V ⟨v, rfl, hv, b1⟩; refine Hid.out ?_))
  unfold Hid
  obtain ⟨g, hg1, hR⟩ := own_rowB hv
  obtain ⟨cap, rst, rfl, hcap1, hcap2, hgh⟩ := hR
  have hA1 := Grd.carry HX1.out b1
  have hA0 := Grd.carry HX0.out b1
  have hgV : W.heap.size + 1 < V.heap.size := heap_lt hA1
  obtain ⟨⟨c0, c1, c2, -⟩, -, fr⟩ := scr_cells hA1
  have HTH : Hid (V.there (W.heap.size + 1) 0 3) := fun j hj => by
    match j, hj with
    | 0, _ => exact ⟨by rw [c0]; rfl, fr _⟩
    | 1, _ => exact ⟨by rw [c1]; rfl, fr _⟩
    | 2, _ => exact ⟨by rw [c2]; rfl, fr _⟩
  have HY1 : Hid ((V.setCells (W.heap.size + 1) 0 [.int .i64 (n : Int), .int .i64 (hh : Int), .slice (some ⟨g, 0, none⟩) cs.length cap]).heap[W.heap.size + 1]? = some (.cells (scrA { s with w := (n : Int), h := (hh : Int), cs := cs } (.slice (some ⟨g, 0, none⟩) cs.length cap) (.slice ta s.tabs.length tc) (.slice ga s.gone.length gc)) 32 (0, 0))) := store_at (store_at (store_at hA1 rfl) rfl) rfl
  have ho : ∀ k, k ≠ W.heap.size + 1 → (V.setCells (W.heap.size + 1) 0 [.int .i64 (n : Int), .int .i64 (hh : Int), .slice (some ⟨g, 0, none⟩) cs.length cap]).heap[k]? = V.heap[k]? := fun k hk => Grd.heap_setCells_ne _ k hk _ _ _
  have HY0 : Hid ((V.setCells (W.heap.size + 1) 0 [.int .i64 (n : Int), .int .i64 (hh : Int), .slice (some ⟨g, 0, none⟩) cs.length cap]).heap[W.heap.size]? = _) := (ho _ (by omega)).trans hA0
  have HYG : Hid ((V.setCells (W.heap.size + 1) 0 [.int .i64 (n : Int), .int .i64 (hh : Int), .slice (some ⟨g, 0, none⟩) cs.length cap]).heap[g]? = _) := (ho _ (by omega)).trans hgh
  have HB3 : Hid (Below W.heap.size W (V.setCells (W.heap.size + 1) 0 [.int .i64 (n : Int), .int .i64 (hh : Int), .slice (some ⟨g, 0, none⟩) cs.length cap])) := Grd.below_cells (by omega) _ _ _ (HB0.out.trans (b1.mono HB0.out.size))
  clear HGO hv b1 hA1 hA0 c0 c1 c2 fr ho hgh c22
  go_wp2_with (refine wpList_store_mid rfl 24 (.tmp 13) (.tmp 12) rfl (W.heap.size + 1) 0 #[.int .i64 (n : Int), .int .i64 (hh : Int), .slice (some ⟨g, 0, none⟩) cs.length cap] rfl rfl HTH.out (by kernel_rfl) (one3v _ _ _ _ _) ?_; refine Hid.out ?_)
  unfold Hid
  generalize (V.setCells (W.heap.size + 1) 0 [.int .i64 (n : Int), .int .i64 (hh : Int), .slice (some ⟨g, 0, none⟩) cs.length cap]) = Y at *
  go_wp2_with (first
    | (refine wpList_load_row rfl 32 (.tmp 3) rfl (W.heap.size + 1) rfl _ _ _ _ HY1.out Tryz.underlying32 rfl (by kernel_rfl) ?_)
    | (refine wpList_store_row rfl 32 (.tmp 2) _ rfl W.heap.size (scrA { s with w := (n : Int), h := (hh : Int), cs := cs } (.slice (some ⟨g, 0, none⟩) cs.length cap) (.slice ta s.tabs.length tc) (.slice ga s.gone.length gc)) rfl rfl _ _ HY0.out (by kernel_rfl) rfl (scr_one _ _ _ _ _ _ _ _ _ _) ?_))
  (try simp only [Exit.inBlock, Exit.then])
  have hbF := below_setRow HB3.out (Nat.le_refl W.heap.size) (scrA { s with w := (n : Int), h := (hh : Int), cs := cs } (.slice (some ⟨g, 0, none⟩) cs.length cap) (.slice ta s.tabs.length tc) (.slice ga s.gone.length gc))
  have hD := HS.out.next hbF
  refine bodyPost_ret (v := .agg (scrA { s with w := (n : Int), h := (hh : Int), cs := cs } (.slice (some ⟨g, 0, none⟩) cs.length cap) (.slice ta s.tabs.length tc) (.slice ga s.gone.length gc))) ?_ rfl ⟨_, _, _, rfl, ⟨?_, own_boolsV hD.tabs, hD.gone.rowsV hD.gin.list⟩, hbF⟩
  · exact results_cell_row rfl _ _ W.heap.size _ _ _ _ rfl (setRow_heap _ _ _ _ _ _ HY0.out) Tryz.underlying32 rfl (by kernel_rfl)
  · refine (rowIn_rowB (N := 0) (g := g) ⟨cap, rst, rfl, hcap1, hcap2, ?_⟩).cells
    rw [setRow_other _ _ _ _ (by omega)]
    exact HYG.out
end Put
end Go.Proofs.YtnkeahfcpbepjaaGreatDoor

/- Package move: within, counted, moved; what stays of a sheet whose words change. -/
namespace Go.Proofs.YtnkeahfcpbepjaaGreatDoor
open Go.ChangeShapes Go.WideShapes Go.ChangeAt Go.RowKit
namespace Put
open Grd (C SliceAt CellsAt gridErr z0 nilV flat rowsL)
def withinI (n a b : Int) : Int := min (max n a) b
def cnt (n : Int) : Int := withinI n 1 9999
theorem cnt_range (n : Int) : 1 ≤ cnt n ∧ cnt n ≤ 9999 := by unfold cnt withinI; omega
theorem within_calls (n a b : Int) (w : World) : Calls Tryz.prog 141 #[.int .i64 n, .int .i64 a, .int .i64 b] w fun e w' => e = .returned (.int .i64 (withinI n a b)) ∧ w = w' := by
  have h1 := Grd.max2 n a
  have h2 := Grd.min2 (max n a) b
  go_enter Tryz.func141, Tryz.ntmps141
  go_wp2_with fail
  go_ret
  exact ⟨rfl, rfl⟩
theorem counted_any (n : Int) (w : World) : Calls Tryz.prog 89 #[.int .i64 n] w fun e w' => e = .returned (.int .i64 (cnt n)) ∧ w = w' := by
  have h := within_calls n 1 9999 w
  go_enter Tryz.func89, Tryz.ntmps89
  go_wp2_with fail
  refine h.mono ?_
  rintro e W1 ⟨rfl, hw⟩
  subst hw
  go_wp2_with fail
  go_ret
  exact ⟨rfl, rfl⟩
end Put
end Go.Proofs.YtnkeahfcpbepjaaGreatDoor
