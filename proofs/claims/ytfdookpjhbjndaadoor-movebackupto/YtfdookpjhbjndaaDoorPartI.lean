/- move.change: a screen is checked, and changed. -/
import Derived.Test.YtfdookpjhbjndaaDoorPartH
import Derived.Test.YtfdookpjhbjndaaDoorPartG
import Derived.Test.YtfdookpjhbjndaaDoorPartF
import Derived.Deep.RegionWith
import Derived.Deep.Cut
import Derived.Deep.CutRange
import Derived.BigRegion
import Derived.BigQuiet
import Derived.Deep.RegionHeld3
namespace Go.Proofs.YtfdookpjhbjndaaDoor
open Go.ChangeShapes Go.WideShapes Go.ChangeAt Go.RowKit
namespace Put
open Grd (C SliceAt CellsAt gridErr z0 nilV flat rowsL)
theorem kf_of {w V : World} {s : Scr} {cv tv gv : Value} {A : Array Value} {t t' : TypeId} (hb : Below w.heap.size w V) (h0 : V.heap[w.heap.size]? = some (.cells (scrA s cv tv gv) t (0, 0))) (h1 : V.heap[w.heap.size + 1]? = some (.cells A t' (0, 0))) {s' : Scr} {cv' tv' gv' : Value} :
    Below w.heap.size w (V.setRow (w.heap.size + 1) (scrA s' cv' tv' gv')) ∧ ScrPtr (V.setRow (w.heap.size + 1) (scrA s' cv' tv' gv')) (.pointer (some ⟨w.heap.size, 0, none⟩)) ∧ blkAt (V.setRow (w.heap.size + 1) (scrA s' cv' tv' gv')) (.pointer (some ⟨w.heap.size, 0, none⟩)) = scrA s cv tv gv ∧ ScrPtr0 (V.setRow (w.heap.size + 1) (scrA s' cv' tv' gv')) (.pointer (some ⟨w.heap.size + 1, 0, none⟩)) := by
  have h2 : (V.setRow (w.heap.size + 1) (scrA s' cv' tv' gv')).heap[w.heap.size]? = _ := (setRow_other _ _ _ _ (by omega)).trans h0
  have h3 := setRow_heap V (w.heap.size + 1) A (scrA s' cv' tv' gv') t' _ h1
  exact ⟨below_setRow hb (by omega) _, (scrPtr_of h2).1, (scrPtr_of h2).2, scrPtr0_of h3 rfl⟩
section
attribute [local go_sem ↓] load_scr store_scr
attribute [local go_sem] isScrS ptrBlk_at aggOf_agg
set_option maxHeartbeats 4000000 in
set_option maxRecDepth 100000 in
theorem mchange_any (s s' : Scr) (cv tv gv : Value) (df : FuncId) (caps : Array Value) (w0 w : World) (hT : Txt.Tab w) (hV : ScrV w0 s cv tv gv) (hb0 : Below w0.heap.size w0 w) (hF : Fits s)
    (hCH : ∀ W, Below w.heap.size w W → Calls Tryd.prog 44 #[.agg (scrA s cv tv gv), .int .i64 (scrErr s), .func (.func df) #[] caps] W (Made w0 W s' (scrErr s))) :
    Calls Tryd.prog 53 #[.agg (scrA s cv tv gv), .func (.func df) #[] caps] w (Made w0 w s' (scrErr s)) := by
  obtain ⟨ca, cc, rfl⟩ := hV.c.shape
  obtain ⟨ta, tc, rfl⟩ := hV.t.slice
  obtain ⟨ga, gc, rfl⟩ := hV.g.slice
  have hx0 : ((w.alloc (.cells (scrA s (.slice ca s.cs.length cc) (.slice ta s.tabs.length tc) (.slice ga s.gone.length gc)) 32)).alloc (.cells #[.int .i64 0, .int .i64 0, .slice none 0 0, .int .i64 0, .int .i64 0, .bool false, .int .i64 0, .int .i64 0, .int .i64 0, .int .i64 0, .int .i64 0, .int .i64 0, .slice none 0 0, .int .i64 0, .int .i64 0, .int .i64 0, .int .i64 0, .int .i64 0, .int .i64 0, .int .i32 0, .string ⟨#[]⟩, .slice none 0 0] 32)).heap[w.heap.size]? = some (.cells (scrA s (.slice ca s.cs.length cc) (.slice ta s.tabs.length tc) (.slice ga s.gone.length gc)) 32 (0, 0)) := (Below.heap_alloc _ _ _ (by simp)).trans (heap_alloc_new _ _)
  have hx1 : ((w.alloc (.cells (scrA s (.slice ca s.cs.length cc) (.slice ta s.tabs.length tc) (.slice ga s.gone.length gc)) 32)).alloc (.cells #[.int .i64 0, .int .i64 0, .slice none 0 0, .int .i64 0, .int .i64 0, .bool false, .int .i64 0, .int .i64 0, .int .i64 0, .int .i64 0, .int .i64 0, .int .i64 0, .slice none 0 0, .int .i64 0, .int .i64 0, .int .i64 0, .int .i64 0, .int .i64 0, .int .i64 0, .int .i32 0, .string ⟨#[]⟩, .slice none 0 0] 32)).heap[w.heap.size + 1]? = some (.cells #[.int .i64 0, .int .i64 0, .slice none 0 0, .int .i64 0, .int .i64 0, .bool false, .int .i64 0, .int .i64 0, .int .i64 0, .int .i64 0, .int .i64 0, .int .i64 0, .slice none 0 0, .int .i64 0, .int .i64 0, .int .i64 0, .int .i64 0, .int .i64 0, .int .i64 0, .int .i32 0, .string ⟨#[]⟩, .slice none 0 0] 32 (0, 0)) := heap_alloc2_new w _ _
  have hkb : Below w.heap.size w ((w.alloc (.cells (scrA s (.slice ca s.cs.length cc) (.slice ta s.tabs.length tc) (.slice ga s.gone.length gc)) 32)).alloc (.cells #[.int .i64 0, .int .i64 0, .slice none 0 0, .int .i64 0, .int .i64 0, .bool false, .int .i64 0, .int .i64 0, .int .i64 0, .int .i64 0, .int .i64 0, .int .i64 0, .slice none 0 0, .int .i64 0, .int .i64 0, .int .i64 0, .int .i64 0, .int .i64 0, .int .i64 0, .int .i32 0, .string ⟨#[]⟩, .slice none 0 0] 32)) := ((Below.refl _ _).alloc (Nat.le_refl _) _).alloc (by simp) _
  have hsz : ((w.alloc (.cells (scrA s (.slice ca s.cs.length cc) (.slice ta s.tabs.length tc) (.slice ga s.gone.length gc)) 32)).alloc (.cells #[.int .i64 0, .int .i64 0, .slice none 0 0, .int .i64 0, .int .i64 0, .bool false, .int .i64 0, .int .i64 0, .int .i64 0, .int .i64 0, .int .i64 0, .int .i64 0, .slice none 0 0, .int .i64 0, .int .i64 0, .int .i64 0, .int .i64 0, .int .i64 0, .int .i64 0, .int .i32 0, .string ⟨#[]⟩, .slice none 0 0] 32)).heap.size = w.heap.size + 2 := by simp
  have HX0 : Hid _ := hx0
  have HX1 : Hid _ := hx1
  have HKB : Hid _ := hkb
  have HSZ : Hid _ := hsz
  have HCK : Hid (∀ W, Below w.heap.size w W → Calls Tryd.prog 6 #[.agg (scrA s (.slice ca s.cs.length cc) (.slice ta s.tabs.length tc) (.slice ga s.gone.length gc))] W fun e w' => e = .returned (.int .i64 (scrErr s)) ∧ Below W.heap.size W w') := fun W hW => putCheck_any s _ _ _ W (Grd.Tab.next hT hW) (hV.next (hb0.trans (hW.mono hb0.size))) hF
  have HCH : Hid (∀ W, Below w.heap.size w W → Calls Tryd.prog 44 #[.agg (scrA s (.slice ca s.cs.length cc) (.slice ta s.tabs.length tc) (.slice ga s.gone.length gc)), .int .i64 (scrErr s), .func (.func df) #[] caps] W (Made w0 W s' (scrErr s))) := hCH
  have hM := hb0.size
  clear hx0 hx1 hkb hV hF hT hCH hb0 hsz
  generalize scrErr s = er at *
  go_enter Tryd.func53, Tryd.ntmps53
  go_upto_region 1 with fail
  generalize ((w.alloc (.cells (scrA s (.slice ca s.cs.length cc) (.slice ta s.tabs.length tc) (.slice ga s.gone.length gc)) 32)).alloc (.cells #[.int .i64 0, .int .i64 0, .slice none 0 0, .int .i64 0, .int .i64 0, .bool false, .int .i64 0, .int .i64 0, .int .i64 0, .int .i64 0, .int .i64 0, .int .i64 0, .slice none 0 0, .int .i64 0, .int .i64 0, .int .i64 0, .int .i64 0, .int .i64 0, .int .i64 0, .int .i32 0, .string ⟨#[]⟩, .slice none 0 0] 32)) = X at *
  have SK : Hid (∀ w', Below X.heap.size X w' → Below w.heap.size w w' ∧ ScrPtr w' (.pointer (some ⟨w.heap.size, 0, none⟩)) ∧ blkAt w' (.pointer (some ⟨w.heap.size, 0, none⟩)) = (scrA s (.slice ca s.cs.length cc) (.slice ta s.tabs.length tc) (.slice ga s.gone.length gc)) ∧ ScrPtr0 w' (.pointer (some ⟨w.heap.size + 1, 0, none⟩))) := fun w' hb => by
    have h0 := Grd.carry HX0.out hb
    exact ⟨HKB.out.trans (hb.mono HKB.out.size), (scrPtr_of h0).1, (scrPtr_of h0).2, scrPtr0_of (Grd.carry HX1.out hb) rfl⟩
  have b0 : Below X.heap.size X X.drew := (Below.refl _ _).drew
  go_region_held3 (fun w' => Below w.heap.size w w' ∧ ScrPtr w' (.pointer (some ⟨w.heap.size, 0, none⟩)) ∧ blkAt w' (.pointer (some ⟨w.heap.size, 0, none⟩)) = (scrA s (.slice ca s.cs.length cc) (.slice ta s.tabs.length tc) (.slice ga s.gone.length gc)) ∧ ScrPtr0 w' (.pointer (some ⟨w.heap.size + 1, 0, none⟩)))
    (first | exact KF.out | exact SK.out _ b2 | exact SK.out _ b1 | exact SK.out _ b0)
    (first | (go_at_call 6; refine (HCK.out _ (SK.out _ b0).1).mono ?_; rintro e V1 ⟨rfl, c1⟩; have b1 := b0.trans (c1.mono b0.size); clear c1) | (go_at_call 44; refine (HCH.out _ (SK.out _ b1).1).mono ?_; rintro e V2 ⟨cv', tv', gv', rfl, hO, c2⟩; have b2 := b1.trans (c2.mono b1.size); obtain ⟨a1, n1, c1, a2, n2, c2', a3, n3, c3, rfl, rfl, rfl⟩ := hO.shapes; have HO : Hid (ScrO V2 w0.heap.size _ s' _ _ _) := hO; clear c2 hO; have HR : Hid (V2.heap[w.heap.size + 1]? = _) := Grd.carry HX1.out b2; have KF : Hid (Below w.heap.size w (V2.setRow (w.heap.size + 1) (scrA s' (.slice a1 n1 c1) (.slice a2 n2 c2') (.slice a3 n3 c3))) ∧ ScrPtr (V2.setRow (w.heap.size + 1) (scrA s' (.slice a1 n1 c1) (.slice a2 n2 c2') (.slice a3 n3 c3))) (.pointer (some ⟨w.heap.size, 0, none⟩)) ∧ blkAt (V2.setRow (w.heap.size + 1) (scrA s' (.slice a1 n1 c1) (.slice a2 n2 c2') (.slice a3 n3 c3))) (.pointer (some ⟨w.heap.size, 0, none⟩)) = (scrA s (.slice ca s.cs.length cc) (.slice ta s.tabs.length tc) (.slice ga s.gone.length gc)) ∧ ScrPtr0 (V2.setRow (w.heap.size + 1) (scrA s' (.slice a1 n1 c1) (.slice a2 n2 c2') (.slice a3 n3 c3))) (.pointer (some ⟨w.heap.size + 1, 0, none⟩))) := kf_of (SK.out _ b2).1 (Grd.carry HX0.out b2) HR.out))
  go_wp2_with fail
  (try simp only [Exit.inBlock, Exit.then])
  refine bodyPost_ret (v := .tuple #[.agg (scrA s' (.slice a1 n1 c1) (.slice a2 n2 c2') (.slice a3 n3 c3)), .int .i64 er]) ?_ rfl ⟨_, _, _, rfl, ?_, KF.out.1⟩
  · exact Grd.results_row_tmp rfl _ _ (w.heap.size + 1) _ _ _ _ rfl (setRow_heap _ _ _ _ _ _ HR.out) Tryd.underlying32 rfl (by kernel_rfl) _ rfl
  · exact (ScrO.off HO.out HR.out screen_is (by omega) fun k hk => setRow_other _ _ _ _ hk).mono (SK.out _ b1).1.size
end
end Put
end Go.Proofs.YtfdookpjhbjndaaDoor

/- What stays of a sheet whose words change; Has. -/
namespace Go.Proofs.YtfdookpjhbjndaaDoor
open Go.ChangeShapes Go.WideShapes Go.ChangeAt Go.RowKit
namespace Put
open Grd (C SliceAt CellsAt gridErr z0 nilV flat rowsL)
theorem ShA.set {t : TypeId} (ht : IsSheet t) {W : World} {M N p : Nat} {s s' : Scr} {rows : List (List C)} {cv tv gv rv : Value} {gvs vs : List Value} (h : ShA t W M N p s rows cv tv gv rv gvs vs) (i : Nat) (v : Value) (e : (shA s cv tv gv rv).setIfInBounds i v = shA s' cv tv gv rv) (h1 : s'.tabs = s.tabs) (h2 : s'.gone = s.gone) : ShA t (W.setCell ⟨p, i, none⟩ v) M N p s' rows cv tv gv rv gvs vs :=
  h.put ht (store_at h.blk e) (fun _ hk => store_off hk) h1 h2
theorem ShAt.set {t : TypeId} (ht : IsSheet t) {W : World} {M N p : Nat} {s s' : Scr} {rows : List (List C)} (h : ShAt t W M N p s rows) (i : Nat) (v : Value) (e : ∀ cv tv gv rv, (shA s cv tv gv rv).setIfInBounds i v = shA s' cv tv gv rv) (h1 : s'.tabs = s.tabs) (h2 : s'.gone = s.gone) : ShAt t (W.setCell ⟨p, i, none⟩ v) M N p s' rows := by
  obtain ⟨cv, tv, gv, rv, gvs, vs, h⟩ := h
  exact ⟨cv, tv, gv, rv, gvs, vs, h.set ht i v (e _ _ _ _) h1 h2⟩
theorem ShAt.next {t : TypeId} {W W' : World} {M N p : Nat} {s : Scr} {rows : List (List C)} (h : ShAt t W M N p s rows) (hb : Below W.heap.size W W') : ShAt t W' M N p s rows := by
  obtain ⟨cv, tv, gv, rv, gvs, vs, h⟩ := h
  exact ⟨cv, tv, gv, rv, gvs, vs, h.next hb⟩
theorem ShAt.lo {t : TypeId} {W : World} {M N p : Nat} {s : Scr} {rows : List (List C)} (h : ShAt t W M N p s rows) : N ≤ p := by
  obtain ⟨cv, tv, gv, rv, gvs, vs, h⟩ := h
  exact h.lo
theorem ShAt.drew {t : TypeId} {W : World} {M N p : Nat} {s : Scr} {rows : List (List C)} (h : ShAt t W M N p s rows) : ShAt t W.drew M N p s rows := h.next ((Below.refl _ _).drew)
/-- The words of a sheet that are numbers. -/
theorem ShAt.words {t : TypeId} {W : World} {M N p : Nat} {s : Scr} {rows : List (List C)} (h : ShAt t W M N p s rows) :
    W.cell? ⟨p, 0, none⟩ = some (.int .i64 s.w) ∧ W.cell? ⟨p, 1, none⟩ = some (.int .i64 s.h) ∧ W.cell? ⟨p, 3, none⟩ = some (.int .i64 s.x) ∧ W.cell? ⟨p, 4, none⟩ = some (.int .i64 s.y) ∧ W.cell? ⟨p, 5, none⟩ = some (.bool s.late) ∧ W.cell? ⟨p, 9, none⟩ = some (.int .i64 s.top) ∧ W.cell? ⟨p, 10, none⟩ = some (.int .i64 s.bot) ∧ W.cell? ⟨p, 11, none⟩ = some (.int .i64 s.modes) ∧ W.cell? ⟨p, 19, none⟩ = some (.int .i32 s.last) ∧ ∀ i, W.frozen? ⟨p, i, none⟩ = false := by
  obtain ⟨cv, tv, gv, rv, gvs, vs, h⟩ := h
  obtain ⟨⟨c0, c1, -, c3, c4, c5, -, -, -, c9, c10⟩, ⟨c11, -, -, -, -, -, -, -, c19, -⟩, f⟩ := sh_cells h.blk
  exact ⟨c0, c1, c3, c4, c5, c9, c10, c11, c19, f⟩
theorem ShAt.fin {t : TypeId} (ht : IsSheet t) {W : World} {M N p : Nat} {s s' : Scr} {rows : List (List C)} (h : ShAt t W M N p s rows) (i : Nat) (v : Value) (e : ∀ cv tv gv rv, (shA s cv tv gv rv).setIfInBounds i v = shA s' cv tv gv rv) (h1 : s'.tabs = s.tabs) (h2 : s'.gone = s.gone) : ∀ v', v' = v → ShAt t (W.setCell ⟨p, i, none⟩ v').drew M N p s' rows ∧ Below N W (W.setCell ⟨p, i, none⟩ v').drew := fun v' hv => by
  subst hv
  exact ⟨(h.set ht i _ e h1 h2).drew, ((Below.refl _ _).setCell h.lo _).drew⟩
theorem wrap_id (a : Int) (h0 : -9223372036854775808 ≤ a) (h1 : a ≤ 9223372036854775807) : IntKind.i64.wrap a = a := by
  rw [IntKind.wrap_i64]
  omega
theorem int_wrap (a : Int) (h0 : -9223372036854775808 ≤ a) (h1 : a ≤ 9223372036854775807) : Value.int .i64 (IntKind.i64.wrap a) = Value.int .i64 a := by rw [wrap_id a h0 h1]
/-- Are these bits set? -/
def hasB (m b : Int) : Bool := bits .and .i64 m b == b
theorem has_any {M N p : Nat} {s : Scr} {rows : List (List C)} (b : Int) (W : World) (hS : ShAt 59 W M N p s rows) : Calls Tryd.prog 56 #[.pointer (some ⟨p, 0, none⟩), .int .i64 b] W fun e w' => e = .returned (.bool (hasB s.modes b)) ∧ W = w' := by
  obtain ⟨c0, c1, c3, c4, c5, c9, c10, c11, c19, f⟩ := hS.words
  clear c0 c1 c3 c4 c5 c9 c10 c19 f hS
  go_enter Tryd.func56, Tryd.ntmps56
  go_wp2_with fail
  go_ret
  exact ⟨rfl, rfl⟩
end Put
end Go.Proofs.YtfdookpjhbjndaaDoor

/- Package move: within, counted, moved; what stays of a sheet whose words change. -/
namespace Go.Proofs.YtfdookpjhbjndaaDoor
open Go.ChangeShapes Go.WideShapes Go.ChangeAt Go.RowKit
namespace Put
open Grd (C SliceAt CellsAt gridErr z0 nilV flat rowsL)
def withinI (n a b : Int) : Int := min (max n a) b
def cnt (n : Int) : Int := withinI n 1 9999
theorem cnt_range (n : Int) : 1 ≤ cnt n ∧ cnt n ≤ 9999 := by unfold cnt withinI; omega
theorem within_calls (n a b : Int) (w : World) : Calls Tryd.prog 55 #[.int .i64 n, .int .i64 a, .int .i64 b] w fun e w' => e = .returned (.int .i64 (withinI n a b)) ∧ w = w' := by
  have h1 := Grd.max2 n a
  have h2 := Grd.min2 (max n a) b
  go_enter Tryd.func55, Tryd.ntmps55
  go_wp2_with fail
  go_ret
  exact ⟨rfl, rfl⟩
theorem counted_any (n : Int) (w : World) : Calls Tryd.prog 27 #[.int .i64 n] w fun e w' => e = .returned (.int .i64 (cnt n)) ∧ w = w' := by
  have h := within_calls n 1 9999 w
  go_enter Tryd.func27, Tryd.ntmps27
  go_wp2_with fail
  refine h.mono ?_
  rintro e W1 ⟨rfl, hw⟩
  subst hw
  go_wp2_with fail
  go_ret
  exact ⟨rfl, rfl⟩
end Put
end Go.Proofs.YtfdookpjhbjndaaDoor

/- move.moved's closure. -/
namespace Go.Proofs.YtfdookpjhbjndaaDoor
open Go.ChangeShapes Go.WideShapes Go.ChangeAt Go.RowKit
namespace Put
open Grd (C)
/-- Where a cursor is that may not leave the screen. -/
def heldScr (s : Scr) : Scr := { s with x := withinI s.x 0 (s.w - 1), y := withinI s.y 0 (s.h - 1) }
def onTime (s : Scr) : Scr := { s with late := false }
set_option maxHeartbeats 4000000 in
theorem moved_does (tf : FuncId) (hpl : Plain tf) (tcaps : Array Value) (B M : Nat) (w : World) (s s1 : Scr) (rows rows1 : List (List C)) (hB : w.cell? ⟨B, 0, none⟩ = some (.func (.func tf) #[] tcaps))
    (hto : Does tf tcaps M w (onTime s) s1 rows rows1) (w1 : 1 ≤ s1.w) (w2 : s1.w ≤ 120) (w3 : 1 ≤ s1.h) (w4 : s1.h ≤ 60) :
    Does 54 #[.pointer (some ⟨B, 0, none⟩)] M w s (heldScr s1) rows rows1 := by
  intro W p hb hS
  obtain ⟨c0, c1, c3, c4, c5, c9, c10, c11, c19, f⟩ := hS.words
  have f5 := f 5
  have q0 := cell_stay hb hB
  have hBl := World.block_lt_of_cell? w _ hB
  have hlo := hS.lo
  have hne : B ≠ p := by have : B < w.heap.size := hBl; omega
  have HS1 : Hid (ShAt 59 (W.setCell ⟨p, 5, none⟩ (.bool false)) M w.heap.size p (onTime s) rows) := hS.set sheet_is 5 _ (fun _ _ _ _ => rfl) rfl rfl
  have HB1 : Hid (Below w.heap.size w (W.setCell ⟨p, 5, none⟩ (.bool false))) := hb.setCell hlo _
  have HB1' : Hid (Below w.heap.size W (W.setCell ⟨p, 5, none⟩ (.bool false))) := (Below.refl _ _).setCell hlo _
  have HTO := hto _ p HB1.out HS1.out
  have HWI : Hid (∀ a b c W, Calls Tryd.prog 55 #[.int .i64 a, .int .i64 b, .int .i64 c] W fun e w' => e = .returned (.int .i64 (withinI a b c)) ∧ W = w') := fun a b c W => within_calls a b c W
  unfold Plain at hpl
  clear hS hb hB c0 c1 c3 c4 c9 c10 c11 c19 f hto
  go_enter Tryd.func54, Tryd.ntmps54
  go_wp2_with fail
  refine HTO.mono ?_
  rintro e W2 ⟨rfl, hS2, b2⟩
  have HB2 : Hid (Below w.heap.size W W2) := HB1'.out.trans b2
  have HS2 : Hid (ShAt 59 W2 M w.heap.size p s1 rows1) := hS2
  clear HTO hS2 b2 q0 c5 f5
  go_upto_region 2 with fail
  go_cut [] from 10 to 26 (fun wx => ShAt 59 wx M w.heap.size p { s1 with x := withinI s1.x 0 (s1.w - 1) } rows1 ∧ Below w.heap.size W2 wx)
  case first =>
    obtain ⟨c0, c1, c3, c4, c5, c9, c10, c11, c19, f⟩ := HS2.out.words
    have f3 := f 3
    have HE : Hid (∀ v', v' = Value.int .i64 (withinI s1.x 0 (s1.w - 1)) → ShAt 59 (W2.setCell ⟨p, 3, none⟩ v').drew M w.heap.size p { s1 with x := withinI s1.x 0 (s1.w - 1) } rows1 ∧ Below w.heap.size W2 (W2.setCell ⟨p, 3, none⟩ v').drew) := HS2.out.fin sheet_is 3 _ (fun _ _ _ _ => rfl) rfl rfl
    clear c1 c4 c5 c9 c10 c11 c19 f
    go_region_with (first | (go_at_call 55; refine (HWI.out _ _ _ _).mono ?_; rintro e V ⟨rfl, hv⟩; subst hv))
    all_goals go_wp2_with fail
    all_goals go_meet
    all_goals exact HE.out _ (by rw [wrap_id _ (by omega) (by omega)])
  case rest =>
    obtain ⟨hS3, b3⟩ := hcut
    obtain ⟨c0, c1, c3, c4, c5, c9, c10, c11, c19, f⟩ := hS3.words
    have f4 := f 4
    have HE : Hid (∀ v', v' = Value.int .i64 (withinI s1.y 0 (s1.h - 1)) → ShAt 59 (wc.setCell ⟨p, 4, none⟩ v').drew M w.heap.size p (heldScr s1) rows1 ∧ Below w.heap.size wc (wc.setCell ⟨p, 4, none⟩ v').drew) := hS3.fin sheet_is 4 _ (fun _ _ _ _ => rfl) rfl rfl
    have HB3 : Hid (Below w.heap.size W wc) := HB2.out.trans b3
    clear c0 c3 c5 c9 c10 c11 c19 f hS3 b3
    go_upto_region 3 with fail
    go_region_with (first | (go_at_call 55; refine (HWI.out _ _ _ _).mono ?_; rintro e V ⟨rfl, hv⟩; subst hv))
    all_goals go_end0
    all_goals refine ⟨rfl, ?_⟩
    all_goals exact ⟨(HE.out _ (by rw [wrap_id _ (by omega) (by omega)])).1, HB3.out.trans (HE.out _ (by rw [wrap_id _ (by omega) (by omega)])).2⟩
end Put
end Go.Proofs.YtfdookpjhbjndaaDoor

/- Package move: the calls that hand a closure on. (Written by gen_call.py.) -/
namespace Go.Proofs.YtfdookpjhbjndaaDoor
open Go.ChangeShapes Go.WideShapes Go.ChangeAt Go.RowKit
namespace Put
open Grd (C)
theorem cell_one {W : World} {R : Nat} {v : Value} {t : TypeId} (h : W.heap[R]? = some (.cells #[v] t (0, 0))) : W.cell? ⟨R, 0, none⟩ = some v := by simp [World.cell?, h]
set_option maxHeartbeats 2000000 in
set_option maxRecDepth 100000 in
theorem moved_calls (s s' : Scr) (cv tv gv : Value) (tf : FuncId) (tcaps : Array Value) (er : Int) (w0 w : World) (hV : ScrV w0 s cv tv gv) (hM : w0.heap.size ≤ w.heap.size)
    (hC : ∀ (W : World) (B1 : Nat), Below w.heap.size w W → W.cell? ⟨B1, 0, none⟩ = some (.func (.func tf) #[] tcaps) → Calls Tryd.prog 53 #[.agg (scrA s cv tv gv), .func (.func 54) #[] #[.pointer (some ⟨B1, 0, none⟩)]] W (Made w0 W s' er)) :
    Calls Tryd.prog 25 #[.agg (scrA s cv tv gv), .func (.func tf) #[] tcaps] w (Made w0 w s' er) := by
  obtain ⟨ca, cc, rfl⟩ := hV.c.shape
  obtain ⟨ta, tc, rfl⟩ := hV.t.slice
  obtain ⟨ga, gc, rfl⟩ := hV.g.slice
  have hkb : Below w.heap.size w (((w.alloc (.cells (scrA s (.slice ca s.cs.length cc) (.slice ta s.tabs.length tc) (.slice ga s.gone.length gc)) 32)).alloc (.cells #[.func (.func tf) #[] tcaps] 61)).alloc (.cells #[.int .i64 0, .int .i64 0, .slice none 0 0, .int .i64 0, .int .i64 0, .bool false, .int .i64 0, .int .i64 0, .int .i64 0, .int .i64 0, .int .i64 0, .int .i64 0, .slice none 0 0, .int .i64 0, .int .i64 0, .int .i64 0, .int .i64 0, .int .i64 0, .int .i64 0, .int .i32 0, .string ⟨#[]⟩, .slice none 0 0] 32)) := ((((Below.refl _ _).alloc (by simp) _).alloc (by simp) _).alloc (by simp; omega) _)
  have hx0 : (w.alloc (.cells (scrA s (.slice ca s.cs.length cc) (.slice ta s.tabs.length tc) (.slice ga s.gone.length gc)) 32)).heap[w.heap.size]? = some (.cells (scrA s (.slice ca s.cs.length cc) (.slice ta s.tabs.length tc) (.slice ga s.gone.length gc)) 32 (0, 0)) := by
    have h := heap_alloc_new w (.cells (scrA s (.slice ca s.cs.length cc) (.slice ta s.tabs.length tc) (.slice ga s.gone.length gc)) 32)
    have e : w.heap.size = w.heap.size := by simp
    rw [e] at h
    exact h
  have hx0 := (Below.heap_alloc (w.alloc (.cells (scrA s (.slice ca s.cs.length cc) (.slice ta s.tabs.length tc) (.slice ga s.gone.length gc)) 32)) (.cells #[.func (.func tf) #[] tcaps] 61) _ (heap_lt hx0)).trans hx0
  have hx0 := (Below.heap_alloc ((w.alloc (.cells (scrA s (.slice ca s.cs.length cc) (.slice ta s.tabs.length tc) (.slice ga s.gone.length gc)) 32)).alloc (.cells #[.func (.func tf) #[] tcaps] 61)) (.cells #[.int .i64 0, .int .i64 0, .slice none 0 0, .int .i64 0, .int .i64 0, .bool false, .int .i64 0, .int .i64 0, .int .i64 0, .int .i64 0, .int .i64 0, .int .i64 0, .slice none 0 0, .int .i64 0, .int .i64 0, .int .i64 0, .int .i64 0, .int .i64 0, .int .i64 0, .int .i32 0, .string ⟨#[]⟩, .slice none 0 0] 32) _ (heap_lt hx0)).trans hx0
  have hx1 : ((w.alloc (.cells (scrA s (.slice ca s.cs.length cc) (.slice ta s.tabs.length tc) (.slice ga s.gone.length gc)) 32)).alloc (.cells #[.func (.func tf) #[] tcaps] 61)).heap[w.heap.size + 1]? = some (.cells #[.func (.func tf) #[] tcaps] 61 (0, 0)) := by
    have h := heap_alloc_new (w.alloc (.cells (scrA s (.slice ca s.cs.length cc) (.slice ta s.tabs.length tc) (.slice ga s.gone.length gc)) 32)) (.cells #[.func (.func tf) #[] tcaps] 61)
    have e : (w.alloc (.cells (scrA s (.slice ca s.cs.length cc) (.slice ta s.tabs.length tc) (.slice ga s.gone.length gc)) 32)).heap.size = w.heap.size + 1 := by simp
    rw [e] at h
    exact h
  have hx1 := (Below.heap_alloc ((w.alloc (.cells (scrA s (.slice ca s.cs.length cc) (.slice ta s.tabs.length tc) (.slice ga s.gone.length gc)) 32)).alloc (.cells #[.func (.func tf) #[] tcaps] 61)) (.cells #[.int .i64 0, .int .i64 0, .slice none 0 0, .int .i64 0, .int .i64 0, .bool false, .int .i64 0, .int .i64 0, .int .i64 0, .int .i64 0, .int .i64 0, .int .i64 0, .slice none 0 0, .int .i64 0, .int .i64 0, .int .i64 0, .int .i64 0, .int .i64 0, .int .i64 0, .int .i32 0, .string ⟨#[]⟩, .slice none 0 0] 32) _ (heap_lt hx1)).trans hx1
  have hx2 : (((w.alloc (.cells (scrA s (.slice ca s.cs.length cc) (.slice ta s.tabs.length tc) (.slice ga s.gone.length gc)) 32)).alloc (.cells #[.func (.func tf) #[] tcaps] 61)).alloc (.cells #[.int .i64 0, .int .i64 0, .slice none 0 0, .int .i64 0, .int .i64 0, .bool false, .int .i64 0, .int .i64 0, .int .i64 0, .int .i64 0, .int .i64 0, .int .i64 0, .slice none 0 0, .int .i64 0, .int .i64 0, .int .i64 0, .int .i64 0, .int .i64 0, .int .i64 0, .int .i32 0, .string ⟨#[]⟩, .slice none 0 0] 32)).heap[w.heap.size + 2]? = some (.cells #[.int .i64 0, .int .i64 0, .slice none 0 0, .int .i64 0, .int .i64 0, .bool false, .int .i64 0, .int .i64 0, .int .i64 0, .int .i64 0, .int .i64 0, .int .i64 0, .slice none 0 0, .int .i64 0, .int .i64 0, .int .i64 0, .int .i64 0, .int .i64 0, .int .i64 0, .int .i32 0, .string ⟨#[]⟩, .slice none 0 0] 32 (0, 0)) := by
    have h := heap_alloc_new ((w.alloc (.cells (scrA s (.slice ca s.cs.length cc) (.slice ta s.tabs.length tc) (.slice ga s.gone.length gc)) 32)).alloc (.cells #[.func (.func tf) #[] tcaps] 61)) (.cells #[.int .i64 0, .int .i64 0, .slice none 0 0, .int .i64 0, .int .i64 0, .bool false, .int .i64 0, .int .i64 0, .int .i64 0, .int .i64 0, .int .i64 0, .int .i64 0, .slice none 0 0, .int .i64 0, .int .i64 0, .int .i64 0, .int .i64 0, .int .i64 0, .int .i64 0, .int .i32 0, .string ⟨#[]⟩, .slice none 0 0] 32)
    have e : ((w.alloc (.cells (scrA s (.slice ca s.cs.length cc) (.slice ta s.tabs.length tc) (.slice ga s.gone.length gc)) 32)).alloc (.cells #[.func (.func tf) #[] tcaps] 61)).heap.size = w.heap.size + 2 := by simp
    rw [e] at h
    exact h
  have HX0 : Hid _ := hx0
  have HXR : Hid _ := hx2
  have HKB : Hid _ := hkb
  have HC := hC _ (w.heap.size + 1) hkb (cell_one hx1)
  have hsz : w.heap.size ≤ (((w.alloc (.cells (scrA s (.slice ca s.cs.length cc) (.slice ta s.tabs.length tc) (.slice ga s.gone.length gc)) 32)).alloc (.cells #[.func (.func tf) #[] tcaps] 61)).alloc (.cells #[.int .i64 0, .int .i64 0, .slice none 0 0, .int .i64 0, .int .i64 0, .bool false, .int .i64 0, .int .i64 0, .int .i64 0, .int .i64 0, .int .i64 0, .int .i64 0, .slice none 0 0, .int .i64 0, .int .i64 0, .int .i64 0, .int .i64 0, .int .i64 0, .int .i64 0, .int .i32 0, .string ⟨#[]⟩, .slice none 0 0] 32)).heap.size := hkb.size
  clear hkb hV hC hx0 hx1 hx2
  go_enter Tryd.func25, Tryd.ntmps25
  go_upto_region 1 with fail
  generalize (((w.alloc (.cells (scrA s (.slice ca s.cs.length cc) (.slice ta s.tabs.length tc) (.slice ga s.gone.length gc)) 32)).alloc (.cells #[.func (.func tf) #[] tcaps] 61)).alloc (.cells #[.int .i64 0, .int .i64 0, .slice none 0 0, .int .i64 0, .int .i64 0, .bool false, .int .i64 0, .int .i64 0, .int .i64 0, .int .i64 0, .int .i64 0, .int .i64 0, .slice none 0 0, .int .i64 0, .int .i64 0, .int .i64 0, .int .i64 0, .int .i64 0, .int .i64 0, .int .i32 0, .string ⟨#[]⟩, .slice none 0 0] 32)) = X at *
  go_wp2_with (refine wpList_load_row rfl 32 (.tmp 2) rfl w.heap.size rfl _ _ _ _ HX0.out Tryd.underlying32 rfl (by kernel_rfl) ?_)
  refine HC.mono ?_
  rintro e V ⟨cv', tv', gv', rfl, hO, c2⟩
  obtain ⟨a1, n1, c1, a2, n2, c2', a3, n3, c3, rfl, rfl, rfl⟩ := hO.shapes
  have HO : Hid (ScrO V w0.heap.size _ s' _ _ _) := hO
  have HR : Hid (V.heap[w.heap.size + 2]? = _) := Grd.carry HXR.out c2
  have HB : Hid (Below w.heap.size w V) := HKB.out.trans (c2.mono HKB.out.size)
  clear hO c2 HC
  go_wp2_with (refine wpList_store_row rfl 32 (.tmp 4) (.tmp 9) rfl (w.heap.size + 2) (scrA s' (.slice a1 n1 c1) (.slice a2 n2 c2') (.slice a3 n3 c3)) rfl rfl _ _ HR.out (by kernel_rfl) rfl (scr_one _ _ _ _ _ _ _ _ _ _) ?_)
  (try simp only [Exit.inBlock, Exit.then])
  refine bodyPost_ret (v := .tuple #[.agg (scrA s' (.slice a1 n1 c1) (.slice a2 n2 c2') (.slice a3 n3 c3)), .int .i64 er]) ?_ rfl ⟨_, _, _, rfl, ?_, below_setRow HB.out (by omega) _⟩
  · exact Grd.results_row_tmp rfl _ _ (w.heap.size + 2) _ _ _ _ rfl (setRow_heap _ _ _ _ _ _ HR.out) Tryd.underlying32 rfl (by kernel_rfl) _ rfl
  · exact (ScrO.off HO.out HR.out screen_is (by omega) fun k hk => setRow_other _ _ _ _ hk).mono hsz
set_option maxHeartbeats 2000000 in
set_option maxRecDepth 100000 in
theorem left_calls (s s' : Scr) (cv tv gv : Value) (n : Int) (er : Int) (w0 w : World) (hV : ScrV w0 s cv tv gv) (hM : w0.heap.size ≤ w.heap.size)
    (hC : ∀ (W : World) (B1 : Nat), Below w.heap.size w W → W.cell? ⟨B1, 0, none⟩ = some (.int .i64 n) → Calls Tryd.prog 25 #[.agg (scrA s cv tv gv), .func (.func 28) #[] #[.pointer (some ⟨B1, 0, none⟩)]] W (Made w0 W s' er)) :
    Calls Tryd.prog 8 #[.agg (scrA s cv tv gv), .int .i64 n] w (Made w0 w s' er) := by
  obtain ⟨ca, cc, rfl⟩ := hV.c.shape
  obtain ⟨ta, tc, rfl⟩ := hV.t.slice
  obtain ⟨ga, gc, rfl⟩ := hV.g.slice
  have hkb : Below w.heap.size w (((w.alloc (.cells (scrA s (.slice ca s.cs.length cc) (.slice ta s.tabs.length tc) (.slice ga s.gone.length gc)) 32)).alloc (.cells #[.int .i64 n] 3)).alloc (.cells #[.int .i64 0, .int .i64 0, .slice none 0 0, .int .i64 0, .int .i64 0, .bool false, .int .i64 0, .int .i64 0, .int .i64 0, .int .i64 0, .int .i64 0, .int .i64 0, .slice none 0 0, .int .i64 0, .int .i64 0, .int .i64 0, .int .i64 0, .int .i64 0, .int .i64 0, .int .i32 0, .string ⟨#[]⟩, .slice none 0 0] 32)) := ((((Below.refl _ _).alloc (by simp) _).alloc (by simp) _).alloc (by simp; omega) _)
  have hx0 : (w.alloc (.cells (scrA s (.slice ca s.cs.length cc) (.slice ta s.tabs.length tc) (.slice ga s.gone.length gc)) 32)).heap[w.heap.size]? = some (.cells (scrA s (.slice ca s.cs.length cc) (.slice ta s.tabs.length tc) (.slice ga s.gone.length gc)) 32 (0, 0)) := by
    have h := heap_alloc_new w (.cells (scrA s (.slice ca s.cs.length cc) (.slice ta s.tabs.length tc) (.slice ga s.gone.length gc)) 32)
    have e : w.heap.size = w.heap.size := by simp
    rw [e] at h
    exact h
  have hx0 := (Below.heap_alloc (w.alloc (.cells (scrA s (.slice ca s.cs.length cc) (.slice ta s.tabs.length tc) (.slice ga s.gone.length gc)) 32)) (.cells #[.int .i64 n] 3) _ (heap_lt hx0)).trans hx0
  have hx0 := (Below.heap_alloc ((w.alloc (.cells (scrA s (.slice ca s.cs.length cc) (.slice ta s.tabs.length tc) (.slice ga s.gone.length gc)) 32)).alloc (.cells #[.int .i64 n] 3)) (.cells #[.int .i64 0, .int .i64 0, .slice none 0 0, .int .i64 0, .int .i64 0, .bool false, .int .i64 0, .int .i64 0, .int .i64 0, .int .i64 0, .int .i64 0, .int .i64 0, .slice none 0 0, .int .i64 0, .int .i64 0, .int .i64 0, .int .i64 0, .int .i64 0, .int .i64 0, .int .i32 0, .string ⟨#[]⟩, .slice none 0 0] 32) _ (heap_lt hx0)).trans hx0
  have hx1 : ((w.alloc (.cells (scrA s (.slice ca s.cs.length cc) (.slice ta s.tabs.length tc) (.slice ga s.gone.length gc)) 32)).alloc (.cells #[.int .i64 n] 3)).heap[w.heap.size + 1]? = some (.cells #[.int .i64 n] 3 (0, 0)) := by
    have h := heap_alloc_new (w.alloc (.cells (scrA s (.slice ca s.cs.length cc) (.slice ta s.tabs.length tc) (.slice ga s.gone.length gc)) 32)) (.cells #[.int .i64 n] 3)
    have e : (w.alloc (.cells (scrA s (.slice ca s.cs.length cc) (.slice ta s.tabs.length tc) (.slice ga s.gone.length gc)) 32)).heap.size = w.heap.size + 1 := by simp
    rw [e] at h
    exact h
  have hx1 := (Below.heap_alloc ((w.alloc (.cells (scrA s (.slice ca s.cs.length cc) (.slice ta s.tabs.length tc) (.slice ga s.gone.length gc)) 32)).alloc (.cells #[.int .i64 n] 3)) (.cells #[.int .i64 0, .int .i64 0, .slice none 0 0, .int .i64 0, .int .i64 0, .bool false, .int .i64 0, .int .i64 0, .int .i64 0, .int .i64 0, .int .i64 0, .int .i64 0, .slice none 0 0, .int .i64 0, .int .i64 0, .int .i64 0, .int .i64 0, .int .i64 0, .int .i64 0, .int .i32 0, .string ⟨#[]⟩, .slice none 0 0] 32) _ (heap_lt hx1)).trans hx1
  have hx2 : (((w.alloc (.cells (scrA s (.slice ca s.cs.length cc) (.slice ta s.tabs.length tc) (.slice ga s.gone.length gc)) 32)).alloc (.cells #[.int .i64 n] 3)).alloc (.cells #[.int .i64 0, .int .i64 0, .slice none 0 0, .int .i64 0, .int .i64 0, .bool false, .int .i64 0, .int .i64 0, .int .i64 0, .int .i64 0, .int .i64 0, .int .i64 0, .slice none 0 0, .int .i64 0, .int .i64 0, .int .i64 0, .int .i64 0, .int .i64 0, .int .i64 0, .int .i32 0, .string ⟨#[]⟩, .slice none 0 0] 32)).heap[w.heap.size + 2]? = some (.cells #[.int .i64 0, .int .i64 0, .slice none 0 0, .int .i64 0, .int .i64 0, .bool false, .int .i64 0, .int .i64 0, .int .i64 0, .int .i64 0, .int .i64 0, .int .i64 0, .slice none 0 0, .int .i64 0, .int .i64 0, .int .i64 0, .int .i64 0, .int .i64 0, .int .i64 0, .int .i32 0, .string ⟨#[]⟩, .slice none 0 0] 32 (0, 0)) := by
    have h := heap_alloc_new ((w.alloc (.cells (scrA s (.slice ca s.cs.length cc) (.slice ta s.tabs.length tc) (.slice ga s.gone.length gc)) 32)).alloc (.cells #[.int .i64 n] 3)) (.cells #[.int .i64 0, .int .i64 0, .slice none 0 0, .int .i64 0, .int .i64 0, .bool false, .int .i64 0, .int .i64 0, .int .i64 0, .int .i64 0, .int .i64 0, .int .i64 0, .slice none 0 0, .int .i64 0, .int .i64 0, .int .i64 0, .int .i64 0, .int .i64 0, .int .i64 0, .int .i32 0, .string ⟨#[]⟩, .slice none 0 0] 32)
    have e : ((w.alloc (.cells (scrA s (.slice ca s.cs.length cc) (.slice ta s.tabs.length tc) (.slice ga s.gone.length gc)) 32)).alloc (.cells #[.int .i64 n] 3)).heap.size = w.heap.size + 2 := by simp
    rw [e] at h
    exact h
  have HX0 : Hid _ := hx0
  have HXR : Hid _ := hx2
  have HKB : Hid _ := hkb
  have HC := hC _ (w.heap.size + 1) hkb (cell_one hx1)
  have hsz : w.heap.size ≤ (((w.alloc (.cells (scrA s (.slice ca s.cs.length cc) (.slice ta s.tabs.length tc) (.slice ga s.gone.length gc)) 32)).alloc (.cells #[.int .i64 n] 3)).alloc (.cells #[.int .i64 0, .int .i64 0, .slice none 0 0, .int .i64 0, .int .i64 0, .bool false, .int .i64 0, .int .i64 0, .int .i64 0, .int .i64 0, .int .i64 0, .int .i64 0, .slice none 0 0, .int .i64 0, .int .i64 0, .int .i64 0, .int .i64 0, .int .i64 0, .int .i64 0, .int .i32 0, .string ⟨#[]⟩, .slice none 0 0] 32)).heap.size := hkb.size
  clear hkb hV hC hx0 hx1 hx2
  go_enter Tryd.func8, Tryd.ntmps8
  go_upto_region 1 with fail
  generalize (((w.alloc (.cells (scrA s (.slice ca s.cs.length cc) (.slice ta s.tabs.length tc) (.slice ga s.gone.length gc)) 32)).alloc (.cells #[.int .i64 n] 3)).alloc (.cells #[.int .i64 0, .int .i64 0, .slice none 0 0, .int .i64 0, .int .i64 0, .bool false, .int .i64 0, .int .i64 0, .int .i64 0, .int .i64 0, .int .i64 0, .int .i64 0, .slice none 0 0, .int .i64 0, .int .i64 0, .int .i64 0, .int .i64 0, .int .i64 0, .int .i64 0, .int .i32 0, .string ⟨#[]⟩, .slice none 0 0] 32)) = X at *
  go_wp2_with (refine wpList_load_row rfl 32 (.tmp 2) rfl w.heap.size rfl _ _ _ _ HX0.out Tryd.underlying32 rfl (by kernel_rfl) ?_)
  refine HC.mono ?_
  rintro e V ⟨cv', tv', gv', rfl, hO, c2⟩
  obtain ⟨a1, n1, c1, a2, n2, c2', a3, n3, c3, rfl, rfl, rfl⟩ := hO.shapes
  have HO : Hid (ScrO V w0.heap.size _ s' _ _ _) := hO
  have HR : Hid (V.heap[w.heap.size + 2]? = _) := Grd.carry HXR.out c2
  have HB : Hid (Below w.heap.size w V) := HKB.out.trans (c2.mono HKB.out.size)
  clear hO c2 HC
  go_wp2_with (refine wpList_store_row rfl 32 (.tmp 4) (.tmp 9) rfl (w.heap.size + 2) (scrA s' (.slice a1 n1 c1) (.slice a2 n2 c2') (.slice a3 n3 c3)) rfl rfl _ _ HR.out (by kernel_rfl) rfl (scr_one _ _ _ _ _ _ _ _ _ _) ?_)
  (try simp only [Exit.inBlock, Exit.then])
  refine bodyPost_ret (v := .tuple #[.agg (scrA s' (.slice a1 n1 c1) (.slice a2 n2 c2') (.slice a3 n3 c3)), .int .i64 er]) ?_ rfl ⟨_, _, _, rfl, ?_, below_setRow HB.out (by omega) _⟩
  · exact Grd.results_row_tmp rfl _ _ (w.heap.size + 2) _ _ _ _ rfl (setRow_heap _ _ _ _ _ _ HR.out) Tryd.underlying32 rfl (by kernel_rfl) _ rfl
  · exact (ScrO.off HO.out HR.out screen_is (by omega) fun k hk => setRow_other _ _ _ _ hk).mono hsz
set_option maxHeartbeats 2000000 in
set_option maxRecDepth 100000 in
theorem right_calls (s s' : Scr) (cv tv gv : Value) (n : Int) (er : Int) (w0 w : World) (hV : ScrV w0 s cv tv gv) (hM : w0.heap.size ≤ w.heap.size)
    (hC : ∀ (W : World) (B1 : Nat), Below w.heap.size w W → W.cell? ⟨B1, 0, none⟩ = some (.int .i64 n) → Calls Tryd.prog 25 #[.agg (scrA s cv tv gv), .func (.func 26) #[] #[.pointer (some ⟨B1, 0, none⟩)]] W (Made w0 W s' er)) :
    Calls Tryd.prog 7 #[.agg (scrA s cv tv gv), .int .i64 n] w (Made w0 w s' er) := by
  obtain ⟨ca, cc, rfl⟩ := hV.c.shape
  obtain ⟨ta, tc, rfl⟩ := hV.t.slice
  obtain ⟨ga, gc, rfl⟩ := hV.g.slice
  have hkb : Below w.heap.size w (((w.alloc (.cells (scrA s (.slice ca s.cs.length cc) (.slice ta s.tabs.length tc) (.slice ga s.gone.length gc)) 32)).alloc (.cells #[.int .i64 n] 3)).alloc (.cells #[.int .i64 0, .int .i64 0, .slice none 0 0, .int .i64 0, .int .i64 0, .bool false, .int .i64 0, .int .i64 0, .int .i64 0, .int .i64 0, .int .i64 0, .int .i64 0, .slice none 0 0, .int .i64 0, .int .i64 0, .int .i64 0, .int .i64 0, .int .i64 0, .int .i64 0, .int .i32 0, .string ⟨#[]⟩, .slice none 0 0] 32)) := ((((Below.refl _ _).alloc (by simp) _).alloc (by simp) _).alloc (by simp; omega) _)
  have hx0 : (w.alloc (.cells (scrA s (.slice ca s.cs.length cc) (.slice ta s.tabs.length tc) (.slice ga s.gone.length gc)) 32)).heap[w.heap.size]? = some (.cells (scrA s (.slice ca s.cs.length cc) (.slice ta s.tabs.length tc) (.slice ga s.gone.length gc)) 32 (0, 0)) := by
    have h := heap_alloc_new w (.cells (scrA s (.slice ca s.cs.length cc) (.slice ta s.tabs.length tc) (.slice ga s.gone.length gc)) 32)
    have e : w.heap.size = w.heap.size := by simp
    rw [e] at h
    exact h
  have hx0 := (Below.heap_alloc (w.alloc (.cells (scrA s (.slice ca s.cs.length cc) (.slice ta s.tabs.length tc) (.slice ga s.gone.length gc)) 32)) (.cells #[.int .i64 n] 3) _ (heap_lt hx0)).trans hx0
  have hx0 := (Below.heap_alloc ((w.alloc (.cells (scrA s (.slice ca s.cs.length cc) (.slice ta s.tabs.length tc) (.slice ga s.gone.length gc)) 32)).alloc (.cells #[.int .i64 n] 3)) (.cells #[.int .i64 0, .int .i64 0, .slice none 0 0, .int .i64 0, .int .i64 0, .bool false, .int .i64 0, .int .i64 0, .int .i64 0, .int .i64 0, .int .i64 0, .int .i64 0, .slice none 0 0, .int .i64 0, .int .i64 0, .int .i64 0, .int .i64 0, .int .i64 0, .int .i64 0, .int .i32 0, .string ⟨#[]⟩, .slice none 0 0] 32) _ (heap_lt hx0)).trans hx0
  have hx1 : ((w.alloc (.cells (scrA s (.slice ca s.cs.length cc) (.slice ta s.tabs.length tc) (.slice ga s.gone.length gc)) 32)).alloc (.cells #[.int .i64 n] 3)).heap[w.heap.size + 1]? = some (.cells #[.int .i64 n] 3 (0, 0)) := by
    have h := heap_alloc_new (w.alloc (.cells (scrA s (.slice ca s.cs.length cc) (.slice ta s.tabs.length tc) (.slice ga s.gone.length gc)) 32)) (.cells #[.int .i64 n] 3)
    have e : (w.alloc (.cells (scrA s (.slice ca s.cs.length cc) (.slice ta s.tabs.length tc) (.slice ga s.gone.length gc)) 32)).heap.size = w.heap.size + 1 := by simp
    rw [e] at h
    exact h
  have hx1 := (Below.heap_alloc ((w.alloc (.cells (scrA s (.slice ca s.cs.length cc) (.slice ta s.tabs.length tc) (.slice ga s.gone.length gc)) 32)).alloc (.cells #[.int .i64 n] 3)) (.cells #[.int .i64 0, .int .i64 0, .slice none 0 0, .int .i64 0, .int .i64 0, .bool false, .int .i64 0, .int .i64 0, .int .i64 0, .int .i64 0, .int .i64 0, .int .i64 0, .slice none 0 0, .int .i64 0, .int .i64 0, .int .i64 0, .int .i64 0, .int .i64 0, .int .i64 0, .int .i32 0, .string ⟨#[]⟩, .slice none 0 0] 32) _ (heap_lt hx1)).trans hx1
  have hx2 : (((w.alloc (.cells (scrA s (.slice ca s.cs.length cc) (.slice ta s.tabs.length tc) (.slice ga s.gone.length gc)) 32)).alloc (.cells #[.int .i64 n] 3)).alloc (.cells #[.int .i64 0, .int .i64 0, .slice none 0 0, .int .i64 0, .int .i64 0, .bool false, .int .i64 0, .int .i64 0, .int .i64 0, .int .i64 0, .int .i64 0, .int .i64 0, .slice none 0 0, .int .i64 0, .int .i64 0, .int .i64 0, .int .i64 0, .int .i64 0, .int .i64 0, .int .i32 0, .string ⟨#[]⟩, .slice none 0 0] 32)).heap[w.heap.size + 2]? = some (.cells #[.int .i64 0, .int .i64 0, .slice none 0 0, .int .i64 0, .int .i64 0, .bool false, .int .i64 0, .int .i64 0, .int .i64 0, .int .i64 0, .int .i64 0, .int .i64 0, .slice none 0 0, .int .i64 0, .int .i64 0, .int .i64 0, .int .i64 0, .int .i64 0, .int .i64 0, .int .i32 0, .string ⟨#[]⟩, .slice none 0 0] 32 (0, 0)) := by
    have h := heap_alloc_new ((w.alloc (.cells (scrA s (.slice ca s.cs.length cc) (.slice ta s.tabs.length tc) (.slice ga s.gone.length gc)) 32)).alloc (.cells #[.int .i64 n] 3)) (.cells #[.int .i64 0, .int .i64 0, .slice none 0 0, .int .i64 0, .int .i64 0, .bool false, .int .i64 0, .int .i64 0, .int .i64 0, .int .i64 0, .int .i64 0, .int .i64 0, .slice none 0 0, .int .i64 0, .int .i64 0, .int .i64 0, .int .i64 0, .int .i64 0, .int .i64 0, .int .i32 0, .string ⟨#[]⟩, .slice none 0 0] 32)
    have e : ((w.alloc (.cells (scrA s (.slice ca s.cs.length cc) (.slice ta s.tabs.length tc) (.slice ga s.gone.length gc)) 32)).alloc (.cells #[.int .i64 n] 3)).heap.size = w.heap.size + 2 := by simp
    rw [e] at h
    exact h
  have HX0 : Hid _ := hx0
  have HXR : Hid _ := hx2
  have HKB : Hid _ := hkb
  have HC := hC _ (w.heap.size + 1) hkb (cell_one hx1)
  have hsz : w.heap.size ≤ (((w.alloc (.cells (scrA s (.slice ca s.cs.length cc) (.slice ta s.tabs.length tc) (.slice ga s.gone.length gc)) 32)).alloc (.cells #[.int .i64 n] 3)).alloc (.cells #[.int .i64 0, .int .i64 0, .slice none 0 0, .int .i64 0, .int .i64 0, .bool false, .int .i64 0, .int .i64 0, .int .i64 0, .int .i64 0, .int .i64 0, .int .i64 0, .slice none 0 0, .int .i64 0, .int .i64 0, .int .i64 0, .int .i64 0, .int .i64 0, .int .i64 0, .int .i32 0, .string ⟨#[]⟩, .slice none 0 0] 32)).heap.size := hkb.size
  clear hkb hV hC hx0 hx1 hx2
  go_enter Tryd.func7, Tryd.ntmps7
  go_upto_region 1 with fail
  generalize (((w.alloc (.cells (scrA s (.slice ca s.cs.length cc) (.slice ta s.tabs.length tc) (.slice ga s.gone.length gc)) 32)).alloc (.cells #[.int .i64 n] 3)).alloc (.cells #[.int .i64 0, .int .i64 0, .slice none 0 0, .int .i64 0, .int .i64 0, .bool false, .int .i64 0, .int .i64 0, .int .i64 0, .int .i64 0, .int .i64 0, .int .i64 0, .slice none 0 0, .int .i64 0, .int .i64 0, .int .i64 0, .int .i64 0, .int .i64 0, .int .i64 0, .int .i32 0, .string ⟨#[]⟩, .slice none 0 0] 32)) = X at *
  go_wp2_with (refine wpList_load_row rfl 32 (.tmp 2) rfl w.heap.size rfl _ _ _ _ HX0.out Tryd.underlying32 rfl (by kernel_rfl) ?_)
  refine HC.mono ?_
  rintro e V ⟨cv', tv', gv', rfl, hO, c2⟩
  obtain ⟨a1, n1, c1, a2, n2, c2', a3, n3, c3, rfl, rfl, rfl⟩ := hO.shapes
  have HO : Hid (ScrO V w0.heap.size _ s' _ _ _) := hO
  have HR : Hid (V.heap[w.heap.size + 2]? = _) := Grd.carry HXR.out c2
  have HB : Hid (Below w.heap.size w V) := HKB.out.trans (c2.mono HKB.out.size)
  clear hO c2 HC
  go_wp2_with (refine wpList_store_row rfl 32 (.tmp 4) (.tmp 9) rfl (w.heap.size + 2) (scrA s' (.slice a1 n1 c1) (.slice a2 n2 c2') (.slice a3 n3 c3)) rfl rfl _ _ HR.out (by kernel_rfl) rfl (scr_one _ _ _ _ _ _ _ _ _ _) ?_)
  (try simp only [Exit.inBlock, Exit.then])
  refine bodyPost_ret (v := .tuple #[.agg (scrA s' (.slice a1 n1 c1) (.slice a2 n2 c2') (.slice a3 n3 c3)), .int .i64 er]) ?_ rfl ⟨_, _, _, rfl, ?_, below_setRow HB.out (by omega) _⟩
  · exact Grd.results_row_tmp rfl _ _ (w.heap.size + 2) _ _ _ _ rfl (setRow_heap _ _ _ _ _ _ HR.out) Tryd.underlying32 rfl (by kernel_rfl) _ rfl
  · exact (ScrO.off HO.out HR.out screen_is (by omega) fun k hk => setRow_other _ _ _ _ hk).mono hsz
set_option maxHeartbeats 2000000 in
set_option maxRecDepth 100000 in
theorem to_calls (s s' : Scr) (cv tv gv : Value) (a : Int) (b : Int) (er : Int) (w0 w : World) (hV : ScrV w0 s cv tv gv) (hM : w0.heap.size ≤ w.heap.size)
    (hC : ∀ (W : World) (B1 B2 : Nat), Below w.heap.size w W → W.cell? ⟨B1, 0, none⟩ = some (.int .i64 a) → W.cell? ⟨B2, 0, none⟩ = some (.int .i64 b) → Calls Tryd.prog 25 #[.agg (scrA s cv tv gv), .func (.func 29) #[] #[.pointer (some ⟨B1, 0, none⟩), .pointer (some ⟨B2, 0, none⟩)]] W (Made w0 W s' er)) :
    Calls Tryd.prog 9 #[.agg (scrA s cv tv gv), .int .i64 a, .int .i64 b] w (Made w0 w s' er) := by
  obtain ⟨ca, cc, rfl⟩ := hV.c.shape
  obtain ⟨ta, tc, rfl⟩ := hV.t.slice
  obtain ⟨ga, gc, rfl⟩ := hV.g.slice
  have hkb : Below w.heap.size w ((((w.alloc (.cells (scrA s (.slice ca s.cs.length cc) (.slice ta s.tabs.length tc) (.slice ga s.gone.length gc)) 32)).alloc (.cells #[.int .i64 a] 3)).alloc (.cells #[.int .i64 b] 3)).alloc (.cells #[.int .i64 0, .int .i64 0, .slice none 0 0, .int .i64 0, .int .i64 0, .bool false, .int .i64 0, .int .i64 0, .int .i64 0, .int .i64 0, .int .i64 0, .int .i64 0, .slice none 0 0, .int .i64 0, .int .i64 0, .int .i64 0, .int .i64 0, .int .i64 0, .int .i64 0, .int .i32 0, .string ⟨#[]⟩, .slice none 0 0] 32)) := (((((Below.refl _ _).alloc (by simp) _).alloc (by simp) _).alloc (by simp; omega) _).alloc (by simp; omega) _)
  have hx0 : (w.alloc (.cells (scrA s (.slice ca s.cs.length cc) (.slice ta s.tabs.length tc) (.slice ga s.gone.length gc)) 32)).heap[w.heap.size]? = some (.cells (scrA s (.slice ca s.cs.length cc) (.slice ta s.tabs.length tc) (.slice ga s.gone.length gc)) 32 (0, 0)) := by
    have h := heap_alloc_new w (.cells (scrA s (.slice ca s.cs.length cc) (.slice ta s.tabs.length tc) (.slice ga s.gone.length gc)) 32)
    have e : w.heap.size = w.heap.size := by simp
    rw [e] at h
    exact h
  have hx0 := (Below.heap_alloc (w.alloc (.cells (scrA s (.slice ca s.cs.length cc) (.slice ta s.tabs.length tc) (.slice ga s.gone.length gc)) 32)) (.cells #[.int .i64 a] 3) _ (heap_lt hx0)).trans hx0
  have hx0 := (Below.heap_alloc ((w.alloc (.cells (scrA s (.slice ca s.cs.length cc) (.slice ta s.tabs.length tc) (.slice ga s.gone.length gc)) 32)).alloc (.cells #[.int .i64 a] 3)) (.cells #[.int .i64 b] 3) _ (heap_lt hx0)).trans hx0
  have hx0 := (Below.heap_alloc (((w.alloc (.cells (scrA s (.slice ca s.cs.length cc) (.slice ta s.tabs.length tc) (.slice ga s.gone.length gc)) 32)).alloc (.cells #[.int .i64 a] 3)).alloc (.cells #[.int .i64 b] 3)) (.cells #[.int .i64 0, .int .i64 0, .slice none 0 0, .int .i64 0, .int .i64 0, .bool false, .int .i64 0, .int .i64 0, .int .i64 0, .int .i64 0, .int .i64 0, .int .i64 0, .slice none 0 0, .int .i64 0, .int .i64 0, .int .i64 0, .int .i64 0, .int .i64 0, .int .i64 0, .int .i32 0, .string ⟨#[]⟩, .slice none 0 0] 32) _ (heap_lt hx0)).trans hx0
  have hx1 : ((w.alloc (.cells (scrA s (.slice ca s.cs.length cc) (.slice ta s.tabs.length tc) (.slice ga s.gone.length gc)) 32)).alloc (.cells #[.int .i64 a] 3)).heap[w.heap.size + 1]? = some (.cells #[.int .i64 a] 3 (0, 0)) := by
    have h := heap_alloc_new (w.alloc (.cells (scrA s (.slice ca s.cs.length cc) (.slice ta s.tabs.length tc) (.slice ga s.gone.length gc)) 32)) (.cells #[.int .i64 a] 3)
    have e : (w.alloc (.cells (scrA s (.slice ca s.cs.length cc) (.slice ta s.tabs.length tc) (.slice ga s.gone.length gc)) 32)).heap.size = w.heap.size + 1 := by simp
    rw [e] at h
    exact h
  have hx1 := (Below.heap_alloc ((w.alloc (.cells (scrA s (.slice ca s.cs.length cc) (.slice ta s.tabs.length tc) (.slice ga s.gone.length gc)) 32)).alloc (.cells #[.int .i64 a] 3)) (.cells #[.int .i64 b] 3) _ (heap_lt hx1)).trans hx1
  have hx1 := (Below.heap_alloc (((w.alloc (.cells (scrA s (.slice ca s.cs.length cc) (.slice ta s.tabs.length tc) (.slice ga s.gone.length gc)) 32)).alloc (.cells #[.int .i64 a] 3)).alloc (.cells #[.int .i64 b] 3)) (.cells #[.int .i64 0, .int .i64 0, .slice none 0 0, .int .i64 0, .int .i64 0, .bool false, .int .i64 0, .int .i64 0, .int .i64 0, .int .i64 0, .int .i64 0, .int .i64 0, .slice none 0 0, .int .i64 0, .int .i64 0, .int .i64 0, .int .i64 0, .int .i64 0, .int .i64 0, .int .i32 0, .string ⟨#[]⟩, .slice none 0 0] 32) _ (heap_lt hx1)).trans hx1
  have hx2 : (((w.alloc (.cells (scrA s (.slice ca s.cs.length cc) (.slice ta s.tabs.length tc) (.slice ga s.gone.length gc)) 32)).alloc (.cells #[.int .i64 a] 3)).alloc (.cells #[.int .i64 b] 3)).heap[w.heap.size + 2]? = some (.cells #[.int .i64 b] 3 (0, 0)) := by
    have h := heap_alloc_new ((w.alloc (.cells (scrA s (.slice ca s.cs.length cc) (.slice ta s.tabs.length tc) (.slice ga s.gone.length gc)) 32)).alloc (.cells #[.int .i64 a] 3)) (.cells #[.int .i64 b] 3)
    have e : ((w.alloc (.cells (scrA s (.slice ca s.cs.length cc) (.slice ta s.tabs.length tc) (.slice ga s.gone.length gc)) 32)).alloc (.cells #[.int .i64 a] 3)).heap.size = w.heap.size + 2 := by simp
    rw [e] at h
    exact h
  have hx2 := (Below.heap_alloc (((w.alloc (.cells (scrA s (.slice ca s.cs.length cc) (.slice ta s.tabs.length tc) (.slice ga s.gone.length gc)) 32)).alloc (.cells #[.int .i64 a] 3)).alloc (.cells #[.int .i64 b] 3)) (.cells #[.int .i64 0, .int .i64 0, .slice none 0 0, .int .i64 0, .int .i64 0, .bool false, .int .i64 0, .int .i64 0, .int .i64 0, .int .i64 0, .int .i64 0, .int .i64 0, .slice none 0 0, .int .i64 0, .int .i64 0, .int .i64 0, .int .i64 0, .int .i64 0, .int .i64 0, .int .i32 0, .string ⟨#[]⟩, .slice none 0 0] 32) _ (heap_lt hx2)).trans hx2
  have hx3 : ((((w.alloc (.cells (scrA s (.slice ca s.cs.length cc) (.slice ta s.tabs.length tc) (.slice ga s.gone.length gc)) 32)).alloc (.cells #[.int .i64 a] 3)).alloc (.cells #[.int .i64 b] 3)).alloc (.cells #[.int .i64 0, .int .i64 0, .slice none 0 0, .int .i64 0, .int .i64 0, .bool false, .int .i64 0, .int .i64 0, .int .i64 0, .int .i64 0, .int .i64 0, .int .i64 0, .slice none 0 0, .int .i64 0, .int .i64 0, .int .i64 0, .int .i64 0, .int .i64 0, .int .i64 0, .int .i32 0, .string ⟨#[]⟩, .slice none 0 0] 32)).heap[w.heap.size + 3]? = some (.cells #[.int .i64 0, .int .i64 0, .slice none 0 0, .int .i64 0, .int .i64 0, .bool false, .int .i64 0, .int .i64 0, .int .i64 0, .int .i64 0, .int .i64 0, .int .i64 0, .slice none 0 0, .int .i64 0, .int .i64 0, .int .i64 0, .int .i64 0, .int .i64 0, .int .i64 0, .int .i32 0, .string ⟨#[]⟩, .slice none 0 0] 32 (0, 0)) := by
    have h := heap_alloc_new (((w.alloc (.cells (scrA s (.slice ca s.cs.length cc) (.slice ta s.tabs.length tc) (.slice ga s.gone.length gc)) 32)).alloc (.cells #[.int .i64 a] 3)).alloc (.cells #[.int .i64 b] 3)) (.cells #[.int .i64 0, .int .i64 0, .slice none 0 0, .int .i64 0, .int .i64 0, .bool false, .int .i64 0, .int .i64 0, .int .i64 0, .int .i64 0, .int .i64 0, .int .i64 0, .slice none 0 0, .int .i64 0, .int .i64 0, .int .i64 0, .int .i64 0, .int .i64 0, .int .i64 0, .int .i32 0, .string ⟨#[]⟩, .slice none 0 0] 32)
    have e : (((w.alloc (.cells (scrA s (.slice ca s.cs.length cc) (.slice ta s.tabs.length tc) (.slice ga s.gone.length gc)) 32)).alloc (.cells #[.int .i64 a] 3)).alloc (.cells #[.int .i64 b] 3)).heap.size = w.heap.size + 3 := by simp
    rw [e] at h
    exact h
  have HX0 : Hid _ := hx0
  have HXR : Hid _ := hx3
  have HKB : Hid _ := hkb
  have HC := hC _ (w.heap.size + 1) (w.heap.size + 2) hkb (cell_one hx1) (cell_one hx2)
  have hsz : w.heap.size ≤ ((((w.alloc (.cells (scrA s (.slice ca s.cs.length cc) (.slice ta s.tabs.length tc) (.slice ga s.gone.length gc)) 32)).alloc (.cells #[.int .i64 a] 3)).alloc (.cells #[.int .i64 b] 3)).alloc (.cells #[.int .i64 0, .int .i64 0, .slice none 0 0, .int .i64 0, .int .i64 0, .bool false, .int .i64 0, .int .i64 0, .int .i64 0, .int .i64 0, .int .i64 0, .int .i64 0, .slice none 0 0, .int .i64 0, .int .i64 0, .int .i64 0, .int .i64 0, .int .i64 0, .int .i64 0, .int .i32 0, .string ⟨#[]⟩, .slice none 0 0] 32)).heap.size := hkb.size
  clear hkb hV hC hx0 hx1 hx2 hx3
  go_enter Tryd.func9, Tryd.ntmps9
  go_upto_region 1 with fail
  generalize ((((w.alloc (.cells (scrA s (.slice ca s.cs.length cc) (.slice ta s.tabs.length tc) (.slice ga s.gone.length gc)) 32)).alloc (.cells #[.int .i64 a] 3)).alloc (.cells #[.int .i64 b] 3)).alloc (.cells #[.int .i64 0, .int .i64 0, .slice none 0 0, .int .i64 0, .int .i64 0, .bool false, .int .i64 0, .int .i64 0, .int .i64 0, .int .i64 0, .int .i64 0, .int .i64 0, .slice none 0 0, .int .i64 0, .int .i64 0, .int .i64 0, .int .i64 0, .int .i64 0, .int .i64 0, .int .i32 0, .string ⟨#[]⟩, .slice none 0 0] 32)) = X at *
  go_wp2_with (refine wpList_load_row rfl 32 (.tmp 3) rfl w.heap.size rfl _ _ _ _ HX0.out Tryd.underlying32 rfl (by kernel_rfl) ?_)
  refine HC.mono ?_
  rintro e V ⟨cv', tv', gv', rfl, hO, c2⟩
  obtain ⟨a1, n1, c1, a2, n2, c2', a3, n3, c3, rfl, rfl, rfl⟩ := hO.shapes
  have HO : Hid (ScrO V w0.heap.size _ s' _ _ _) := hO
  have HR : Hid (V.heap[w.heap.size + 3]? = _) := Grd.carry HXR.out c2
  have HB : Hid (Below w.heap.size w V) := HKB.out.trans (c2.mono HKB.out.size)
  clear hO c2 HC
  go_wp2_with (refine wpList_store_row rfl 32 (.tmp 6) (.tmp 11) rfl (w.heap.size + 3) (scrA s' (.slice a1 n1 c1) (.slice a2 n2 c2') (.slice a3 n3 c3)) rfl rfl _ _ HR.out (by kernel_rfl) rfl (scr_one _ _ _ _ _ _ _ _ _ _) ?_)
  (try simp only [Exit.inBlock, Exit.then])
  refine bodyPost_ret (v := .tuple #[.agg (scrA s' (.slice a1 n1 c1) (.slice a2 n2 c2') (.slice a3 n3 c3)), .int .i64 er]) ?_ rfl ⟨_, _, _, rfl, ?_, below_setRow HB.out (by omega) _⟩
  · exact Grd.results_row_tmp rfl _ _ (w.heap.size + 3) _ _ _ _ rfl (setRow_heap _ _ _ _ _ _ HR.out) Tryd.underlying32 rfl (by kernel_rfl) _ rfl
  · exact (ScrO.off HO.out HR.out screen_is (by omega) fun k hk => setRow_other _ _ _ _ hk).mono hsz
end Put
end Go.Proofs.YtfdookpjhbjndaaDoor

/- Package move: what its calls make of a screen. -/
namespace Go.Proofs.YtfdookpjhbjndaaDoor
open Go.ChangeShapes Go.WideShapes Go.ChangeAt Go.RowKit
namespace Put
open Grd (C SliceAt CellsAt gridErr z0 nilV flat rowsL)
/-- A screen that came in, where it lies. -/
structure Came (w0 w : World) (s : Scr) (cv tv gv : Value) : Prop where
  t : Txt.Tab w
  v : ScrV w0 s cv tv gv
  b : Below w0.heap.size w0 w
  f : Fits s
theorem Came.next {w0 w W : World} {s : Scr} {cv tv gv : Value} (h : Came w0 w s cv tv gv) (hb : Below w.heap.size w W) : Came w0 W s cv tv gv := ⟨Grd.Tab.next h.t hb, h.v, h.b.trans (hb.mono h.b.size), h.f⟩
theorem mchange_bad {w0 w : World} {s : Scr} {cv tv gv : Value} (h : Came w0 w s cv tv gv) (hz : scrErr s ≠ 0) (df : FuncId) (caps : Array Value) : Calls Tryd.prog 53 #[.agg (scrA s cv tv gv), .func (.func df) #[] caps] w (Made w0 w zScr (scrErr s)) :=
  mchange_any s zScr cv tv gv df caps w0 w h.t h.v h.b h.f fun W _ => made_bad s cv tv gv (scrErr s) hz _ w0 W h.v
/-- What a closure makes of a right screen. -/
def Makes (df : FuncId) (caps : Array Value) (w0 w : World) (n hh : Nat) (s s' : Scr) (rows' : List (List C)) : Prop := ∀ w1, Below w.heap.size w w1 → Does df caps w0.heap.size w1 s s' (rowsL n s.cs hh) rows'
theorem mchange_good {w0 w : World} {s s' : Scr} {cv tv gv : Value} {n hh : Nat} (h : Came w0 w s cv tv gv) (hz : scrErr s = 0) (hR : RightS s n hh) (df : FuncId) (hpl : Plain df) (caps : Array Value) (rows' : List (List C)) (cs' : List C) (hM : Makes df caps w0 w n hh s s' rows') (hO : RowsOk s' rows') (hcs : rows'.flatten = cs') :
    Calls Tryd.prog 53 #[.agg (scrA s cv tv gv), .func (.func df) #[] caps] w (Made w0 w { s' with cs := cs' } (scrErr s)) :=
  mchange_any s _ cv tv gv df caps w0 w h.t h.v h.b h.f fun W hW => by
    rw [hz]
    exact change_good n hh s s' rows' cv tv gv df hpl caps w0 W h.v (h.b.trans (hW.mono h.b.size)) h.f hR.w hR.h hR.gz (fun w1 hw1 => hM w1 (hW.trans (hw1.mono hW.size))) hO cs' hcs
theorem plain_moved : Plain 54 := by
  intro args W
  kernel_rfl
theorem moved_bad {w0 w : World} {s : Scr} {cv tv gv : Value} (h : Came w0 w s cv tv gv) (hz : scrErr s ≠ 0) (tf : FuncId) (tcaps : Array Value) : Calls Tryd.prog 25 #[.agg (scrA s cv tv gv), .func (.func tf) #[] tcaps] w (Made w0 w zScr (scrErr s)) :=
  moved_calls s zScr cv tv gv tf tcaps (scrErr s) w0 w h.v h.b.size fun _ _ hW _ => mchange_bad (h.next hW) hz _ _
theorem moved_good {w0 w : World} {s s1 : Scr} {cv tv gv : Value} {n hh : Nat} (h : Came w0 w s cv tv gv) (hz : scrErr s = 0) (hR : RightS s n hh) (tf : FuncId) (hpl : Plain tf) (tcaps : Array Value)
    (hM : ∀ w1, Below w.heap.size w w1 → Does tf tcaps w0.heap.size w1 (onTime s) s1 (rowsL n s.cs hh) (rowsL n s.cs hh)) (hw : s1.w = s.w) (hh' : s1.h = s.h) (hg : s1.gone = s.gone) :
    Calls Tryd.prog 25 #[.agg (scrA s cv tv gv), .func (.func tf) #[] tcaps] w (Made w0 w { heldScr s1 with cs := s.cs } 0) := by
  have n1 := hR.n1
  have n2 := hR.n2
  have h1 := hR.h1
  have h2 := hR.h2
  have ew := hR.w
  have eh := hR.h
  rw [← hz]
  exact moved_calls s _ cv tv gv tf tcaps (scrErr s) w0 w h.v h.b.size fun W B hW hB => mchange_good (h.next hW) hz hR _ plain_moved _ (rowsL n s.cs hh) s.cs (fun w1 hw1 => moved_does tf hpl tcaps B _ w1 s s1 _ _ (cell_stay hw1 hB) (hM w1 (hW.trans (hw1.mono hW.size))) (by omega) (by omega) (by omega) (by omega)) (hR.rows hg) hR.flatten
end Put
end Go.Proofs.YtfdookpjhbjndaaDoor

/- move.Left's closure. -/
namespace Go.Proofs.YtfdookpjhbjndaaDoor
open Go.ChangeShapes Go.WideShapes Go.ChangeAt Go.RowKit
namespace Put
open Grd (C)
set_option maxHeartbeats 2000000 in
theorem left_does (n : Int) (B M : Nat) (w : World) (s : Scr) (rows : List (List C)) (hB : w.cell? ⟨B, 0, none⟩ = some (.int .i64 n)) (h0 : 0 ≤ s.x) (h1 : s.x ≤ 120) :
    Does 28 #[.pointer (some ⟨B, 0, none⟩)] M w s { s with x := s.x - cnt n } rows rows := by
  intro W p hb hS
  have hc := cnt_range n
  obtain ⟨c0, c1, c3, c4, c5, c9, c10, c11, c19, f⟩ := hS.words
  have f3 := f 3
  have q0 := cell_stay hb hB
  have HE : Hid (∀ v', v' = Value.int .i64 (s.x - cnt n) → ShAt 59 (W.setCell ⟨p, 3, none⟩ v').drew M w.heap.size p { s with x := s.x - cnt n } rows ∧ Below w.heap.size W (W.setCell ⟨p, 3, none⟩ v').drew) := hS.fin sheet_is 3 _ (fun _ _ _ _ => rfl) rfl rfl
  have HC : Hid (∀ W, Calls Tryd.prog 27 #[.int .i64 n] W fun e w' => e = .returned (.int .i64 (cnt n)) ∧ W = w') := fun W => counted_any n W
  clear hS hb hB c0 c1 c4 c5 c9 c10 c11 c19 f
  generalize cnt n = k at *
  go_enter Tryd.func28, Tryd.ntmps28
  go_upto_region 0 with fail
  go_region_with (first | (go_at_call 27; refine (HC.out _).mono ?_; rintro e V ⟨rfl, hv⟩; subst hv))
  all_goals go_end0
  all_goals exact ⟨rfl, HE.out _ (int_wrap _ (by omega) (by omega))⟩
end Put
end Go.Proofs.YtfdookpjhbjndaaDoor

/- move.Right's closure. -/
namespace Go.Proofs.YtfdookpjhbjndaaDoor
open Go.ChangeShapes Go.WideShapes Go.ChangeAt Go.RowKit
namespace Put
open Grd (C)
set_option maxHeartbeats 2000000 in
theorem right_does (n : Int) (B M : Nat) (w : World) (s : Scr) (rows : List (List C)) (hB : w.cell? ⟨B, 0, none⟩ = some (.int .i64 n)) (h0 : 0 ≤ s.x) (h1 : s.x ≤ 120) :
    Does 26 #[.pointer (some ⟨B, 0, none⟩)] M w s { s with x := s.x + cnt n } rows rows := by
  intro W p hb hS
  have hc := cnt_range n
  obtain ⟨c0, c1, c3, c4, c5, c9, c10, c11, c19, f⟩ := hS.words
  have f3 := f 3
  have q0 := cell_stay hb hB
  have HE : Hid (∀ v', v' = Value.int .i64 (s.x + cnt n) → ShAt 59 (W.setCell ⟨p, 3, none⟩ v').drew M w.heap.size p { s with x := s.x + cnt n } rows ∧ Below w.heap.size W (W.setCell ⟨p, 3, none⟩ v').drew) := hS.fin sheet_is 3 _ (fun _ _ _ _ => rfl) rfl rfl
  have HC : Hid (∀ W, Calls Tryd.prog 27 #[.int .i64 n] W fun e w' => e = .returned (.int .i64 (cnt n)) ∧ W = w') := fun W => counted_any n W
  clear hS hb hB c0 c1 c4 c5 c9 c10 c11 c19 f
  generalize cnt n = k at *
  go_enter Tryd.func26, Tryd.ntmps26
  go_upto_region 0 with fail
  go_region_with (first | (go_at_call 27; refine (HC.out _).mono ?_; rintro e V ⟨rfl, hv⟩; subst hv))
  all_goals go_end0
  all_goals exact ⟨rfl, HE.out _ (int_wrap _ (by omega) (by omega))⟩
end Put
end Go.Proofs.YtfdookpjhbjndaaDoor

/- toRow, toColumn; move.To's closure. -/
namespace Go.Proofs.YtfdookpjhbjndaaDoor
open Go.ChangeShapes Go.WideShapes Go.ChangeAt Go.RowKit
namespace Put
open Grd (C)
theorem toColumn_any {M N p : Nat} {s : Scr} {rows : List (List C)} (n : Int) (W : World) (hS : ShAt 59 W M N p s rows) : Calls Tryd.prog 31 #[.pointer (some ⟨p, 0, none⟩), .int .i64 n] W fun e W' => e = .returned (.tuple #[]) ∧ ShAt 59 W' M N p { s with x := cnt n - 1 } rows ∧ Below N W W' := by
  obtain ⟨c0, c1, c3, c4, c5, c9, c10, c11, c19, f⟩ := hS.words
  have f3 := f 3
  have hc := cnt_range n
  have H1 := counted_any n W
  have HE : Hid (ShAt 59 (W.setCell ⟨p, 3, none⟩ (.int .i64 (cnt n - 1))) M N p { s with x := cnt n - 1 } rows ∧ Below N W (W.setCell ⟨p, 3, none⟩ (.int .i64 (cnt n - 1)))) := ⟨hS.set sheet_is 3 _ (fun _ _ _ _ => rfl) rfl rfl, (Below.refl _ _).setCell hS.lo _⟩
  clear c0 c1 c4 c5 c9 c10 c11 c19 f hS
  generalize cnt n = k at *
  go_enter Tryd.func31, Tryd.ntmps31
  go_wp2_with fail
  refine H1.mono ?_
  rintro e V ⟨rfl, hv⟩
  subst hv
  go_wp2_with fail
  go_end0
  exact ⟨rfl, HE.out⟩
/-- The row that a number tells. -/
def rowTo (s : Scr) (n : Int) : Int := if hasB s.modes 2 then min (s.top + (cnt n - 1)) s.bot else cnt n - 1
set_option maxHeartbeats 2000000 in
theorem toRow_any {M N p : Nat} {s : Scr} {rows : List (List C)} (n : Int) (W : World) (hS : ShAt 59 W M N p s rows) (h0 : 0 ≤ s.top) (h1 : s.top ≤ 60) : Calls Tryd.prog 30 #[.pointer (some ⟨p, 0, none⟩), .int .i64 n] W fun e W' => e = .returned (.tuple #[]) ∧ ShAt 59 W' M N p { s with y := rowTo s n } rows ∧ Below N W W' := by
  obtain ⟨c0, c1, c3, c4, c5, c9, c10, c11, c19, f⟩ := hS.words
  have f4 := f 4
  have hc := cnt_range n
  have H1 := counted_any n W
  have hS1 : ShAt 59 (W.setCell ⟨p, 4, none⟩ (.int .i64 (cnt n - 1))) M N p { s with y := cnt n - 1 } rows := hS.set sheet_is 4 _ (fun _ _ _ _ => rfl) rfl rfl
  have hB1 : Below N W (W.setCell ⟨p, 4, none⟩ (.int .i64 (cnt n - 1))) := (Below.refl _ _).setCell hS.lo _
  have H2 := has_any 2 _ hS1
  have HR : Hid (rowTo s n = if hasB s.modes 2 then min (s.top + (cnt n - 1)) s.bot else cnt n - 1) := rfl
  have hlo := hS.lo
  clear c0 c1 c5 c9 c10 c11 c19 f hS
  generalize rowTo s n = rt at *
  generalize cnt n = k at *
  cases hb : hasB s.modes 2 with
  | false =>
    rw [hb] at H2 HR
    go_enter Tryd.func30, Tryd.ntmps30
    go_wp2_with fail
    refine H1.mono ?_
    rintro e V ⟨rfl, hv⟩
    subst hv
    go_wp2_with fail
    refine H2.mono ?_
    rintro e V ⟨rfl, hv⟩
    subst hv
    go_wp2_with fail
    go_end0
    refine ⟨rfl, ?_, hB1⟩
    rw [HR.out]
    exact hS1
  | true =>
    rw [hb] at H2
    rw [hb] at HR
    have hmin := Grd.min2 (s.top + (k - 1)) s.bot
    have HS1 : Hid (ShAt 59 (W.setCell ⟨p, 4, none⟩ (.int .i64 (k - 1))) M N p { s with y := k - 1 } rows) := hS1
    have HB1 : Hid (Below N W (W.setCell ⟨p, 4, none⟩ (.int .i64 (k - 1)))) := hB1
    have HE : Hid (∀ v', v' = Value.int .i64 (min (s.top + (k - 1)) s.bot) → ShAt 59 ((W.setCell ⟨p, 4, none⟩ (.int .i64 (k - 1))).setCell ⟨p, 4, none⟩ v').drew M N p { s with y := min (s.top + (k - 1)) s.bot } rows ∧ Below N (W.setCell ⟨p, 4, none⟩ (.int .i64 (k - 1))) ((W.setCell ⟨p, 4, none⟩ (.int .i64 (k - 1))).setCell ⟨p, 4, none⟩ v').drew) := hS1.fin sheet_is 4 _ (fun _ _ _ _ => rfl) rfl rfl
    clear hS1 hB1
    go_enter Tryd.func30, Tryd.ntmps30
    go_wp2_with fail
    refine H1.mono ?_
    rintro e V ⟨rfl, hv⟩
    subst hv
    go_wp2_with fail
    refine H2.mono ?_
    rintro e V ⟨rfl, hv⟩
    subst hv
    go_upto_region 2 with fail
    obtain ⟨c0, c1, c3, d4, c5, c9, c10, c11, c19, f⟩ := HS1.out.words
    have g4 := f 4
    clear c0 c1 c3 c5 c11 c19 f c4 f4
    have hsum : IntKind.i64.wrap (s.top + (k - 1)) = s.top + (k - 1) := wrap_id _ (by omega) (by omega)
    generalize (W.setCell ⟨p, 4, none⟩ (.int .i64 (k - 1))) = X at *
    go_region
    all_goals go_end0
    all_goals refine ⟨rfl, ?_⟩
    all_goals rw [HR.out, if_pos trivial]
    all_goals exact ⟨(HE.out _ rfl).1, HB1.out.trans (HE.out _ rfl).2⟩
theorem to_does (a b : Int) (B1 B2 M : Nat) (w : World) (s : Scr) (rows : List (List C)) (hB1 : w.cell? ⟨B1, 0, none⟩ = some (.int .i64 a)) (hB2 : w.cell? ⟨B2, 0, none⟩ = some (.int .i64 b)) (h0 : 0 ≤ s.top) (h1 : s.top ≤ 60) :
    Does 29 #[.pointer (some ⟨B1, 0, none⟩), .pointer (some ⟨B2, 0, none⟩)] M w s { s with y := rowTo s a, x := cnt b - 1 } rows rows := by
  intro W p hb hS
  have q1 := cell_stay hb hB1
  have q2 : ∀ W', Below w.heap.size W W' → W'.cell? ⟨B2, 0, none⟩ = some (.int .i64 b) := fun W' h => cell_stay (hb.trans h) hB2
  have H1 := toRow_any a W hS h0 h1
  clear hS hB1 hB2
  go_enter Tryd.func29, Tryd.ntmps29
  go_wp2_with fail
  refine H1.mono ?_
  rintro e W1 ⟨rfl, hS1, b1⟩
  have q3 := q2 W1 b1
  have H2 := toColumn_any b W1 hS1
  clear q1 q2 hS1 H1
  go_wp2_with fail
  refine H2.mono ?_
  rintro e W2 ⟨rfl, hS2, b2⟩
  go_wp2_with fail
  go_end0
  exact ⟨rfl, hS2, b1.trans b2⟩
end Put
end Go.Proofs.YtfdookpjhbjndaaDoor

/- Package move: each call, of a right screen. -/
namespace Go.Proofs.YtfdookpjhbjndaaDoor
open Go.ChangeShapes Go.WideShapes Go.ChangeAt Go.RowKit
namespace Put
open Grd (C SliceAt CellsAt gridErr z0 nilV flat rowsL)
open Txt (wd)
/-- A screen whose cursor went somewhere, held within it. -/
def movedS (s : Scr) (x y : Int) : Scr := { s with late := false, x := withinI x 0 (s.w - 1), y := withinI y 0 (s.h - 1) }
theorem right_err {s : Scr} {n hh : Nat} (h : RightS s n hh) : scrErr s = 0 := by
  have hz := h.gz
  rw [← h.w, ← h.h] at hz
  have hp : placeOk s = true := by
    have := h.w
    have := h.h
    have := h.x0
    have := h.x1
    have := h.y0
    have := h.y1
    have := h.kx0
    have := h.kx1
    have := h.ky0
    have := h.ky1
    have := h.t0
    have := h.t1
    have := h.t2
    have := h.t3
    simp only [placeOk, hasC, regionOk, Bool.and_eq_true, Bool.or_eq_true, decide_eq_true_eq]
    omega
  have hr : restOk s = true := by
    simp only [restOk, Bool.and_eq_true, Bool.or_eq_true, Bool.not_eq_true', decide_eq_true_eq, decide_eq_false_iff_not]
    exact ⟨by rw [h.w, h.tl], h.la, h.ti⟩
  have hg : goneErr s.gone = 0 := by
    unfold goneErr
    rw [if_neg (by have := h.gl; omega)]
    have hb : goneBad s.gone = false := by
      unfold goneBad
      rw [List.any_eq_false]
      intro row hrow
      simp [h.gr row hrow]
    rw [hb]
    rfl
  unfold scrErr
  rw [if_neg (by rw [hz]; simp), if_neg (by rw [hp]; simp), if_neg (by rw [h.late]; simp), if_neg (by rw [h.looks]; simp), if_neg (by rw [hr]; simp), hg]
theorem moved_right {s : Scr} {n hh : Nat} (h : RightS s n hh) (x y : Int) : RightS (movedS s x y) n hh := by
  have n1 := h.n1
  have h1 := h.h1
  have ew := h.w
  have eh := h.h
  have hx : 0 ≤ withinI x 0 (s.w - 1) ∧ withinI x 0 (s.w - 1) < n := by unfold withinI; omega
  have hy : 0 ≤ withinI y 0 (s.h - 1) ∧ withinI y 0 (s.h - 1) < hh := by unfold withinI; omega
  exact ⟨h.w, h.h, h.n1, h.n2, h.h1, h.h2, h.cl, h.gz, hx.1, hx.2, hy.1, hy.2, h.kx0, h.kx1, h.ky0, h.ky1, h.t0, h.t1, h.t2, h.t3, rfl, h.looks, h.tl, h.la, h.ti, h.gl, h.gr⟩
theorem moved_fits {s : Scr} (h : Fits s) (x y : Int) : Fits (movedS s x y) := ⟨h.m0, h.m1, h.k0, h.k1, h.tl, h.gl, h.bl⟩
theorem plain_right : Plain 26 := by
  intro args W
  kernel_rfl
theorem right_any {w0 w : World} {s : Scr} {cv tv gv : Value} {n hh : Nat} (h : Came w0 w s cv tv gv) (hR : RightS s n hh) (k : Int) : Calls Tryd.prog 7 #[.agg (scrA s cv tv gv), .int .i64 k] w (Made w0 w (movedS s (s.x + cnt k) s.y) 0) := by
  have h1 := hR.x0
  have h2 := hR.x1
  have h3 := hR.n2
  exact right_calls s _ cv tv gv k 0 w0 w h.v h.b.size fun W B hW hB => moved_good (h.next hW) (right_err hR) hR _ plain_right _ (fun w1 hw1 => right_does k B _ w1 (onTime s) _ (cell_stay hw1 hB) h1 (by show s.x ≤ 120; omega)) rfl rfl rfl
theorem plain_left : Plain 28 := by
  intro args W
  kernel_rfl
theorem left_any {w0 w : World} {s : Scr} {cv tv gv : Value} {n hh : Nat} (h : Came w0 w s cv tv gv) (hR : RightS s n hh) (k : Int) : Calls Tryd.prog 8 #[.agg (scrA s cv tv gv), .int .i64 k] w (Made w0 w (movedS s (s.x - cnt k) s.y) 0) := by
  have h1 := hR.x0
  have h2 := hR.x1
  have h3 := hR.n2
  exact left_calls s _ cv tv gv k 0 w0 w h.v h.b.size fun W B hW hB => moved_good (h.next hW) (right_err hR) hR _ plain_left _ (fun w1 hw1 => left_does k B _ w1 (onTime s) _ (cell_stay hw1 hB) h1 (by show s.x ≤ 120; omega)) rfl rfl rfl
theorem plain_to : Plain 29 := by
  intro args W
  kernel_rfl
theorem to_any {w0 w : World} {s : Scr} {cv tv gv : Value} {n hh : Nat} (h : Came w0 w s cv tv gv) (hR : RightS s n hh) (a b : Int) : Calls Tryd.prog 9 #[.agg (scrA s cv tv gv), .int .i64 a, .int .i64 b] w (Made w0 w (movedS s (cnt b - 1) (rowTo s a)) 0) := by
  have h1 := hR.t0
  have h2 := hR.t1
  have h3 := hR.t2
  have h4 := hR.h2
  exact to_calls s _ cv tv gv a b 0 w0 w h.v h.b.size fun W B1 B2 hW hB1 hB2 => moved_good (h.next hW) (right_err hR) hR _ plain_to _ (fun w1 hw1 => to_does a b B1 B2 _ w1 (onTime s) _ (cell_stay hw1 hB1) (cell_stay hw1 hB2) h1 (by show s.top ≤ 60; omega)) rfl rfl rfl
end Put
end Go.Proofs.YtfdookpjhbjndaaDoor

/- (*sheet.Sheet).alter: a row is made anew. -/
namespace Go.Proofs.YtfdookpjhbjndaaDoor
open Go.ChangeShapes Go.WideShapes Go.ChangeAt Go.RowKit
namespace Put
open Grd (C SliceAt CellsAt gridErr z0 nilV flat rowsL OwnG RowB)
/-- Blocks of other types than those that a sheet writes to are kept. -/
def Other (t : TypeId) : Prop := t ≠ 59 ∧ t ≠ 4 ∧ t ≠ 22
def OtherO (o : Obj) : Prop := ∀ (A : Array Value) (t : TypeId) (f : Nat × Nat), o = .cells A t f → Other t
def Framed (W W' : World) : Prop := ∀ (k : Nat) (o : Obj), W.heap[k]? = some o → OtherO o → W'.heap[k]? = some o
theorem Framed.refl (W : World) : Framed W W := fun _ _ h _ => h
theorem Framed.trans {a b c : World} (h : Framed a b) (k : Framed b c) : Framed a c := fun i o hi ho => k i o (h i o hi ho) ho
theorem Framed.of_below {W W' : World} (h : Below W.heap.size W W') : Framed W W' := fun k _ hk _ => (h.block k (heap_lt hk)).trans hk
theorem Framed.store {W : World} {p i : Nat} {v : Value} {A : Array Value} {t : TypeId} (hp : W.heap[p]? = some (.cells A t (0, 0))) (ht : ¬ Other t) : Framed W (W.setCell ⟨p, i, none⟩ v) := fun k o hk ho => by
  have hne : k ≠ p := by
    intro e
    rw [e, hp] at hk
    injection hk with hk
    exact ht (ho A t (0, 0) hk.symm)
  exact (store_off hne).trans hk
theorem other_cells {A : Array Value} {t : TypeId} {f : Nat × Nat} (h : Other t) : OtherO (.cells A t f) := fun B u g e => by
  injection e with _ e _
  rw [← e]
  exact h
theorem not_other_sheet : ¬ Other 59 := fun h => h.1 rfl
theorem not_other_rows : ¬ Other 22 := fun h => h.2.2 rfl
theorem not_other_bool : ¬ Other 4 := fun h => h.2.1 rfl
theorem Framed.cell {W W' : World} (h : Framed W W') {k i : Nat} {A : Array Value} {t : TypeId} (hk : W.heap[k]? = some (.cells A t (0, 0))) (ho : Other t) : W'.cell? ⟨k, i, none⟩ = W.cell? ⟨k, i, none⟩ := by
  have h1 := h k _ hk (other_cells ho)
  simp only [World.cell?, h1, hk]
/-- What a sheet is behind a call that changes it. -/
def Ran (W : World) (M N p : Nat) (s' : Scr) (rows' : List (List C)) (e : Ending) (W' : World) : Prop := e = .returned (.tuple #[]) ∧ ShAt 59 W' M N p s' rows' ∧ Below N W W' ∧ Framed W W'
theorem own_rowB {W : World} {base : Nat} {v : Value} {row : List C} (h : OwnG W base v row) : ∃ g, base ≤ g ∧ RowB W g v row := by
  obtain ⟨g, cap, rest, ⟨t, rfl⟩, hv, hg, h1, h2, h3⟩ := h
  exact ⟨g, hg, cap, rest, hv, h1, h2, h3⟩
theorem ShA.storeRow {V : World} {M N p : Nat} {s : Scr} {rows : List (List C)} {cv tv gv rv : Value} {gvs vs : List Value} (h : ShA 59 V M N p s rows cv tv gv rv gvs vs) {rb rc y : Nat} (hrv : rv = .slice (some ⟨rb, 0, none⟩) rows.length rc) {v : Value} {row' : List C} (hr : RowIn V M v row') : ShA 59 (V.setCell ⟨rb, y, none⟩ v) M N p s (rows.set y row') cv tv gv rv gvs (vs.set y v) := by
  obtain ⟨hlo, A, f, hA⟩ := owns_block h.rws rb (by rw [hrv]; rfl)
  have hA0 : ∃ A, V.heap[rb]? = some (.cells A 22 (0, 0)) := by
    have h1 := h.rws
    rw [hrv] at h1
    obtain ⟨-, ⟨h1, -⟩ | ⟨g', cap, cur, hv, -, hh, -⟩⟩ := h1
    · injection h1 with h1
      cases h1
    · injection hv with hv1 _ _
      injection hv1 with hv1
      injection hv1 with hv1
      subst hv1
      exact ⟨cur, hh⟩
  obtain ⟨B, hB⟩ := hA0
  have hne : p ≠ rb := by
    intro e
    rw [← e, h.blk] at hB
    injection hB with hB
    injection hB with _ hB _
    exact absurd hB (by decide)
  have hK : Kept M V (V.setCell ⟨rb, y, none⟩ v) := Kept.store hB (by decide) (Nat.le_trans h.ml hlo)
  refine ⟨(store_off hne).trans h.blk, h.lo, h.ml, h.cvs, own_off h.tabs hB (by decide), owns_kept h.gone fun g hg => store_off fun e => h.two rb (by rw [hrv]; rfl) (by rw [hg, e]), h.gin.keep hK, ?_, (h.rin.set y v row' hr).keep hK, h.two⟩
  have h1 := h.rws
  rw [hrv] at h1 ⊢
  rw [List.length_set]
  exact own_set h1
/-- What a function makes of a row that is handed to it as a grid. -/
def Alters (hf : FuncId) (caps : Array Value) (M : Nat) (W : World) (n : Int) (v : Value) (row' : List C) : Prop :=
  ∀ W1, Below W.heap.size W W1 → Calls Tryd.prog hf (#[.agg #[.int .i64 n, .int .i64 1, v]] ++ caps) W1 fun e W2 => ∃ a c, e = .returned (.agg #[.int .i64 n, .int .i64 1, .slice a row'.length c]) ∧ RowIn W2 M (.slice a row'.length c) row' ∧ Below W1.heap.size W1 W2
theorem field_cells (n : Int) (q : Option Addr) (l k : Nat) (W : World) : (Instr.field 24 (.agg #[.int .i64 n, .int .i64 1, .slice q l k]) 2).run Tryd.prog W = .ok (.slice q l k) W := by kernel_rfl
set_option maxHeartbeats 4000000 in
set_option maxRecDepth 100000 in
theorem alter_any (W : World) (M N p : Nat) (s : Scr) (rows : List (List C)) (cv tv gv rv : Value) (gvs vs : List Value) (hS : ShA 59 W M N p s rows cv tv gv rv gvs vs) (y : Nat) (hy : y < rows.length) (hf : FuncId) (hpl : Plain hf) (caps : Array Value) (row' : List C) (hA : Alters hf caps M W s.w (vs.getD y nilV) row') :
    Calls Tryd.prog 72 #[.pointer (some ⟨p, 0, none⟩), .int .i64 (y : Int), .func (.func hf) #[] caps] W (Ran W M N p s (rows.set y row')) := by
  obtain ⟨rb, rc, hrv, hrb, hrc1, hrc2, hvl, hrcell, A, hrA⟩ := own_cells hS.rws (by omega)
  obtain ⟨va, vc, hsh⟩ := (hS.rin.2 y hy).shape
  have hfd := field_cells s.w
  have hyI : (0 : Int) ≤ (y : Int) := by omega
  have hyI2 : (y : Int) < (rows.length : Int) := by omega
  have d1 := hrcell y hy
  have HW : Hid (ShA 59 W M N p s rows cv tv gv rv gvs vs) := hS
  obtain ⟨⟨c0, -⟩, ⟨-, -, -, -, -, -, -, -, -, -, -, c22⟩, -⟩ := sh_cells hS.blk
  rw [hrv] at c22
  rw [hsh] at d1 hA
  have HA : Hid (Alters hf caps M W s.w (.slice va (rows.getD y []).length vc) row') := hA
  have hne : rb ≠ p := by
    intro e
    rw [e, hS.blk] at hrA
    injection hrA with hrA
    injection hrA with _ hrA _
    exact absurd hrA (by decide)
  have HRA : Hid (W.heap[rb]? = some (.cells A 22 (0, 0))) := hrA
  have HRV : Hid (rv = .slice (some ⟨rb, 0, none⟩) rows.length rc) := hrv
  have hlo := hS.lo
  have hml := hS.ml
  unfold Plain at hpl
  obtain ⟨row, hrow⟩ : ∃ row, row = rows.getD y [] := ⟨_, rfl⟩
  rw [← hrow] at d1 HA
  have hpl' := heap_lt hS.blk
  have hWb : W.heap.size ≠ rb := by have := heap_lt hrA; omega
  have hrl' := heap_lt hrA
  clear hS hA hrA hrcell hsh hrow hrv
  go_enter Tryd.func72, Tryd.ntmps72
  go_upto_region 0 with fail
  go_region
  have bX : Below W.heap.size W (W.alloc (.cells #[.int .i64 s.w, .int .i64 1, .slice va row.length vc] 24)).drew := ((Below.refl _ _).alloc (Nat.le_refl _) _).drew
  have xX : (W.alloc (.cells #[.int .i64 s.w, .int .i64 1, .slice va row.length vc] 24)).drew.heap[W.heap.size]? = some (.cells #[.int .i64 s.w, .int .i64 1, .slice va row.length vc] 24 (0, 0)) := heap_alloc_new W _
  have HBX : Hid _ := bX
  have HXX : Hid _ := xX
  have k22 := cell_stay bX c22
  have kd := cell_stay bX d1
  obtain ⟨g0, g1, g2, -⟩ := Grd.cells3 xX
  clear c0 c22 d1 bX xX
  generalize (W.alloc (.cells #[.int .i64 s.w, .int .i64 1, .slice va row.length vc] 24)).drew = X at *
  go_wp2_with fail
  have e0 : (fun w' => w'.cell? ⟨p, 22, none⟩ = some (.slice (some ⟨rb, 0, none⟩) rows.length rc) ∧ w'.cell? ⟨W.heap.size, 0, none⟩ = some (.int .i64 s.w) ∧ w'.cell? ⟨W.heap.size, 1, none⟩ = some (.int .i64 1) ∧ w'.cell? ⟨W.heap.size, 2, none⟩ = some (.slice va row.length vc)) X.drew := ⟨k22, g0, g1, g2⟩
  go_region_held3 (fun w' => w'.cell? ⟨p, 22, none⟩ = some (.slice (some ⟨rb, 0, none⟩) rows.length rc) ∧ w'.cell? ⟨W.heap.size, 0, none⟩ = some (.int .i64 s.w) ∧ w'.cell? ⟨W.heap.size, 1, none⟩ = some (.int .i64 1) ∧ w'.cell? ⟨W.heap.size, 2, none⟩ = some (.slice va row.length vc))
    (first | exact e2 | exact e1 | exact e0)
    (first | (refine (HA.out X.drew (HBX.out.drew)).mono ?_; rintro e V ⟨na, nc, rfl, hri, b1⟩; have e1 : (fun w' => w'.cell? ⟨p, 22, none⟩ = some (.slice (some ⟨rb, 0, none⟩) rows.length rc) ∧ w'.cell? ⟨W.heap.size, 0, none⟩ = some (.int .i64 s.w) ∧ w'.cell? ⟨W.heap.size, 1, none⟩ = some (.int .i64 1) ∧ w'.cell? ⟨W.heap.size, 2, none⟩ = some (.slice va row.length vc)) V := ⟨cell_stay b1 k22, cell_stay b1 g0, cell_stay b1 g1, cell_stay b1 g2⟩; have bV : Below W.heap.size W V := (HBX.out.drew).trans (b1.mono HBX.out.size); have hV := Grd.carry HRA.out bV; have d2 := cell_stay b1 kd; have fz : V.frozen? ⟨rb, y, none⟩ = false := frozen_cells hV y; have e2 : (fun w' => w'.cell? ⟨p, 22, none⟩ = some (.slice (some ⟨rb, 0, none⟩) rows.length rc) ∧ w'.cell? ⟨W.heap.size, 0, none⟩ = some (.int .i64 s.w) ∧ w'.cell? ⟨W.heap.size, 1, none⟩ = some (.int .i64 1) ∧ w'.cell? ⟨W.heap.size, 2, none⟩ = some (.slice va row.length vc)) (V.setCell ⟨rb, y, none⟩ (.slice na row'.length nc)) := ⟨(cell_store_off hne.symm).trans e1.1, (cell_store_off hWb).trans e1.2.1, (cell_store_off hWb).trans e1.2.2.1, (cell_store_off hWb).trans e1.2.2.2⟩; have HRI : Hid (RowIn V M (.slice na row'.length nc) row') := hri; have HBV : Hid (Below W.heap.size W V) := bV; clear hri b1 bV hV))
  go_end0
  exact ⟨rfl, ⟨_, _, _, _, _, _, (HW.out.next HBV.out).storeRow HRV.out HRI.out⟩, (HBV.out.mono (by omega)).setCell hrb _, (Framed.of_below HBV.out).trans (Framed.store (Grd.carry HRA.out HBV.out) not_other_rows)⟩
end Put
end Go.Proofs.YtfdookpjhbjndaaDoor

/- advance; (*sheet.Sheet).Feed. -/
namespace Go.Proofs.YtfdookpjhbjndaaDoor
open Go.ChangeShapes Go.WideShapes Go.ChangeAt Go.RowKit
namespace Put
open Grd (C)
theorem ShAt.framed {W : World} {M N p i : Nat} {s : Scr} {rows : List (List C)} {v : Value} (h : ShAt 59 W M N p s rows) : Framed W (W.setCell ⟨p, i, none⟩ v) := by
  obtain ⟨cv, tv, gv, rv, gvs, vs, h⟩ := h
  exact Framed.store h.blk not_other_sheet
theorem ShAt.put {W : World} {M N p : Nat} {s s' : Scr} {rows : List (List C)} (h : ShAt 59 W M N p s rows) (i : Nat) (v : Value) (e : ∀ cv tv gv rv, (shA s cv tv gv rv).setIfInBounds i v = shA s' cv tv gv rv) (h1 : s'.tabs = s.tabs) (h2 : s'.gone = s.gone) : ShAt 59 (W.setCell ⟨p, i, none⟩ v) M N p s' rows ∧ Below N W (W.setCell ⟨p, i, none⟩ v) ∧ Framed W (W.setCell ⟨p, i, none⟩ v) := ⟨h.set sheet_is i v e h1 h2, (Below.refl _ _).setCell h.lo _, h.framed⟩
/-- Behind what was written. -/
def advS (s : Scr) (k : Int) : Scr := if s.x + k = s.w then { s with x := s.w - 1, late := hasB s.modes 4 } else { s with x := s.x + k }
set_option maxHeartbeats 2000000 in
theorem advance_any (W : World) (M N p : Nat) (s : Scr) (rows : List (List C)) (k : Int) (hS : ShAt 59 W M N p s rows) (h0 : 0 ≤ s.x) (h1 : s.x ≤ 120) (h2 : 0 ≤ k) (h3 : k ≤ 2) (w1 : 1 ≤ s.w) (w2 : s.w ≤ 120) :
    Calls Tryd.prog 68 #[.pointer (some ⟨p, 0, none⟩), .int .i64 k] W (Ran W M N p (advS s k) rows) := by
  obtain ⟨c0, c1, c3, c4, c5, c9, c10, c11, c19, f⟩ := hS.words
  have f3 := f 3
  obtain ⟨hS1, hB1, hF1⟩ := hS.put 3 (.int .i64 (s.x + k)) (s' := { s with x := s.x + k }) (fun _ _ _ _ => rfl) rfl rfl
  have HE : Hid (advS s k = if s.x + k = s.w then { s with x := s.w - 1, late := hasB s.modes 4 } else { s with x := s.x + k }) := rfl
  generalize advS s k = s' at *
  by_cases heq : s.x + k = s.w
  · have HE2 : Hid (s' = { s with x := s.w - 1, late := hasB s.modes 4 }) := by unfold Hid; rw [HE.out, if_pos heq]
    have hq : (s.x + k == s.w) = true := by rw [beq_iff_eq]; exact heq
    have HQ : Hid (s.x + k = s.w) := heq
    clear heq c1 c4 c5 c9 c10 c11 c19 f HE hS
    have HS1 : Hid (ShAt 59 (W.setCell ⟨p, 3, none⟩ (.int .i64 (s.x + k))) M N p { s with x := s.x + k } rows) := hS1
    have HB1 : Hid _ := hB1
    have HF1 : Hid (Framed W (W.setCell ⟨p, 3, none⟩ (.int .i64 (s.x + k)))) := hF1
    clear hS1 hB1 hF1
    have hwr : IntKind.i64.wrap (s.x + k) = s.x + k := wrap_id _ (by omega) (by omega)
    go_enter Tryd.func68, Tryd.ntmps68
    go_upto_region 1 with fail
    obtain ⟨d0, -, d3, -, -, -, -, -, -, df⟩ := HS1.out.words
    clear c0 c3 f3
    generalize (W.setCell ⟨p, 3, none⟩ (.int .i64 (s.x + k))) = X at *
    go_region
    have HSd : Hid (ShAt 59 X.drew M N p { s with x := s.x + k } rows) := HS1.out.drew
    have HB2 : Hid (Below N W X.drew) := HB1.out.drew
    have HF2 : Hid (Framed W X.drew) := HF1.out.trans (Framed.of_below ((Below.refl _ _).drew))
    obtain ⟨d0, -, d3, -, -, -, -, -, -, df⟩ := HSd.out.words
    have g3 := df 3
    clear HS1 HB1 HF1 df
    generalize X.drew = Y at *
    obtain ⟨hS3, hB3, hF3⟩ := HSd.out.put 3 (.int .i64 (s.w - 1)) (s' := { s with x := s.w - 1 }) (fun _ _ _ _ => rfl) rfl rfl
    have H2 := has_any 4 _ hS3
    obtain ⟨e0, -, e3, -, e5, -, -, -, -, ef⟩ := hS3.words
    obtain ⟨hS4, hB4, hF4⟩ := hS3.put 5 (.bool (hasB s.modes 4)) (s' := { s with x := s.w - 1, late := hasB s.modes 4 }) (fun _ _ _ _ => rfl) rfl rfl
    have HR : Hid (Ran W M N p s' rows (.returned (.tuple #[])) ((Y.setCell ⟨p, 3, none⟩ (.int .i64 (s.w - 1))).setCell ⟨p, 5, none⟩ (.bool (hasB s.modes 4)))) := by
      unfold Hid
      rw [HE2.out]
      exact ⟨rfl, hS4, HB2.out.trans (hB3.trans hB4), HF2.out.trans (hF3.trans hF4)⟩
    have g5 := ef 5
    clear hS3 hB3 hF3 hS4 hB4 hF4 ef e0 e3
    generalize hasB s.modes 4 = hb at *
    go_wp2_with fail
    refine H2.mono ?_
    rintro e V ⟨rfl, hv⟩
    subst hv
    go_wp2_with fail
    go_end0
    exact HR.out
  · have HE2 : Hid (s' = { s with x := s.x + k }) := by unfold Hid; rw [HE.out, if_neg heq]
    have hq : (s.x + k == s.w) = false := by rw [beq_eq_false_iff_ne]; exact heq
    clear heq c1 c4 c5 c9 c10 c11 c19 f HE hS
    have HS1 : Hid (ShAt 59 (W.setCell ⟨p, 3, none⟩ (.int .i64 (s.x + k))) M N p { s with x := s.x + k } rows) := hS1
    have HB1 : Hid _ := hB1
    have HF1 : Hid (Framed W (W.setCell ⟨p, 3, none⟩ (.int .i64 (s.x + k)))) := hF1
    clear hS1 hB1 hF1
    have hwr : IntKind.i64.wrap (s.x + k) = s.x + k := wrap_id _ (by omega) (by omega)
    go_enter Tryd.func68, Tryd.ntmps68
    go_upto_region 1 with fail
    obtain ⟨d0, -, d3, -, -, -, -, -, -, df⟩ := HS1.out.words
    clear c0 c3 f3 df
    generalize (W.setCell ⟨p, 3, none⟩ (.int .i64 (s.x + k))) = X at *
    go_region
    go_wp2_with fail
    go_end0
    rw [HE2.out]
    exact ⟨rfl, HS1.out.drew, HB1.out.drew, HF1.out.trans (Framed.of_below ((Below.refl _ _).drew))⟩
/-- A row further, where nothing rolls. -/
def feedS (s : Scr) : Scr := if s.y < s.h - 1 then { s with late := false, y := s.y + 1 } else { s with late := false }
set_option maxHeartbeats 2000000 in
theorem feed_plain (W : World) (M N p : Nat) (s : Scr) (rows : List (List C)) (hS : ShAt 59 W M N p s rows) (h0 : 0 ≤ s.y) (h1 : s.y ≤ 60) (w1 : 1 ≤ s.h) (w2 : s.h ≤ 60) (hne : s.y ≠ s.bot) :
    Calls Tryd.prog 65 #[.pointer (some ⟨p, 0, none⟩)] W (Ran W M N p (feedS s) rows) := by
  obtain ⟨c0, c1, c3, c4, c5, c9, c10, c11, c19, f⟩ := hS.words
  have f5 := f 5
  obtain ⟨hS1, hB1, hF1⟩ := hS.put 5 (.bool false) (s' := { s with late := false }) (fun _ _ _ _ => rfl) rfl rfl
  have HE : Hid (feedS s = if s.y < s.h - 1 then { s with late := false, y := s.y + 1 } else { s with late := false }) := rfl
  generalize feedS s = s' at *
  have hq : (s.y == s.bot) = false := by rw [beq_eq_false_iff_ne]; exact hne
  have HS1 : Hid (ShAt 59 (W.setCell ⟨p, 5, none⟩ (.bool false)) M N p { s with late := false } rows) := hS1
  have HB1 : Hid _ := hB1
  have HF1 : Hid (Framed W (W.setCell ⟨p, 5, none⟩ (.bool false))) := hF1
  clear hS1 hB1 hF1 hS hne c0 c1 c3 c4 c9 c10 c11 c19 f
  have hwr : IntKind.i64.wrap (s.h - 1) = s.h - 1 := wrap_id _ (by omega) (by omega)
  go_enter Tryd.func65, Tryd.ntmps65
  go_upto_region 1 with fail
  obtain ⟨-, d1, -, d4, -, -, d10, -, -, df⟩ := HS1.out.words
  clear c5 f5 df
  generalize (W.setCell ⟨p, 5, none⟩ (.bool false)) = X at *
  go_region
  have HSd : Hid (ShAt 59 X.drew M N p { s with late := false } rows) := HS1.out.drew
  have HB2 : Hid (Below N W X.drew) := HB1.out.drew
  have HF2 : Hid (Framed W X.drew) := HF1.out.trans (Framed.of_below ((Below.refl _ _).drew))
  clear d1 d4 d10 HS1 HB1 HF1
  generalize X.drew = Y at *
  obtain ⟨-, d1, -, d4, -, -, d10, -, -, df⟩ := HSd.out.words
  clear df
  by_cases hlt : s.y < s.h - 1
  · have HE2 : Hid (s' = { s with late := false, y := s.y + 1 }) := by unfold Hid; rw [HE.out, if_pos hlt]
    go_upto_region 3 with fail
    go_region
    have HSe : Hid (ShAt 59 Y.drew M N p { s with late := false } rows) := HSd.out.drew
    have HB3 : Hid (Below N W Y.drew) := HB2.out.drew
    have HF3 : Hid (Framed W Y.drew) := HF2.out.trans (Framed.of_below ((Below.refl _ _).drew))
    clear d1 d4 d10 HSd HB2 HF2
    generalize Y.drew = Z at *
    obtain ⟨-, d1, -, d4, -, -, d10, -, -, df⟩ := HSe.out.words
    have g4 := df 4
    have hw2 : IntKind.i64.wrap (s.y + 1) = s.y + 1 := wrap_id _ (by omega) (by omega)
    obtain ⟨hS4, hB4, hF4⟩ := HSe.out.put 4 (.int .i64 (s.y + 1)) (s' := { s with late := false, y := s.y + 1 }) (fun _ _ _ _ => rfl) rfl rfl
    have HR : Hid (Ran W M N p s' rows (.returned (.tuple #[])) (Z.setCell ⟨p, 4, none⟩ (.int .i64 (s.y + 1)))) := by
      unfold Hid
      rw [HE2.out]
      exact ⟨rfl, hS4, HB3.out.trans hB4, HF3.out.trans hF4⟩
    clear hS4 hB4 hF4 df
    go_wp2_with fail
    go_end0
    exact HR.out
  · have HE2 : Hid (s' = { s with late := false }) := by unfold Hid; rw [HE.out, if_neg hlt]
    go_upto_region 3 with fail
    go_region
    go_wp2_with fail
    go_end0
    rw [HE2.out]
    exact ⟨rfl, HSd.out.drew, HB2.out.drew, HF2.out.trans (Framed.of_below ((Below.refl _ _).drew))⟩
end Put
end Go.Proofs.YtfdookpjhbjndaaDoor
