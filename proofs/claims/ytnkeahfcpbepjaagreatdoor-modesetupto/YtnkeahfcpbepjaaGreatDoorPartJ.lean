/- A screen that came in, where it lies. -/
import Derived.Test.YtnkeahfcpbepjaaGreatDoorPartI
import Derived.Test.YtnkeahfcpbepjaaGreatDoorPartG
import Derived.Test.YtnkeahfcpbepjaaGreatDoorPartH
import Derived.Test.YtnkeahfcpbepjaaGreatDoorPartF
import Derived.Deep.RegionWith
import Derived.Deep.RegionHeld3
import Derived.BigRegion
import Derived.BigQuiet
import Derived.Deep.Cut
import Derived.Deep.CutRange
namespace Go.Proofs.YtnkeahfcpbepjaaGreatDoor
open Go.ChangeShapes Go.WideShapes Go.ChangeAt Go.RowKit
namespace Put
/-- A screen that came in, where it lies. -/
structure Met (w0 w : World) (s : Scr) (cv tv gv : Value) : Prop where
  t : Txt.Tab w
  v : ScrV w0 s cv tv gv
  b : Below w0.heap.size w0 w
  f : Fits s
theorem Met.next {w0 w W : World} {s : Scr} {cv tv gv : Value} (h : Met w0 w s cv tv gv) (hb : Below w.heap.size w W) : Met w0 W s cv tv gv := ⟨Grd.Tab.next h.t hb, h.v, h.b.trans (hb.mono h.b.size), h.f⟩
end Put
end Go.Proofs.YtnkeahfcpbepjaaGreatDoor

/- SameScreen of two screens that read alike. -/
namespace Go.Proofs.YtnkeahfcpbepjaaGreatDoor
open Go.ChangeShapes Go.WideShapes Go.ChangeAt Go.RowKit
namespace Put
open Grd (C SliceAt CellsAt gridErr z0)
set_option maxHeartbeats 1000000 in
theorem equalB_empty (a1 a2 : Option Addr) (c1 c2 : Nat) (w : World) :
    Calls Tryz.prog 119 #[.slice a1 0 c1, .slice a2 0 c2] w fun e w' => e = .returned (.bool true) ∧ Below w.heap.size w w' := by
  go_enter Tryz.func119, Tryz.ntmps119
  go_wp2_with fail
  go_loopg [13] 0 (fun g i wr => i = .int .i64 0 ∧ Below w.heap.size w wr)
  case atStart => exact ⟨rfl, Below.refl _ _⟩
  case round =>
    obtain ⟨rfl, hb⟩ := hrel
    go_wp2_with fail
    go_ret
    exact ⟨rfl, hb⟩
set_option maxHeartbeats 1000000 in
theorem equalB_cells (b1 o1 c1 b2 o2 c2 : Nat) (l : List Bool) (w : World) (h1 : ∀ j, j < l.length → w.cell? ⟨b1, o1 + j, none⟩ = some (.bool (l.getD j false))) (h2 : ∀ j, j < l.length → w.cell? ⟨b2, o2 + j, none⟩ = some (.bool (l.getD j false))) (hn : l.length ≤ 4398046511104) :
    Calls Tryz.prog 119 #[.slice (some ⟨b1, o1, none⟩) l.length c1, .slice (some ⟨b2, o2, none⟩) l.length c2] w fun e w' => e = .returned (.bool true) ∧ Below w.heap.size w w' := by
  have H1 : Hid (∀ j, j < l.length → w.cell? ⟨b1, o1 + j, none⟩ = some (.bool (l.getD j false))) := h1
  have H2 : Hid (∀ j, j < l.length → w.cell? ⟨b2, o2 + j, none⟩ = some (.bool (l.getD j false))) := h2
  clear h1 h2
  generalize hl : l.length = L at *
  have HL : Hid (l.length = L) := hl
  clear hl
  have ne : ((L : Int) != (L : Int)) = false := by simp
  go_enter Tryz.func119, Tryz.ntmps119
  go_wp2_with fail
  go_loopg [13] L (fun g i wr => ∃ k : Nat, i = .int .i64 (k : Int) ∧ k ≤ L ∧ L - k ≤ g ∧ Below w.heap.size w wr)
  case atStart => exact ⟨0, rfl, by omega, by omega, Below.refl _ _⟩
  case round =>
    obtain ⟨k, rfl, hk, hg, hb⟩ := hrel
    by_cases hlt : k < L
    · have lt1 : ((k : Int) < (L : Int)) := by omega
      have p0 := Grd.cell_keep hb (H1.out k hlt)
      have q0 := Grd.cell_keep hb (H2.out k hlt)
      generalize l.getD k false = x at *
      have nq : (x != x) = false := by simp
      go_wp2_with fail
      go_region
      go_wp2_with fail
      go_roundg (L - (k + 1))
      case measure => omega
      case rel => exact ⟨k + 1, rfl, by omega, by omega, hb.drew⟩
    · have lt1 : ¬ ((k : Int) < (L : Int)) := by omega
      go_wp2_with fail
      go_ret
      exact ⟨rfl, hb⟩
theorem equalB_any (v1 v2 : Value) (l : List Bool) (w : World) (h1 : BoolsV w v1 l) (h2 : BoolsV w v2 l) (hn : l.length ≤ 4398046511104) :
    Calls Tryz.prog 119 #[v1, v2] w fun e w' => e = .returned (.bool true) ∧ Below w.heap.size w w' := by
  by_cases h0 : l = []
  · obtain ⟨a1, c1, rfl⟩ := h1.slice
    obtain ⟨a2, c2, rfl⟩ := h2.slice
    subst h0
    exact equalB_empty a1 a2 c1 c2 w
  · rcases h1 with ⟨h, -⟩ | ⟨b1, o1, c1, rfl, -, -, hc1⟩
    · exact absurd h h0
    · rcases h2 with ⟨h, -⟩ | ⟨b2, o2, c2, rfl, -, -, hc2⟩
      · exact absurd h h0
      · exact equalB_cells b1 o1 c1 b2 o2 c2 l w hc1 hc2 hn
set_option maxHeartbeats 1000000 in
theorem eqRows_empty (a1 a2 : Option Addr) (c1 c2 : Nat) (w : World) :
    Calls Tryz.prog 154 #[.slice a1 0 c1, .slice a2 0 c2, .func (.func 153) #[] #[]] w fun e w' => e = .returned (.bool true) ∧ Below w.heap.size w w' := by
  go_enter Tryz.func154, Tryz.ntmps154
  go_wp2_with fail
  go_loopg [17] 0 (fun g i wr => i = .int .i64 0 ∧ Below w.heap.size w wr)
  case atStart => exact ⟨rfl, Below.refl _ _⟩
  case round =>
    obtain ⟨rfl, hb⟩ := hrel
    go_wp2_with fail
    go_ret
    exact ⟨rfl, hb⟩
/-- The rows of two lists of rows that read alike. -/
def RowsA (w : World) (b o : Nat) (l : List (List C)) : Prop := ∀ j, j < l.length → ∃ rv, w.cell? ⟨b, o + j, none⟩ = some rv ∧ SliceAt w rv (l.getD j [])
set_option maxHeartbeats 2000000 in
theorem eqRows_cells (b1 o1 c1 b2 o2 c2 : Nat) (l : List (List C)) (w : World) (h1 : RowsA w b1 o1 l) (h2 : RowsA w b2 o2 l) (hn : l.length ≤ 4398046511104) (hr : ∀ row, row ∈ l → row.length ≤ 4398046511104) :
    Calls Tryz.prog 154 #[.slice (some ⟨b1, o1, none⟩) l.length c1, .slice (some ⟨b2, o2, none⟩) l.length c2, .func (.func 153) #[] #[]] w fun e w' => e = .returned (.bool true) ∧ Below w.heap.size w w' := by
  have H1 : Hid (RowsA w b1 o1 l) := h1
  have H2 : Hid (RowsA w b2 o2 l) := h2
  have HR : Hid (∀ k, k < l.length → (l.getD k []).length ≤ 4398046511104) := fun k hk => by
    rw [List.getD_eq_getElem?_getD, List.getElem?_eq_getElem hk]
    exact hr _ (List.getElem_mem hk)
  clear h1 h2 hr
  unfold RowsA at H1 H2
  generalize hl : l.length = L at *
  have HL : Hid (l.length = L) := hl
  clear hl
  have ne : ((L : Int) != (L : Int)) = false := by simp
  go_enter Tryz.func154, Tryz.ntmps154
  go_wp2_with fail
  go_loopg [17] L (fun g i wr => ∃ k : Nat, i = .int .i64 (k : Int) ∧ k ≤ L ∧ L - k ≤ g ∧ Below w.heap.size w wr)
  case atStart => exact ⟨0, rfl, by omega, by omega, Below.refl _ _⟩
  case round =>
    obtain ⟨k, rfl, hk, hg, hb⟩ := hrel
    by_cases hlt : k < L
    · have lt1 : ((k : Int) < (L : Int)) := by omega
      obtain ⟨r1, p0, s1⟩ := H1.out k hlt
      obtain ⟨r2, q0, s2⟩ := H2.out k hlt
      have p1 := Grd.cell_keep hb p0
      have q1 := Grd.cell_keep hb q0
      have HS1 : Hid (SliceAt wr r1 (l.getD k [])) := s1.below hb
      have HS2 : Hid (SliceAt wr r2 (l.getD k [])) := s2.below hb
      have HLN : Hid ((l.getD k []).length ≤ 4398046511104) := HR.out k hlt
      have HB : Hid (Below w.heap.size w wr) := hb
      obtain ⟨a1, d1, rfl⟩ := s1.shape
      obtain ⟨a2, d2, rfl⟩ := s2.shape
      clear p0 q0 s1 s2 hb
      generalize l.getD k [] = row at *
      go_wp2_with fail
      refine (Grd.equal_slices_big _ _ row _ HS1.out HS2.out HLN.out).mono ?_
      rintro e W1 ⟨rfl, b1⟩
      have HB1 : Hid (Below w.heap.size w W1) := HB.out.trans (b1.mono HB.out.size)
      clear b1 p1 q1
      go_wp2_with fail
      go_roundg (L - (k + 1))
      case measure => omega
      case rel => exact ⟨k + 1, rfl, by omega, by omega, HB1.out⟩
    · have lt1 : ¬ ((k : Int) < (L : Int)) := by omega
      go_wp2_with fail
      go_ret
      exact ⟨rfl, hb⟩
theorem eqRows_any (v1 v2 : Value) (l : List (List C)) (w : World) (h1 : RowsV w v1 l) (h2 : RowsV w v2 l) (hn : l.length ≤ 4398046511104) (hr : ∀ row, row ∈ l → row.length ≤ 4398046511104) :
    Calls Tryz.prog 154 #[v1, v2, .func (.func 153) #[] #[]] w fun e w' => e = .returned (.bool true) ∧ Below w.heap.size w w' := by
  by_cases h0 : l = []
  · obtain ⟨a1, c1, rfl⟩ := h1.slice
    obtain ⟨a2, c2, rfl⟩ := h2.slice
    subst h0
    exact eqRows_empty a1 a2 c1 c2 w
  · rcases h1 with ⟨h, -⟩ | ⟨b1, o1, c1, rfl, -, -, hc1⟩
    · exact absurd h h0
    · rcases h2 with ⟨h, -⟩ | ⟨b2, o2, c2, rfl, -, -, hc2⟩
      · exact absurd h h0
      · exact eqRows_cells b1 o1 c1 b2 o2 c2 l w hc1 hc2 hn hr
theorem sameRows_any (v1 v2 : Value) (l : List (List C)) (w : World) (h1 : RowsV w v1 l) (h2 : RowsV w v2 l) (hn : l.length ≤ 4398046511104) (hr : ∀ row, row ∈ l → row.length ≤ 4398046511104) :
    Calls Tryz.prog 120 #[v1, v2] w fun e w' => e = .returned (.bool true) ∧ Below w.heap.size w w' := by
  have HC := eqRows_any v1 v2 l w h1 h2 hn hr
  obtain ⟨a1, d1, rfl⟩ := h1.slice
  obtain ⟨a2, d2, rfl⟩ := h2.slice
  clear h1 h2
  go_enter Tryz.func120, Tryz.ntmps120
  go_wp2_with fail
  refine HC.mono ?_
  rintro e W1 ⟨rfl, b1⟩
  clear HC
  go_wp2_with fail
  go_ret
  exact ⟨rfl, b1⟩
theorem eql_style (f b x : Int) (w : World) : (binOp .eql 26 (.agg #[.int .i64 f, .int .i64 b, .int .i64 x]) (.agg #[.int .i64 f, .int .i64 b, .int .i64 x])).run Tryz.prog w = .ok (.bool true) w := by
  go_simp
theorem eql_kept (a b c d e f : Int) (w : World) : (binOp .eql 29 (.agg #[.int .i64 a, .int .i64 b, .int .i64 c, .int .i64 d, .int .i64 e, .int .i64 f]) (.agg #[.int .i64 a, .int .i64 b, .int .i64 c, .int .i64 d, .int .i64 e, .int .i64 f])).run Tryz.prog w = .ok (.bool true) w := by
  go_simp
/-- What SameScreen asks of the sizes. -/
structure Small (s : Scr) : Prop where
  c : s.cs.length ≤ 4398046511104
  t : s.tabs.length ≤ 4398046511104
  g : s.gone.length ≤ 4398046511104
  r : ∀ row, row ∈ s.gone → row.length ≤ 4398046511104
set_option maxHeartbeats 8000000 in
set_option maxRecDepth 100000 in
theorem sameScreen_any (s : Scr) (cv tv gv cv' tv' gv' : Value) (w : World) (h1 : ScrV w s cv tv gv) (h2 : ScrV w s cv' tv' gv') (hS : Small s) :
    Calls Tryz.prog 64 #[.agg (scrA s cv tv gv), .agg (scrA s cv' tv' gv')] w fun e w' => e = .returned (.bool true) ∧ Below w.heap.size w w' := by
  obtain ⟨ca, cc, rfl⟩ := h1.c.shape
  obtain ⟨ta, tc, rfl⟩ := h1.t.slice
  obtain ⟨ga, gc, rfl⟩ := h1.g.slice
  obtain ⟨ca', cc', rfl⟩ := h2.c.shape
  obtain ⟨ta', tc', rfl⟩ := h2.t.slice
  obtain ⟨ga', gc', rfl⟩ := h2.g.slice
  have x0 := heap_alloc_new w (.cells (scrA s (.slice ca s.cs.length cc) (.slice ta s.tabs.length tc) (.slice ga s.gone.length gc)) 32)
  have y0 := (Below.heap_alloc (w.alloc (.cells (scrA s (.slice ca s.cs.length cc) (.slice ta s.tabs.length tc) (.slice ga s.gone.length gc)) 32)) (.cells (scrA s (.slice ca' s.cs.length cc') (.slice ta' s.tabs.length tc') (.slice ga' s.gone.length gc')) 32) _ (heap_lt x0)).trans x0
  have y1 := heap_alloc_new (w.alloc (.cells (scrA s (.slice ca s.cs.length cc) (.slice ta s.tabs.length tc) (.slice ga s.gone.length gc)) 32)) (.cells (scrA s (.slice ca' s.cs.length cc') (.slice ta' s.tabs.length tc') (.slice ga' s.gone.length gc')) 32)
  have kb : Below w.heap.size w ((w.alloc (.cells (scrA s (.slice ca s.cs.length cc) (.slice ta s.tabs.length tc) (.slice ga s.gone.length gc)) 32)).alloc (.cells (scrA s (.slice ca' s.cs.length cc') (.slice ta' s.tabs.length tc') (.slice ga' s.gone.length gc')) 32)) := ((Below.refl _ _).alloc (Nat.le_refl _) _).alloc (by simp) _
  have es : (w.alloc (.cells (scrA s (.slice ca s.cs.length cc) (.slice ta s.tabs.length tc) (.slice ga s.gone.length gc)) 32)).heap.size = w.heap.size + 1 := by simp
  rw [es] at y1
  have HKB : Hid _ := kb
  have HV1 : Hid (ScrV w s _ _ _) := h1
  have HV2 : Hid (ScrV w s _ _ _) := h2
  have HS : Hid (Small s) := hS
  have HY0 : Hid _ := y0
  have HY1 : Hid _ := y1
  have aw : (s.w == s.w) = true := by simp
  obtain ⟨⟨c0, c1, c2, -⟩, -, -⟩ := scr_cells y0
  obtain ⟨⟨d0, d1, d2, -⟩, -, -⟩ := scr_cells y1
  have HG := Grd.same_any_big s.w s.h _ _ s.cs _ (h1.c.below kb) (h2.c.below kb) hS.c
  clear x0 y0 y1 kb h1 h2 hS es
  go_enter Tryz.func64, Tryz.ntmps64
  go_wp2_with fail
  refine HG.mono ?_
  rintro e W1 ⟨rfl, b1⟩
  clear HG c0 c1 c2 d0 d1 d2
  have HB1 : Hid (Below w.heap.size w W1) := HKB.out.trans (b1.mono HKB.out.size)
  have HZ0 : Hid (W1.heap[w.heap.size]? = _) := Grd.carry HY0.out b1
  have HZ1 : Hid (W1.heap[w.heap.size + 1]? = _) := Grd.carry HY1.out b1
  clear b1 HY0 HY1 HKB
  obtain ⟨⟨c0, c1, c2, c3, c4, c5, c6, c7, c8, c9, c10⟩, ⟨c11, c12, c13, c14, c15, c16, c17, c18, c19, c20, c21⟩, -⟩ := scr_cells HZ0.out
  obtain ⟨⟨d0, d1, d2, d3, d4, d5, d6, d7, d8, d9, d10⟩, ⟨d11, d12, d13, d14, d15, d16, d17, d18, d19, d20, d21⟩, -⟩ := scr_cells HZ1.out
  have HT := equalB_any _ _ s.tabs _ (HV1.out.t.next HB1.out) (HV2.out.t.next HB1.out) HS.out.t
  have q1 := eql_style s.sf s.sb s.sx
  have q2 := eql_kept s.kx s.ky s.kf s.kb s.kbits s.km
  go_wp2_with fail
  refine HT.mono ?_
  rintro e W2 ⟨rfl, b2⟩
  clear HT c0 c1 c2 c3 c4 c5 c6 c7 c8 c9 c10 c11 c12 c13 c14 c15 c16 c17 c18 c19 c20 c21 d0 d1 d2 d3 d4 d5 d6 d7 d8 d9 d10 d11 d12 d13 d14 d15 d16 d17 d18 d19 d20 d21
  have HB2 : Hid (Below w.heap.size w W2) := HB1.out.trans (b2.mono HB1.out.size)
  have HA0 : Hid (W2.heap[w.heap.size]? = _) := Grd.carry HZ0.out b2
  have HA1 : Hid (W2.heap[w.heap.size + 1]? = _) := Grd.carry HZ1.out b2
  clear b2 HZ0 HZ1 HB1
  obtain ⟨-, ⟨c11, c12, c13, c14, c15, c16, c17, c18, c19, c20, c21⟩, -⟩ := scr_cells HA0.out
  obtain ⟨-, ⟨d11, d12, d13, d14, d15, d16, d17, d18, d19, d20, d21⟩, -⟩ := scr_cells HA1.out
  have HR := sameRows_any _ _ s.gone _ (HV1.out.g.next HB2.out) (HV2.out.g.next HB2.out) HS.out.g HS.out.r
  go_wp2_with fail
  refine HR.mono ?_
  rintro e W3 ⟨rfl, b3⟩
  clear HR
  have HB3 : Hid (Below w.heap.size w W3) := HB2.out.trans (b3.mono HB2.out.size)
  clear b3 HA0 HA1 c11 c12 c13 c14 c15 c16 c17 c18 c19 c20 c21 d11 d12 d13 d14 d15 d16 d17 d18 d19 d20 d21
  go_wp2_with fail
  go_ret
  exact ⟨rfl, HB3.out⟩
end Put
end Go.Proofs.YtnkeahfcpbepjaaGreatDoor

/- What stays of a sheet whose words change; Has. -/
namespace Go.Proofs.YtnkeahfcpbepjaaGreatDoor
open Go.ChangeShapes Go.WideShapes Go.ChangeAt Go.RowKit
namespace Put
open Grd (C SliceAt CellsAt gridErr z0 nilV flat rowsL)
theorem ShA.set {t : TypeId} (ht : IsSheet t) {W : World} {M N p : Nat} {s s' : Scr} {rows : List (List C)} {cv tv gv rv : Value} {gvs vs : List Value} (h : ShA t W M N p s rows cv tv gv rv gvs vs) (i : Nat) (v : Value) (e : (shA s cv tv gv rv).setIfInBounds i v = shA s' cv tv gv rv) (h1 : s'.tabs = s.tabs) (h2 : s'.gone = s.gone) : ShA t (W.setCell ⟨p, i, none⟩ v) M N p s' rows cv tv gv rv gvs vs :=
  h.put ht (store_at h.blk e) (fun _ hk => store_off hk) h1 h2
theorem ShAt.set {t : TypeId} (ht : IsSheet t) {W : World} {M N p : Nat} {s s' : Scr} {rows : List (List C)} (h : ShAt t W M N p s rows) (i : Nat) (v : Value) (e : ∀ cv tv gv rv, (shA s cv tv gv rv).setIfInBounds i v = shA s' cv tv gv rv) (h1 : s'.tabs = s.tabs) (h2 : s'.gone = s.gone) : ShAt t (W.setCell ⟨p, i, none⟩ v) M N p s' rows := by
  obtain ⟨cv, tv, gv, rv, gvs, vs, h⟩ := h
  exact ⟨cv, tv, gv, rv, gvs, vs, h.set ht i v (e _ _ _ _) h1 h2⟩
theorem ShAt.next {t : TypeId} {W W' : World} {M N p : Nat} {s : Scr} {rows : List (List C)} (h : ShAt t W M N p s rows) (hb : Below W.heap.size W W') : ShAt t W' M N p s rows := by
  obtain ⟨cv, tv, gv, rv, gvs, vs, h⟩ := h
  exact ⟨cv, tv, gv, rv, gvs, vs, h.next hb⟩
theorem ShAt.lo {t : TypeId} {W : World} {M N p : Nat} {s : Scr} {rows : List (List C)} (h : ShAt t W M N p s rows) : N ≤ p := by
  obtain ⟨cv, tv, gv, rv, gvs, vs, h⟩ := h
  exact h.lo
theorem ShAt.drew {t : TypeId} {W : World} {M N p : Nat} {s : Scr} {rows : List (List C)} (h : ShAt t W M N p s rows) : ShAt t W.drew M N p s rows := h.next ((Below.refl _ _).drew)
/-- The words of a sheet that are numbers. -/
theorem ShAt.words {t : TypeId} {W : World} {M N p : Nat} {s : Scr} {rows : List (List C)} (h : ShAt t W M N p s rows) :
    W.cell? ⟨p, 0, none⟩ = some (.int .i64 s.w) ∧ W.cell? ⟨p, 1, none⟩ = some (.int .i64 s.h) ∧ W.cell? ⟨p, 3, none⟩ = some (.int .i64 s.x) ∧ W.cell? ⟨p, 4, none⟩ = some (.int .i64 s.y) ∧ W.cell? ⟨p, 5, none⟩ = some (.bool s.late) ∧ W.cell? ⟨p, 9, none⟩ = some (.int .i64 s.top) ∧ W.cell? ⟨p, 10, none⟩ = some (.int .i64 s.bot) ∧ W.cell? ⟨p, 11, none⟩ = some (.int .i64 s.modes) ∧ W.cell? ⟨p, 19, none⟩ = some (.int .i32 s.last) ∧ ∀ i, W.frozen? ⟨p, i, none⟩ = false := by
  obtain ⟨cv, tv, gv, rv, gvs, vs, h⟩ := h
  obtain ⟨⟨c0, c1, -, c3, c4, c5, -, -, -, c9, c10⟩, ⟨c11, -, -, -, -, -, -, -, c19, -⟩, f⟩ := sh_cells h.blk
  exact ⟨c0, c1, c3, c4, c5, c9, c10, c11, c19, f⟩
theorem ShAt.fin {t : TypeId} (ht : IsSheet t) {W : World} {M N p : Nat} {s s' : Scr} {rows : List (List C)} (h : ShAt t W M N p s rows) (i : Nat) (v : Value) (e : ∀ cv tv gv rv, (shA s cv tv gv rv).setIfInBounds i v = shA s' cv tv gv rv) (h1 : s'.tabs = s.tabs) (h2 : s'.gone = s.gone) : ∀ v', v' = v → ShAt t (W.setCell ⟨p, i, none⟩ v').drew M N p s' rows ∧ Below N W (W.setCell ⟨p, i, none⟩ v').drew := fun v' hv => by
  subst hv
  exact ⟨(h.set ht i _ e h1 h2).drew, ((Below.refl _ _).setCell h.lo _).drew⟩
theorem wrap_id (a : Int) (h0 : -9223372036854775808 ≤ a) (h1 : a ≤ 9223372036854775807) : IntKind.i64.wrap a = a := by
  rw [IntKind.wrap_i64]
  omega
theorem int_wrap (a : Int) (h0 : -9223372036854775808 ≤ a) (h1 : a ≤ 9223372036854775807) : Value.int .i64 (IntKind.i64.wrap a) = Value.int .i64 a := by rw [wrap_id a h0 h1]
/-- Are these bits set? -/
def hasB (m b : Int) : Bool := bits .and .i64 m b == b
theorem has_any {M N p : Nat} {s : Scr} {rows : List (List C)} (b : Int) (W : World) (hS : ShAt 64 W M N p s rows) : Calls Tryz.prog 55 #[.pointer (some ⟨p, 0, none⟩), .int .i64 b] W fun e w' => e = .returned (.bool (hasB s.modes b)) ∧ W = w' := by
  obtain ⟨c0, c1, c3, c4, c5, c9, c10, c11, c19, f⟩ := hS.words
  clear c0 c1 c3 c4 c5 c9 c10 c19 f hS
  go_enter Tryz.func55, Tryz.ntmps55
  go_wp2_with fail
  go_ret
  exact ⟨rfl, rfl⟩
end Put
end Go.Proofs.YtnkeahfcpbepjaaGreatDoor

/- Package move: within, counted, moved; what stays of a sheet whose words change. -/
namespace Go.Proofs.YtnkeahfcpbepjaaGreatDoor
open Go.ChangeShapes Go.WideShapes Go.ChangeAt Go.RowKit
namespace Put
open Grd (C SliceAt CellsAt gridErr z0 nilV flat rowsL)
def withinI (n a b : Int) : Int := min (max n a) b
def cnt (n : Int) : Int := withinI n 1 9999
theorem cnt_range (n : Int) : 1 ≤ cnt n ∧ cnt n ≤ 9999 := by unfold cnt withinI; omega
theorem within_calls (n a b : Int) (w : World) : Calls Tryz.prog 141 #[.int .i64 n, .int .i64 a, .int .i64 b] w fun e w' => e = .returned (.int .i64 (withinI n a b)) ∧ w = w' := by
  have h1 := Grd.max2 n a
  have h2 := Grd.min2 (max n a) b
  go_enter Tryz.func141, Tryz.ntmps141
  go_wp2_with fail
  go_ret
  exact ⟨rfl, rfl⟩
theorem counted_any (n : Int) (w : World) : Calls Tryz.prog 89 #[.int .i64 n] w fun e w' => e = .returned (.int .i64 (cnt n)) ∧ w = w' := by
  have h := within_calls n 1 9999 w
  go_enter Tryz.func89, Tryz.ntmps89
  go_wp2_with fail
  refine h.mono ?_
  rintro e W1 ⟨rfl, hw⟩
  subst hw
  go_wp2_with fail
  go_ret
  exact ⟨rfl, rfl⟩
end Put
end Go.Proofs.YtnkeahfcpbepjaaGreatDoor

/- A right screen, and what stays small of it. -/
namespace Go.Proofs.YtnkeahfcpbepjaaGreatDoor
open Go.ChangeShapes Go.WideShapes Go.ChangeAt Go.RowKit
namespace Put
open Grd (C SliceAt CellsAt gridErr z0 nilV flat rowsL RightRow)
theorem rightErr {s : Scr} {n hh : Nat} (h : RightS s n hh) : scrErr s = 0 := by
  have hz := h.gz
  rw [← h.w, ← h.h] at hz
  have hp : placeOk s = true := by
    have := h.w
    have := h.h
    have := h.x0
    have := h.x1
    have := h.y0
    have := h.y1
    have := h.kx0
    have := h.kx1
    have := h.ky0
    have := h.ky1
    have := h.t0
    have := h.t1
    have := h.t2
    have := h.t3
    simp only [placeOk, hasC, regionOk, Bool.and_eq_true, Bool.or_eq_true, decide_eq_true_eq]
    omega
  have hr : restOk s = true := by
    simp only [restOk, Bool.and_eq_true, Bool.or_eq_true, Bool.not_eq_true', decide_eq_true_eq, decide_eq_false_iff_not]
    exact ⟨by rw [h.w, h.tl], h.la, h.ti⟩
  have hg : goneErr s.gone = 0 := by
    unfold goneErr
    rw [if_neg (by have := h.gl; omega)]
    have hb : goneBad s.gone = false := by
      unfold goneBad
      rw [List.any_eq_false]
      intro row hrow
      simp [h.gr row hrow]
    rw [hb]
    rfl
  unfold scrErr
  rw [if_neg (by rw [hz]; simp), if_neg (by rw [hp]; simp), if_neg (by rw [h.late]; simp), if_neg (by rw [h.looks]; simp), if_neg (by rw [hr]; simp), hg]
theorem smallOf {s : Scr} {n hh : Nat} (h : RightS s n hh) : Small s := by
  refine ⟨?_, ?_, ?_, ?_⟩
  · have h1 := h.cl
    have h2 := Nat.mul_le_mul h.n2 h.h2
    omega
  · have := h.tl
    have := h.n2
    omega
  · have := h.gl
    omega
  · intro row hrow
    have := (grid_size (h.gr row hrow)).2.1
    omega
theorem rowsL_row {s : Scr} {n hh : Nat} (h : RightS s n hh) (i : Nat) (hi : i < (rowsL n s.cs hh).length) : ((rowsL n s.cs hh).getD i []).length = n := by
  rw [Grd.rowsL_len] at hi
  have e2 : (rowsL n s.cs hh).getD i [] = Grd.rowAt n s.cs i := by simp [rowsL, List.getD, hi]
  rw [e2]
  exact Grd.row_len n hh s.cs i h.cl hi
/-- Rows of that many cells, in the place of a right screen's. -/
theorem rowsOk {s : Scr} {n hh : Nat} (hR : RightS s n hh) (s' : Scr) (rows' : List (List C)) (hl : rows'.length = hh) (hn : ∀ i, i < rows'.length → (rows'.getD i []).length = n) (hg : s'.gone.length ≤ 51) (hg2 : ∀ i, i < s'.gone.length → (s'.gone.getD i []).length ≤ 1048576) : RowsOk s' rows' := by
  have n1 := hR.n1
  have n2 := hR.n2
  have h1 := hR.h1
  have h2 := hR.h2
  have hlen := Grd.flatten_len n rows' hn hh (by omega)
  rw [← hl, List.take_length] at hlen
  refine ⟨by omega, by omega, fun i hi e => ?_, ?_, by omega, hg2⟩
  · have := hn i hi
    rw [e] at this
    simp at this
    omega
  · rw [hlen]
    have := Nat.mul_le_mul (show rows'.length ≤ 60 by omega) n2
    omega
theorem rowsOk_same {s : Scr} {n hh : Nat} (hR : RightS s n hh) (s' : Scr) (hg : s'.gone = s.gone) : RowsOk s' (rowsL n s.cs hh) :=
  rowsOk hR s' _ (Grd.rowsL_len _ _ _) (rowsL_row hR) (by rw [hg]; have := hR.gl; omega) (fun i hi => by rw [hg] at hi ⊢; have := hR.gone_le i hi; omega)
end Put
end Go.Proofs.YtnkeahfcpbepjaaGreatDoor

/- Package mode: a screen is changed, or its error told. -/
namespace Go.Proofs.YtnkeahfcpbepjaaGreatDoor
set_option linter.unusedVariables false
open Go.ChangeShapes Go.WideShapes Go.ChangeAt Go.RowKit
namespace Put
open Grd (C SliceAt CellsAt gridErr z0 nilV flat rowsL RightRow)
theorem md_bad {w0 w : World} {s : Scr} {cv tv gv : Value} (h : Met w0 w s cv tv gv) (hz : scrErr s ≠ 0) (df : FuncId) (caps : Array Value) : Calls Tryz.prog 52 #[.agg (scrA s cv tv gv), .func (.func df) #[] caps] w (Made w0 w zScr (scrErr s)) :=
  mdchange_any s zScr cv tv gv df caps w0 w h.t h.v h.b h.f fun W _ => made_bad s cv tv gv (scrErr s) hz _ w0 W h.v
theorem md_good {w0 w : World} {s s' : Scr} {cv tv gv : Value} {n hh : Nat} (h : Met w0 w s cv tv gv) (hR : RightS s n hh) (df : FuncId) (hpl : Plain df) (caps : Array Value) (rows' : List (List C)) (cs' : List C)
    (hM : ∀ w1, Below w.heap.size w w1 → Does df caps w0.heap.size w1 s s' (rowsL n s.cs hh) rows') (hO : RowsOk s' rows') (hcs : rows'.flatten = cs') :
    Calls Tryz.prog 52 #[.agg (scrA s cv tv gv), .func (.func df) #[] caps] w (Made w0 w { s' with cs := cs' } 0) := by
  have hz := rightErr hR
  have key := mdchange_any s { s' with cs := cs' } cv tv gv df caps w0 w h.t h.v h.b h.f fun W hW => by
    rw [hz]
    exact change_good n hh s s' rows' cv tv gv df hpl caps w0 W h.v (h.b.trans (hW.mono h.b.size)) h.f hR.w hR.h hR.gz (fun w1 hw1 => hM w1 (hW.trans (hw1.mono hW.size))) hO cs' hcs
  rwa [hz] at key
end Put
end Go.Proofs.YtnkeahfcpbepjaaGreatDoor

/- Modes that are set and cleared: what is done, and what the reference does. -/
namespace Go.Proofs.YtnkeahfcpbepjaaGreatDoor
open Go.ChangeShapes Go.WideShapes Go.ChangeAt Go.RowKit
namespace Put
open Grd (C)
/-- The cursor goes to the first cell. -/
def homeS (s : Scr) : Scr := { s with x := 0, y := if hasB s.modes 2 then s.top else 0, late := false }
/-- Modes, with bits set or cleared. -/
def modesI (m b : Int) (on : Bool) : Int := if on then bits .or .i64 (bits .andNot .i64 m b) b else bits .andNot .i64 m b
def homeIf (b : Int) (s : Scr) : Scr := if bits .and .i64 b 2 = 0 then s else homeS s
def lateIf (s : Scr) : Scr := { s with late := s.late && hasB s.modes 4 }
/-- Set. -/
def setS (s : Scr) (b : Int) (on : Bool) : Scr := lateIf (homeIf b { s with modes := modesI s.modes b on })
/-- The reference's modes. -/
def modesR (m b : Int) (on : Bool) : Int := if on then bits .or .i64 m b else bits .and .i64 m (63 - b)
theorem mode_nums (m b : Int) (hm0 : 0 ≤ m) (hm1 : m ≤ 63) (hb0 : 0 ≤ b) (hb1 : b ≤ 63) :
    bits .or .i64 (bits .andNot .i64 m b) b = bits .or .i64 m b ∧ bits .andNot .i64 m b = bits .and .i64 m (63 - b) ∧
    (bits .and .i64 b 2 ≠ 0 → hasB (bits .or .i64 m b) 2 = true ∧ hasB (bits .and .i64 m (63 - b)) 2 = false) ∧
    hasB (bits .or .i64 m b) 4 = !(bits .and .i64 (bits .or .i64 m b) 4 == 0) ∧ hasB (bits .and .i64 m (63 - b)) 4 = !(bits .and .i64 (bits .and .i64 m (63 - b)) 4 == 0) := by
  have key : ∀ k : Fin 64, ∀ j : Fin 64, 
    bits .or .i64 (bits .andNot .i64 (k.val : Int) (j.val : Int)) (j.val : Int) = bits .or .i64 (k.val : Int) (j.val : Int) ∧ bits .andNot .i64 (k.val : Int) (j.val : Int) = bits .and .i64 (k.val : Int) (63 - (j.val : Int)) ∧
    (bits .and .i64 (j.val : Int) 2 ≠ 0 → hasB (bits .or .i64 (k.val : Int) (j.val : Int)) 2 = true ∧ hasB (bits .and .i64 (k.val : Int) (63 - (j.val : Int))) 2 = false) ∧
    hasB (bits .or .i64 (k.val : Int) (j.val : Int)) 4 = !(bits .and .i64 (bits .or .i64 (k.val : Int) (j.val : Int)) 4 == 0) ∧ hasB (bits .and .i64 (k.val : Int) (63 - (j.val : Int))) 4 = !(bits .and .i64 (bits .and .i64 (k.val : Int) (63 - (j.val : Int))) 4 == 0) := by decide +kernel
  have h := key ⟨m.toNat, by omega⟩ ⟨b.toNat, by omega⟩
  have e1 : ((m.toNat : Nat) : Int) = m := by omega
  have e2 : ((b.toNat : Nat) : Int) = b := by omega
  simp only [e1, e2] at h
  exact h
theorem and63 (n : Int) : 0 ≤ bits .and .i64 n 63 ∧ bits .and .i64 n 63 ≤ 63 := by
  have h : bits .and .i64 n 63 = IntKind.i64.wrap ((BitVec.ofInt 64 n &&& 63#64).toNat : Int) := rfl
  have h2 : (BitVec.ofInt 64 n &&& 63#64).toNat ≤ 63 := by
    rw [BitVec.toNat_and]
    exact Nat.and_le_right
  rw [h, wrap_id _ (by omega) (by omega)]
  omega
/-- Set, as the reference has it. -/
def setR (s : Scr) (b : Int) (on : Bool) : Scr :=
  let s1 := { s with modes := modesR s.modes b on }
  let s2 := if bits .and .i64 b 2 = 0 then s1 else { s1 with x := 0, y := if on then s.top else 0, late := false }
  { s2 with late := s2.late && !(bits .and .i64 (modesR s.modes b on) 4 == 0) }
theorem setR_same (s : Scr) (b : Int) (on : Bool) (hm0 : 0 ≤ s.modes) (hm1 : s.modes ≤ 63) (hb0 : 0 ≤ b) (hb1 : b ≤ 63) : setR s b on = setS s b on := by
  obtain ⟨h1, h2, h3, h4, h5⟩ := mode_nums s.modes b hm0 hm1 hb0 hb1
  cases on with
  | true =>
    simp only [setR, setS, lateIf, homeIf, homeS, modesI, modesR, if_true, h1]
    by_cases hz : bits .and .i64 b 2 = 0
    · rw [if_pos hz, if_pos hz]
      simp only [h4]
    · rw [if_neg hz, if_neg hz]
      simp only [(h3 hz).1, if_true, h4]
  | false =>
    simp only [setR, setS, lateIf, homeIf, homeS, modesI, modesR, h2, Bool.false_eq_true, if_false]
    by_cases hz : bits .and .i64 b 2 = 0
    · rw [if_pos hz, if_pos hz]
      simp only [h5]
    · rw [if_neg hz, if_neg hz]
      simp only [(h3 hz).2, Bool.false_eq_true, if_false, h5]
theorem homeIf_same (b : Int) (s : Scr) : (homeIf b s).gone = s.gone ∧ (homeIf b s).tabs = s.tabs ∧ (homeIf b s).cs = s.cs ∧ (homeIf b s).w = s.w ∧ (homeIf b s).h = s.h ∧ (homeIf b s).modes = s.modes := by
  unfold homeIf homeS
  split <;> exact ⟨rfl, rfl, rfl, rfl, rfl, rfl⟩
theorem setS_same (s : Scr) (b : Int) (on : Bool) : (setS s b on).gone = s.gone ∧ (setS s b on).tabs = s.tabs ∧ (setS s b on).cs = s.cs ∧ (setS s b on).w = s.w ∧ (setS s b on).h = s.h := by
  obtain ⟨h1, h2, h3, h4, h5, -⟩ := homeIf_same b { s with modes := modesI s.modes b on }
  exact ⟨h1, h2, h3, h4, h5⟩
/-- Save. -/
def saveS (s : Scr) : Scr := { s with kx := s.x, ky := s.y, kf := s.sf, kb := s.sb, kbits := s.sx, km := bits .and .i64 s.modes 6 }
/-- Restore. -/
def restS (s : Scr) : Scr := { s with x := s.kx, y := s.ky, sf := s.kf, sb := s.kb, sx := s.kbits, late := false, modes := bits .or .i64 (bits .andNot .i64 s.modes 6) s.km }
/-- Restore, as the reference has it. -/
def restR (s : Scr) : Scr := { s with x := s.kx, y := s.ky, sf := s.kf, sb := s.kb, sx := s.kbits, late := false, modes := bits .and .i64 s.modes 57 + s.km }
theorem rest_nums (m k : Int) (hm0 : 0 ≤ m) (hm1 : m ≤ 63) (hk : keptOk k = true) : bits .or .i64 (bits .andNot .i64 m 6) k = bits .and .i64 m 57 + k ∧ 0 ≤ bits .and .i64 m 57 + k ∧ bits .and .i64 m 57 + k ≤ 63 := by
  have key : ∀ j : Fin 64, ∀ k : Fin 7, keptOk (k.val : Int) = true → bits .or .i64 (bits .andNot .i64 (j.val : Int) 6) (k.val : Int) = bits .and .i64 (j.val : Int) 57 + (k.val : Int) ∧ 0 ≤ bits .and .i64 (j.val : Int) 57 + (k.val : Int) ∧ bits .and .i64 (j.val : Int) 57 + (k.val : Int) ≤ 63 := by decide +kernel
  have hk2 : k = 0 ∨ k = 2 ∨ k = 4 ∨ k = 6 := by simpa [keptOk] using hk
  have h := key ⟨m.toNat, by omega⟩ ⟨k.toNat, by omega⟩
  have e1 : ((m.toNat : Nat) : Int) = m := by omega
  have e2 : ((k.toNat : Nat) : Int) = k := by omega
  simp only [e1, e2] at h
  exact h hk
end Put
end Go.Proofs.YtnkeahfcpbepjaaGreatDoor

/- Package sheet: Home. -/
namespace Go.Proofs.YtnkeahfcpbepjaaGreatDoor
open Go.ChangeShapes Go.WideShapes Go.ChangeAt Go.RowKit
namespace Put
open Grd (C)
set_option maxHeartbeats 4000000 in
theorem home_any {M N p : Nat} {s : Scr} {rows : List (List C)} (W : World) (hS : ShAt 64 W M N p s rows) :
    Calls Tryz.prog 54 #[.pointer (some ⟨p, 0, none⟩)] W fun e W' => e = .returned (.tuple #[]) ∧ ShAt 64 W' M N p (homeS s) rows ∧ Below N W W' := by
  have HR : Hid (homeS s = { s with x := 0, y := if hasB s.modes 2 then s.top else 0, late := false }) := rfl
  generalize homeS s = s' at *
  have k3 : ShAt 64 (W.setCell ⟨p, 3, none⟩ (.int .i64 0)) M N p { s with x := 0 } rows := hS.set sheet_is 3 _ (fun _ _ _ _ => rfl) rfl rfl
  have k4 : ShAt 64 ((W.setCell ⟨p, 3, none⟩ (.int .i64 0)).setCell ⟨p, 4, none⟩ (.int .i64 0)) M N p { s with x := 0, y := 0 } rows := k3.set sheet_is 4 _ (fun _ _ _ _ => rfl) rfl rfl
  have k5 : ShAt 64 (((W.setCell ⟨p, 3, none⟩ (.int .i64 0)).setCell ⟨p, 4, none⟩ (.int .i64 0)).setCell ⟨p, 5, none⟩ (.bool false)) M N p { s with x := 0, y := 0, late := false } rows := k4.set sheet_is 5 _ (fun _ _ _ _ => rfl) rfl rfl
  have hlo := hS.lo
  have HB5 : Hid (Below N W (((W.setCell ⟨p, 3, none⟩ (.int .i64 0)).setCell ⟨p, 4, none⟩ (.int .i64 0)).setCell ⟨p, 5, none⟩ (.bool false))) := (((Below.refl _ _).setCell hlo _).setCell hlo _).setCell hlo _
  have HK5 : Hid (ShAt 64 (((W.setCell ⟨p, 3, none⟩ (.int .i64 0)).setCell ⟨p, 4, none⟩ (.int .i64 0)).setCell ⟨p, 5, none⟩ (.bool false)) M N p { s with x := 0, y := 0, late := false } rows) := k5
  have HH := has_any 2 _ k5
  obtain ⟨c0, c1, c3, c4, c5, c9, c10, c11, c19, f⟩ := hS.words
  have f3 := f 3
  have f4 := f 4
  have f5 := f 5
  clear k3 k4 k5 hS f c0 c1 c11 c19 c9 c10
  go_enter Tryz.func54, Tryz.ntmps54
  go_wp2_with fail
  refine HH.mono ?_
  rintro e V ⟨rfl, hv⟩
  subst hv
  clear HH f3 f4 f5 c3 c4 c5
  generalize (((W.setCell ⟨p, 3, none⟩ (.int .i64 0)).setCell ⟨p, 4, none⟩ (.int .i64 0)).setCell ⟨p, 5, none⟩ (.bool false)) = Y at *
  cases hmo : hasB s.modes 2 with
  | false =>
    have HE2 : Hid (s' = { s with x := 0, y := 0, late := false }) := by unfold Hid; rw [HR.out, hmo]; rfl
    go_wp2_with fail
    go_end0
    rw [HE2.out]
    exact ⟨rfl, HK5.out, HB5.out⟩
  | true =>
    have HE2 : Hid (s' = { s with x := 0, y := s.top, late := false }) := by unfold Hid; rw [HR.out, hmo]; rfl
    have k6 : ShAt 64 (Y.setCell ⟨p, 4, none⟩ (.int .i64 s.top)) M N p { s with x := 0, y := s.top, late := false } rows := ShAt.set sheet_is HK5.out 4 _ (fun _ _ _ _ => rfl) rfl rfl
    have HK6 : Hid (ShAt 64 (Y.setCell ⟨p, 4, none⟩ (.int .i64 s.top)) M N p { s with x := 0, y := s.top, late := false } rows) := k6
    obtain ⟨c0, c1, c3, c4, c5, c9, c10, c11, c19, f⟩ := ShAt.words HK5.out
    have f4 := f 4
    clear k6 f c0 c1 c3 c5 c10 c11 c19
    go_wp2_with fail
    go_end0
    rw [HE2.out]
    exact ⟨rfl, HK6.out, HB5.out.setCell hlo _⟩
end Put
end Go.Proofs.YtnkeahfcpbepjaaGreatDoor

/- Package mode: the closure of Set. (Written by gen_modeset.py.) -/
namespace Go.Proofs.YtnkeahfcpbepjaaGreatDoor
open Go.ChangeShapes Go.WideShapes Go.ChangeAt Go.RowKit
namespace Put
open Grd (C)
theorem set_other {W : World} {B p : Nat} (h : B ≠ p) (i : Nat) (v : Value) : (W.setCell ⟨p, i, none⟩ v).cell? ⟨B, 0, none⟩ = W.cell? ⟨B, 0, none⟩ := by
  unfold World.cell?
  rw [store_off h]
theorem drew_cell {W : World} {a : Addr} {v : Value} (h : W.cell? a = some v) : W.drew.cell? a = some v := cell_stay ((Below.refl _ _).drew) h
set_option maxHeartbeats 4000000 in
theorem set_does (b : Int) (on : Bool) (B1 B2 M : Nat) (w : World) (s : Scr) (rows : List (List C)) (hB1 : w.cell? ⟨B1, 0, none⟩ = some (.int .i64 b)) (hB2 : w.cell? ⟨B2, 0, none⟩ = some (.bool on)) (h1 : B1 < w.heap.size) (h2 : B2 < w.heap.size) :
    Does 53 #[.pointer (some ⟨B1, 0, none⟩), .pointer (some ⟨B2, 0, none⟩)] M w s (setS s b on) rows rows := by
  intro W p hb hS
  have hlo := hS.lo
  have hne1 : B1 ≠ p := by omega
  have hne2 : B2 ≠ p := by omega
  have q1 := cell_stay hb hB1
  have q2 := cell_stay hb hB2
  have k1 : ShAt 64 (W.setCell ⟨p, 11, none⟩ (.int .i64 (bits .andNot .i64 s.modes b))) M w.heap.size p { s with modes := bits .andNot .i64 s.modes b } rows := hS.set sheet_is 11 _ (fun _ _ _ _ => rfl) rfl rfl
  have HK1 : Hid (ShAt 64 (W.setCell ⟨p, 11, none⟩ (.int .i64 (bits .andNot .i64 s.modes b))).drew M w.heap.size p { s with modes := bits .andNot .i64 s.modes b } rows) := k1.drew
  clear k1
  have HB1 : Hid (Below w.heap.size W (W.setCell ⟨p, 11, none⟩ (.int .i64 (bits .andNot .i64 s.modes b))).drew) := ((Below.refl _ _).setCell hlo _).drew
  have HQ1 : Hid ((W.setCell ⟨p, 11, none⟩ (.int .i64 (bits .andNot .i64 s.modes b))).drew.cell? ⟨B1, 0, none⟩ = some (.int .i64 b)) := drew_cell ((set_other hne1 _ _).trans q1)
  have HQ2 : Hid ((W.setCell ⟨p, 11, none⟩ (.int .i64 (bits .andNot .i64 s.modes b))).drew.cell? ⟨B2, 0, none⟩ = some (.bool on)) := drew_cell ((set_other hne2 _ _).trans q2)
  obtain ⟨c0, c1, c3, c4, c5, c9, c10, c11, c19, f⟩ := hS.words
  have f11 := f 11
  have HR : Hid (setS s b on = lateIf (homeIf b { s with modes := modesI s.modes b on })) := rfl
  generalize setS s b on = s' at *
  clear hB1 hB2 hS f c0 c1 c3 c4 c5 c9 c10 c19 hb h1 h2
  show Calls _ _ #[.pointer (some ⟨p, 0, none⟩), .pointer (some ⟨B1, 0, none⟩), .pointer (some ⟨B2, 0, none⟩)] _ _
  go_enter Tryz.func53, Tryz.ntmps53
  go_upto_region 0 with fail
  go_region
  all_goals (
    generalize (W.setCell ⟨p, 11, none⟩ (.int .i64 (bits .andNot .i64 s.modes b))).drew = Y at *
    clear q1 q2 c11 f11
    have q1 := HQ1.out
    have q2 := HQ2.out
    clear HQ1 HQ2
    cases on with
    | false =>
      have KY : Hid (ShAt 64 Y M w.heap.size p { s with modes := modesI s.modes b false } rows) := HK1.out
      have BY : Hid (Below w.heap.size W Y) := HB1.out
      clear HK1 HB1
      obtain ⟨s1, hs1⟩ : ∃ s1, s1 = { s with modes := modesI s.modes b false } := ⟨_, rfl⟩
      rw [← hs1] at HR KY
      clear hs1
      by_cases hz : bits .and .i64 b 2 = 0
      · have HZ : (bits .and .i64 b 2 == 0) = true := by simpa using hz
        have HS : Hid (s' = lateIf s1) := by unfold Hid; rw [HR.out, homeIf, if_pos hz]
        clear HR hz
        generalize s1 = s2 at *
        obtain ⟨c0, c1, c3, c4, c5, c9, c10, c11, c19, f⟩ := ShAt.words KY.out
        have f5 := f 5
        cases hl : s2.late with
        | false =>
          have HE : Hid (s' = { s2 with late := false }) := by unfold Hid; rw [HS.out]; unfold lateIf; rw [hl]; rfl
          have HK6 : Hid (ShAt 64 (Y.setCell ⟨p, 5, none⟩ (.bool false)) M w.heap.size p { s2 with late := false } rows) := ShAt.set sheet_is KY.out 5 _ (fun _ _ _ _ => rfl) rfl rfl
          have HB6 : Hid (Below w.heap.size W (Y.setCell ⟨p, 5, none⟩ (.bool false))) := BY.out.setCell hlo _
          rw [hl] at c5
          clear f c0 c1 c3 c4 c9 c10 c11 c19 KY BY HS
          go_wp2_with fail
          go_end0
          rw [HE.out]
          exact ⟨rfl, HK6.out, HB6.out⟩
        | true =>
          have HE : Hid (s' = { s2 with late := hasB s2.modes 4 }) := by unfold Hid; rw [HS.out]; unfold lateIf; rw [hl]; rfl
          have HH := has_any 4 _ KY.out
          have HK6 : Hid (ShAt 64 (Y.setCell ⟨p, 5, none⟩ (.bool (hasB s2.modes 4))) M w.heap.size p { s2 with late := hasB s2.modes 4 } rows) := ShAt.set sheet_is KY.out 5 _ (fun _ _ _ _ => rfl) rfl rfl
          have HB6 : Hid (Below w.heap.size W (Y.setCell ⟨p, 5, none⟩ (.bool (hasB s2.modes 4)))) := BY.out.setCell hlo _
          rw [hl] at c5
          clear f c0 c1 c3 c4 c9 c10 c11 c19 KY BY HS
          generalize hasB s2.modes 4 = hv at *
          go_wp2_with fail
          refine HH.mono ?_
          rintro e V ⟨rfl, hw⟩
          subst hw
          clear HH
          go_wp2_with fail
          go_end0
          rw [HE.out]
          exact ⟨rfl, HK6.out, HB6.out⟩
      · have HS0 : Hid (s' = lateIf (homeS s1)) := by unfold Hid; rw [HR.out, homeIf, if_neg hz]
        have HZ : (bits .and .i64 b 2 == 0) = false := by simpa using hz
        have HH := home_any _ KY.out
        have BY0 : Hid _ := BY
        clear HR hz KY BY
        go_wp2_with fail
        refine HH.mono ?_
        rintro e Z ⟨rfl, hky, hby⟩
        have KY : Hid (ShAt 64 Z M w.heap.size p (homeS s1) rows) := hky
        have BY : Hid (Below w.heap.size W Z) := BY0.out.trans hby
        clear HH BY0 hky hby q1
        generalize homeS s1 = s2 at *
        have HS : Hid (s' = lateIf s2) := HS0.out
        clear HS0
        obtain ⟨c0, c1, c3, c4, c5, c9, c10, c11, c19, f⟩ := ShAt.words KY.out
        have f5 := f 5
        cases hl : s2.late with
        | false =>
          have HE : Hid (s' = { s2 with late := false }) := by unfold Hid; rw [HS.out]; unfold lateIf; rw [hl]; rfl
          have HK6 : Hid (ShAt 64 (Z.setCell ⟨p, 5, none⟩ (.bool false)) M w.heap.size p { s2 with late := false } rows) := ShAt.set sheet_is KY.out 5 _ (fun _ _ _ _ => rfl) rfl rfl
          have HB6 : Hid (Below w.heap.size W (Z.setCell ⟨p, 5, none⟩ (.bool false))) := BY.out.setCell hlo _
          rw [hl] at c5
          clear f c0 c1 c3 c4 c9 c10 c11 c19 KY BY HS
          go_wp2_with fail
          go_end0
          rw [HE.out]
          exact ⟨rfl, HK6.out, HB6.out⟩
        | true =>
          have HE : Hid (s' = { s2 with late := hasB s2.modes 4 }) := by unfold Hid; rw [HS.out]; unfold lateIf; rw [hl]; rfl
          have HH := has_any 4 _ KY.out
          have HK6 : Hid (ShAt 64 (Z.setCell ⟨p, 5, none⟩ (.bool (hasB s2.modes 4))) M w.heap.size p { s2 with late := hasB s2.modes 4 } rows) := ShAt.set sheet_is KY.out 5 _ (fun _ _ _ _ => rfl) rfl rfl
          have HB6 : Hid (Below w.heap.size W (Z.setCell ⟨p, 5, none⟩ (.bool (hasB s2.modes 4)))) := BY.out.setCell hlo _
          rw [hl] at c5
          clear f c0 c1 c3 c4 c9 c10 c11 c19 KY BY HS
          generalize hasB s2.modes 4 = hv at *
          go_wp2_with fail
          refine HH.mono ?_
          rintro e V ⟨rfl, hw⟩
          subst hw
          clear HH
          go_wp2_with fail
          go_end0
          rw [HE.out]
          exact ⟨rfl, HK6.out, HB6.out⟩
    | true =>
      have k2 : ShAt 64 (Y.setCell ⟨p, 11, none⟩ (.int .i64 (bits .or .i64 (bits .andNot .i64 s.modes b) b))) M w.heap.size p { s with modes := modesI s.modes b true } rows := ShAt.set sheet_is HK1.out 11 _ (fun _ _ _ _ => rfl) rfl rfl
      have HK2 : Hid (ShAt 64 (Y.setCell ⟨p, 11, none⟩ (.int .i64 (bits .or .i64 (bits .andNot .i64 s.modes b) b))).drew M w.heap.size p { s with modes := modesI s.modes b true } rows) := k2.drew
      clear k2
      have HB2 : Hid (Below w.heap.size W (Y.setCell ⟨p, 11, none⟩ (.int .i64 (bits .or .i64 (bits .andNot .i64 s.modes b) b))).drew) := (HB1.out.setCell hlo _).drew
      have HQ1 : Hid ((Y.setCell ⟨p, 11, none⟩ (.int .i64 (bits .or .i64 (bits .andNot .i64 s.modes b) b))).drew.cell? ⟨B1, 0, none⟩ = some (.int .i64 b)) := drew_cell ((set_other hne1 _ _).trans q1)
      obtain ⟨s1, hs1⟩ : ∃ s1, s1 = { s with modes := modesI s.modes b true } := ⟨_, rfl⟩
      rw [← hs1] at HR HK2
      obtain ⟨c0, c1, c3, c4, c5, c9, c10, c11, c19, f⟩ := ShAt.words HK1.out
      have f11 := f 11
      dsimp only at c11
      clear HK1 HB1 f c0 c1 c3 c4 c5 c9 c10 c19
      go_upto_region 2 with fail
      go_region
      all_goals (
        generalize (Y.setCell ⟨p, 11, none⟩ (.int .i64 (bits .or .i64 (bits .andNot .i64 s.modes b) b))).drew = Y2 at *
        clear q1 q2 c11 f11 hs1
        have q1 := HQ1.out
        have KY : Hid (ShAt 64 Y2 M w.heap.size p s1 rows) := HK2
        have BY : Hid (Below w.heap.size W Y2) := HB2
        clear HQ1 HK2 HB2
        by_cases hz : bits .and .i64 b 2 = 0
        · have HZ : (bits .and .i64 b 2 == 0) = true := by simpa using hz
          have HS : Hid (s' = lateIf s1) := by unfold Hid; rw [HR.out, homeIf, if_pos hz]
          clear HR hz
          generalize s1 = s2 at *
          obtain ⟨c0, c1, c3, c4, c5, c9, c10, c11, c19, f⟩ := ShAt.words KY.out
          have f5 := f 5
          cases hl : s2.late with
          | false =>
            have HE : Hid (s' = { s2 with late := false }) := by unfold Hid; rw [HS.out]; unfold lateIf; rw [hl]; rfl
            have HK6 : Hid (ShAt 64 (Y2.setCell ⟨p, 5, none⟩ (.bool false)) M w.heap.size p { s2 with late := false } rows) := ShAt.set sheet_is KY.out 5 _ (fun _ _ _ _ => rfl) rfl rfl
            have HB6 : Hid (Below w.heap.size W (Y2.setCell ⟨p, 5, none⟩ (.bool false))) := BY.out.setCell hlo _
            rw [hl] at c5
            clear f c0 c1 c3 c4 c9 c10 c11 c19 KY BY HS
            go_wp2_with fail
            go_end0
            rw [HE.out]
            exact ⟨rfl, HK6.out, HB6.out⟩
          | true =>
            have HE : Hid (s' = { s2 with late := hasB s2.modes 4 }) := by unfold Hid; rw [HS.out]; unfold lateIf; rw [hl]; rfl
            have HH := has_any 4 _ KY.out
            have HK6 : Hid (ShAt 64 (Y2.setCell ⟨p, 5, none⟩ (.bool (hasB s2.modes 4))) M w.heap.size p { s2 with late := hasB s2.modes 4 } rows) := ShAt.set sheet_is KY.out 5 _ (fun _ _ _ _ => rfl) rfl rfl
            have HB6 : Hid (Below w.heap.size W (Y2.setCell ⟨p, 5, none⟩ (.bool (hasB s2.modes 4)))) := BY.out.setCell hlo _
            rw [hl] at c5
            clear f c0 c1 c3 c4 c9 c10 c11 c19 KY BY HS
            generalize hasB s2.modes 4 = hv at *
            go_wp2_with fail
            refine HH.mono ?_
            rintro e V ⟨rfl, hw⟩
            subst hw
            clear HH
            go_wp2_with fail
            go_end0
            rw [HE.out]
            exact ⟨rfl, HK6.out, HB6.out⟩
        · have HS0 : Hid (s' = lateIf (homeS s1)) := by unfold Hid; rw [HR.out, homeIf, if_neg hz]
          have HZ : (bits .and .i64 b 2 == 0) = false := by simpa using hz
          have HH := home_any _ KY.out
          have BY0 : Hid _ := BY
          clear HR hz KY BY
          go_wp2_with fail
          refine HH.mono ?_
          rintro e Z ⟨rfl, hky, hby⟩
          have KY : Hid (ShAt 64 Z M w.heap.size p (homeS s1) rows) := hky
          have BY : Hid (Below w.heap.size W Z) := BY0.out.trans hby
          clear HH BY0 hky hby q1
          generalize homeS s1 = s2 at *
          have HS : Hid (s' = lateIf s2) := HS0.out
          clear HS0
          obtain ⟨c0, c1, c3, c4, c5, c9, c10, c11, c19, f⟩ := ShAt.words KY.out
          have f5 := f 5
          cases hl : s2.late with
          | false =>
            have HE : Hid (s' = { s2 with late := false }) := by unfold Hid; rw [HS.out]; unfold lateIf; rw [hl]; rfl
            have HK6 : Hid (ShAt 64 (Z.setCell ⟨p, 5, none⟩ (.bool false)) M w.heap.size p { s2 with late := false } rows) := ShAt.set sheet_is KY.out 5 _ (fun _ _ _ _ => rfl) rfl rfl
            have HB6 : Hid (Below w.heap.size W (Z.setCell ⟨p, 5, none⟩ (.bool false))) := BY.out.setCell hlo _
            rw [hl] at c5
            clear f c0 c1 c3 c4 c9 c10 c11 c19 KY BY HS
            go_wp2_with fail
            go_end0
            rw [HE.out]
            exact ⟨rfl, HK6.out, HB6.out⟩
          | true =>
            have HE : Hid (s' = { s2 with late := hasB s2.modes 4 }) := by unfold Hid; rw [HS.out]; unfold lateIf; rw [hl]; rfl
            have HH := has_any 4 _ KY.out
            have HK6 : Hid (ShAt 64 (Z.setCell ⟨p, 5, none⟩ (.bool (hasB s2.modes 4))) M w.heap.size p { s2 with late := hasB s2.modes 4 } rows) := ShAt.set sheet_is KY.out 5 _ (fun _ _ _ _ => rfl) rfl rfl
            have HB6 : Hid (Below w.heap.size W (Z.setCell ⟨p, 5, none⟩ (.bool (hasB s2.modes 4)))) := BY.out.setCell hlo _
            rw [hl] at c5
            clear f c0 c1 c3 c4 c9 c10 c11 c19 KY BY HS
            generalize hasB s2.modes 4 = hv at *
            go_wp2_with fail
            refine HH.mono ?_
            rintro e V ⟨rfl, hw⟩
            subst hw
            clear HH
            go_wp2_with fail
            go_end0
            rw [HE.out]
            exact ⟨rfl, HK6.out, HB6.out⟩
))
end Put
end Go.Proofs.YtnkeahfcpbepjaaGreatDoor

/- The look and what is kept of a sheet's or a desk's block: read and written as a whole. -/
namespace Go.Proofs.YtnkeahfcpbepjaaGreatDoor
open Go.ChangeShapes Go.WideShapes Go.ChangeAt Go.RowKit
namespace Put
open Grd (C)
theorem there_sh {W : World} {R : Nat} {t : TypeId} {s : Scr} {cv tv gv rv : Value} (h : W.heap[R]? = some (.cells (shA s cv tv gv rv) t (0, 0))) (o n : Nat) (hn : o + n ≤ 23) : W.there R o n := fun j hj => by
  refine ⟨?_, Grd.frozen_of h _⟩
  unfold World.cell?
  rw [h]
  have : o + j < (shA s cv tv gv rv).size := by show o + j < 23; omega
  simp [Array.getElem?_eq_getElem this]
theorem range_look {W : World} {R : Nat} {t : TypeId} {s : Scr} {cv tv gv rv : Value} (h : W.heap[R]? = some (.cells (shA s cv tv gv rv) t (0, 0))) : W.rangeAt R 6 [.int .i64 s.sf, .int .i64 s.sb, .int .i64 s.sx] := by
  have := World.rangeAt_of_block h 6 3
  exact this
theorem range_kept {W : World} {R : Nat} {t : TypeId} {s : Scr} {cv tv gv rv : Value} (h : W.heap[R]? = some (.cells (shA s cv tv gv rv) t (0, 0))) : W.rangeAt R 15 [.int .i64 s.kf, .int .i64 s.kb, .int .i64 s.kbits] := by
  have := World.rangeAt_of_block h 15 3
  exact this
theorem ShAt.block {t : TypeId} {W : World} {M N p : Nat} {s : Scr} {rows : List (List C)} (h : ShAt t W M N p s rows) : ∃ cv tv gv rv, W.heap[p]? = some (.cells (shA s cv tv gv rv) t (0, 0)) := by
  obtain ⟨cv, tv, gv, rv, gvs, vs, h⟩ := h
  exact ⟨cv, tv, gv, rv, h.blk⟩
theorem below_cells {N : Nat} {W W' : World} {p : Nat} (hb : Below N W W') (hp : N ≤ p) : ∀ (vs : List Value) (o : Nat), Below N W (W'.setCells p o vs)
  | [], _ => hb
  | v :: r, o => below_cells (hb.setCell hp v) hp r (o + 1)
/-- A look is stored. -/
theorem ShAt.look {t : TypeId} (ht : IsSheet t) {W : World} {M N p : Nat} {s : Scr} {rows : List (List C)} (h : ShAt t W M N p s rows) (a b c : Int) : ShAt t (W.setCells p 6 [.int .i64 a, .int .i64 b, .int .i64 c]) M N p { s with sf := a, sb := b, sx := c } rows := by
  have h1 : ShAt t (W.setCell ⟨p, 6, none⟩ (.int .i64 a)) M N p { s with sf := a } rows := h.set ht 6 _ (fun _ _ _ _ => rfl) rfl rfl
  have h2 : ShAt t ((W.setCell ⟨p, 6, none⟩ (.int .i64 a)).setCell ⟨p, 7, none⟩ (.int .i64 b)) M N p { s with sf := a, sb := b } rows := h1.set ht 7 _ (fun _ _ _ _ => rfl) rfl rfl
  exact h2.set ht 8 _ (fun _ _ _ _ => rfl) rfl rfl
/-- What is kept is stored. -/
theorem ShAt.kept {t : TypeId} (ht : IsSheet t) {W : World} {M N p : Nat} {s : Scr} {rows : List (List C)} (h : ShAt t W M N p s rows) (x y a b c m : Int) : ShAt t (W.setCells p 13 [.int .i64 x, .int .i64 y, .int .i64 a, .int .i64 b, .int .i64 c, .int .i64 m]) M N p { s with kx := x, ky := y, kf := a, kb := b, kbits := c, km := m } rows := by
  have h1 : ShAt t (W.setCell ⟨p, 13, none⟩ (.int .i64 x)) M N p { s with kx := x } rows := h.set ht 13 _ (fun _ _ _ _ => rfl) rfl rfl
  have h2 : ShAt t ((W.setCell ⟨p, 13, none⟩ (.int .i64 x)).setCell ⟨p, 14, none⟩ (.int .i64 y)) M N p { s with kx := x, ky := y } rows := h1.set ht 14 _ (fun _ _ _ _ => rfl) rfl rfl
  have h3 : ShAt t (((W.setCell ⟨p, 13, none⟩ (.int .i64 x)).setCell ⟨p, 14, none⟩ (.int .i64 y)).setCell ⟨p, 15, none⟩ (.int .i64 a)) M N p { s with kx := x, ky := y, kf := a } rows := h2.set ht 15 _ (fun _ _ _ _ => rfl) rfl rfl
  have h4 : ShAt t ((((W.setCell ⟨p, 13, none⟩ (.int .i64 x)).setCell ⟨p, 14, none⟩ (.int .i64 y)).setCell ⟨p, 15, none⟩ (.int .i64 a)).setCell ⟨p, 16, none⟩ (.int .i64 b)) M N p { s with kx := x, ky := y, kf := a, kb := b } rows := h3.set ht 16 _ (fun _ _ _ _ => rfl) rfl rfl
  have h5 : ShAt t (((((W.setCell ⟨p, 13, none⟩ (.int .i64 x)).setCell ⟨p, 14, none⟩ (.int .i64 y)).setCell ⟨p, 15, none⟩ (.int .i64 a)).setCell ⟨p, 16, none⟩ (.int .i64 b)).setCell ⟨p, 17, none⟩ (.int .i64 c)) M N p { s with kx := x, ky := y, kf := a, kb := b, kbits := c } rows := h4.set ht 17 _ (fun _ _ _ _ => rfl) rfl rfl
  exact h5.set ht 18 _ (fun _ _ _ _ => rfl) rfl rfl
theorem info_style : (Tryz.prog.info? 26).map (·.size) = some 3 := by kernel_rfl
theorem info_kept : (Tryz.prog.info? 29).map (·.size) = some 6 := by kernel_rfl
def StyPtr (W : World) (v : Value) : Prop := ∃ R o cs t fr, v = .pointer (some ⟨R, o, none⟩) ∧ W.heap[R]? = some (.cells cs t fr) ∧ o + 3 ≤ cs.size
def styOf (W : World) (v : Value) : Array Value := match v with
  | .pointer (some a) => (match W.heap[a.block]? with
    | some (.cells cs _ _) => cs.extract a.off (a.off + 3)
    | _ => #[])
  | _ => #[]
theorem load_sty (a : Act) (dst : Option Tmp) (x : Operand) (ty : TypeId) (pos : String) (after : Array Edge) (guard : Option (Nat × Bool)) (W : World) (h : StyPtr W (a.eval x)) :
    (execOp a.eval { dst, op := .load 26 x, type := ty, pos, after, guard }).run Tryz.prog W = .ok (.value (.agg (styOf W (a.eval x)))) W := by
  obtain ⟨R, o, cs, t, fr, h0, h1, h2⟩ := h
  have e : styOf W (a.eval x) = cs.extract o (o + 3) := by rw [h0]; unfold styOf; simp only []; rw [h1]
  rw [e]
  have hr := run_loadVar_mid (P := Tryz.prog) W R o 26 (cs.extract o (o + 3)).toList _ (World.rangeAt_of_block h1 o 3) Tryz.underlying26 rfl (by rw [info_style]; simp; omega)
  unfold execOp
  simp only [h0, Instr.loadAt, Instr.sureAddr, Sem.run_bind, Sem.run_pure, Result.andThen_ok, hr]
theorem sty_look {W : World} {R : Nat} {t : TypeId} {s : Scr} {cv tv gv rv : Value} (h : W.heap[R]? = some (.cells (shA s cv tv gv rv) t (0, 0))) : StyPtr W (.pointer (some ⟨R, 6, none⟩)) ∧ styOf W (.pointer (some ⟨R, 6, none⟩)) = #[.int .i64 s.sf, .int .i64 s.sb, .int .i64 s.sx] := by
  refine ⟨⟨_, _, _, _, _, rfl, h, by show 9 ≤ 23; omega⟩, ?_⟩
  unfold styOf
  simp only []
  rw [h]
  rfl
theorem sty_kept {W : World} {R : Nat} {t : TypeId} {s : Scr} {cv tv gv rv : Value} (h : W.heap[R]? = some (.cells (shA s cv tv gv rv) t (0, 0))) : StyPtr W (.pointer (some ⟨R, 15, none⟩)) ∧ styOf W (.pointer (some ⟨R, 15, none⟩)) = #[.int .i64 s.kf, .int .i64 s.kb, .int .i64 s.kbits] := by
  refine ⟨⟨_, _, _, _, _, rfl, h, by show 18 ≤ 23; omega⟩, ?_⟩
  unfold styOf
  simp only []
  rw [h]
  rfl
def ptrOff (v : Value) : Nat := match v with
  | .pointer (some a) => a.off
  | _ => 0
def ptrB (v : Value) : Nat := match v with
  | .pointer (some a) => a.block
  | _ => 0
def aggL (v : Value) : List Value := match v with
  | .agg cs => cs.toList
  | _ => []
theorem ptrOff_at (a : Addr) : ptrOff (.pointer (some a)) = a.off := rfl
theorem ptrB_at (a : Addr) : ptrB (.pointer (some a)) = a.block := rfl
theorem aggL_agg (cs : Array Value) : aggL (.agg cs) = cs.toList := rfl
def HasPtr (n : Nat) (W : World) (v : Value) : Prop := ∃ R o, v = .pointer (some ⟨R, o, none⟩) ∧ W.there R o n
def IsInts (n : Nat) (v : Value) : Prop := ∃ cs : Array Value, v = .agg cs ∧ cs.size = n ∧ cs.all (·.oneCell') = true
theorem isInts3 (a b c : Int) : IsInts 3 (.agg #[.int .i64 a, .int .i64 b, .int .i64 c]) := ⟨_, rfl, rfl, by simp [Value.oneCell']⟩
theorem isInts6 (a b c d e f : Int) : IsInts 6 (.agg #[.int .i64 a, .int .i64 b, .int .i64 c, .int .i64 d, .int .i64 e, .int .i64 f]) := ⟨_, rfl, rfl, by simp [Value.oneCell']⟩
theorem store_sty (a : Act) (dst : Option Tmp) (x y : Operand) (ty : TypeId) (pos : String) (after : Array Edge) (guard : Option (Nat × Bool)) (W : World) (h : HasPtr 3 W (a.eval x)) (hy : IsInts 3 (a.eval y)) :
    (execOp a.eval { dst, op := .store 26 x y, type := ty, pos, after, guard }).run Tryz.prog W = .ok .skip (W.setCells (ptrB (a.eval x)) (ptrOff (a.eval x)) (aggL (a.eval y))) := by
  obtain ⟨R, o, h0, h1⟩ := h
  obtain ⟨cs, h2, h3, h4⟩ := hy
  have hr := run_storeVar_mid (P := Tryz.prog) W R o 26 cs (by rw [h3]; exact h1) (by rw [info_style, h3]) h4
  unfold execOp
  simp only [h0, h2, Instr.storeAt, Instr.sureAddr, Sem.run_bind, Sem.run_pure, Result.andThen_ok, hr, ptrB_at, ptrOff_at, aggL_agg]
theorem store_kept (a : Act) (dst : Option Tmp) (x y : Operand) (ty : TypeId) (pos : String) (after : Array Edge) (guard : Option (Nat × Bool)) (W : World) (h : HasPtr 6 W (a.eval x)) (hy : IsInts 6 (a.eval y)) :
    (execOp a.eval { dst, op := .store 29 x y, type := ty, pos, after, guard }).run Tryz.prog W = .ok .skip (W.setCells (ptrB (a.eval x)) (ptrOff (a.eval x)) (aggL (a.eval y))) := by
  obtain ⟨R, o, h0, h1⟩ := h
  obtain ⟨cs, h2, h3, h4⟩ := hy
  have hr := run_storeVar_mid (P := Tryz.prog) W R o 29 cs (by rw [h3]; exact h1) (by rw [info_kept, h3]) h4
  unfold execOp
  simp only [h0, h2, Instr.storeAt, Instr.sureAddr, Sem.run_bind, Sem.run_pure, Result.andThen_ok, hr, ptrB_at, ptrOff_at, aggL_agg]
theorem has_sh {W : World} {R : Nat} {t : TypeId} {s : Scr} {cv tv gv rv : Value} (h : W.heap[R]? = some (.cells (shA s cv tv gv rv) t (0, 0))) (n o : Nat) (hn : o + n ≤ 23) : HasPtr n W (.pointer (some ⟨R, o, none⟩)) := ⟨R, o, rfl, there_sh h o n hn⟩
end Put
end Go.Proofs.YtnkeahfcpbepjaaGreatDoor

/- Package mode: the closures of Save and Restore. -/
namespace Go.Proofs.YtnkeahfcpbepjaaGreatDoor
open Go.ChangeShapes Go.WideShapes Go.ChangeAt Go.RowKit
namespace Put
open Grd (C)
section
attribute [local go_sem ↓] load_sty store_sty store_kept
attribute [local go_sem] isInts3 isInts6 ptrB_at ptrOff_at aggL_agg
set_option maxHeartbeats 4000000 in
theorem save_does (M : Nat) (w : World) (s : Scr) (rows : List (List C)) :
    Does 56 #[] M w s (saveS s) rows rows := by
  intro W p hb hS
  have hlo := hS.lo
  have HK : Hid (ShAt 64 (W.drew.setCells p 13 [.int .i64 s.x, .int .i64 s.y, .int .i64 s.sf, .int .i64 s.sb, .int .i64 s.sx, .int .i64 (bits .and .i64 s.modes 6)]) M w.heap.size p (saveS s) rows) := hS.drew.kept sheet_is _ _ _ _ _ _
  have HB : Hid (Below w.heap.size W (W.drew.setCells p 13 [.int .i64 s.x, .int .i64 s.y, .int .i64 s.sf, .int .i64 s.sb, .int .i64 s.sx, .int .i64 (bits .and .i64 s.modes 6)]) ) := below_cells (Below.refl _ _).drew hlo _ _
  obtain ⟨c0, c1, c3, c4, c5, c9, c10, c11, c19, f⟩ := hS.words
  obtain ⟨cv, tv, gv, rv, hblk⟩ := hS.drew.block
  obtain ⟨l1, l2⟩ := sty_look hblk
  have l3 := has_sh hblk 6 13 (by omega)
  clear hS c0 c1 c5 c9 c10 c19 f hblk hb
  show Calls _ _ #[.pointer (some ⟨p, 0, none⟩)] _ _
  go_enter Tryz.func56, Tryz.ntmps56
  go_upto_region 0 with fail
  go_region
  all_goals go_end0
  all_goals exact ⟨rfl, HK.out, HB.out⟩
set_option maxHeartbeats 4000000 in
theorem restore_does (M : Nat) (w : World) (s : Scr) (rows : List (List C)) :
    Does 57 #[] M w s (restS s) rows rows := by
  intro W p hb hS
  have hlo := hS.lo
  have hD := hS.drew
  have k1 : ShAt 64 (W.setCell ⟨p, 3, none⟩ (.int .i64 s.kx)) M w.heap.size p { s with x := s.kx } rows := hS.set sheet_is 3 _ (fun _ _ _ _ => rfl) rfl rfl
  have k2' : ShAt 64 ((W.setCell ⟨p, 3, none⟩ (.int .i64 s.kx)).setCell ⟨p, 4, none⟩ (.int .i64 s.ky)) M w.heap.size p { s with x := s.kx, y := s.ky } rows := k1.set sheet_is 4 _ (fun _ _ _ _ => rfl) rfl rfl
  have k2 := k2'.drew
  clear k2'
  have k3 : ShAt 64 (((W.setCell ⟨p, 3, none⟩ (.int .i64 s.kx)).setCell ⟨p, 4, none⟩ (.int .i64 s.ky)).drew.setCells p 6 [.int .i64 s.kf, .int .i64 s.kb, .int .i64 s.kbits]) M w.heap.size p { s with x := s.kx, y := s.ky, sf := s.kf, sb := s.kb, sx := s.kbits } rows := k2.look sheet_is s.kf s.kb s.kbits
  have k4 : ShAt 64 ((((W.setCell ⟨p, 3, none⟩ (.int .i64 s.kx)).setCell ⟨p, 4, none⟩ (.int .i64 s.ky)).drew.setCells p 6 [.int .i64 s.kf, .int .i64 s.kb, .int .i64 s.kbits]).setCell ⟨p, 5, none⟩ (.bool false)) M w.heap.size p { s with x := s.kx, y := s.ky, sf := s.kf, sb := s.kb, sx := s.kbits, late := false } rows := k3.set sheet_is 5 _ (fun _ _ _ _ => rfl) rfl rfl
  have HB : Hid (Below w.heap.size W ((((W.setCell ⟨p, 3, none⟩ (.int .i64 s.kx)).setCell ⟨p, 4, none⟩ (.int .i64 s.ky)).drew.setCells p 6 [.int .i64 s.kf, .int .i64 s.kb, .int .i64 s.kbits]).setCell ⟨p, 5, none⟩ (.bool false))) := (below_cells (((Below.refl _ _).setCell hlo _).setCell hlo _).drew hlo _ _).setCell hlo _
  have HK : Hid _ := k4
  obtain ⟨c0, c1, c3, c4, c5, c9, c10, c11, c19, f⟩ := hS.words
  have f3 := f 3
  have f4 := (ShAt.words k1).2.2.2.2.2.2.2.2.2 4
  have c4' := (ShAt.words k1).2.2.2.1
  have f5 := (ShAt.words k3).2.2.2.2.2.2.2.2.2 5
  have c5' := (ShAt.words k3).2.2.2.2.1
  dsimp only at c4' c5'
  obtain ⟨cv, tv, gv, rv, hblk⟩ := hD.block
  obtain ⟨cv2, tv2, gv2, rv2, hblk2⟩ := k2.block
  obtain ⟨l1, l2⟩ := sty_kept hblk
  have l3 := has_sh hblk2 3 6 (by omega)
  obtain ⟨cv3, tv3, gv3, rv3, hblk3⟩ := hS.block
  obtain ⟨-, ⟨-, -, c13, c14, -⟩, -⟩ := sh_cells hblk3
  clear hS hD hblk3 k1 k2 k3 k4 c0 c1 c4 c5 c9 c10 c11 c19 f hblk hblk2 hb
  show Calls _ _ #[.pointer (some ⟨p, 0, none⟩)] _ _
  go_enter Tryz.func57, Tryz.ntmps57
  go_upto_region 0 with fail
  go_region
  all_goals (
    generalize ((((W.setCell ⟨p, 3, none⟩ (.int .i64 s.kx)).setCell ⟨p, 4, none⟩ (.int .i64 s.ky)).drew.setCells p 6 [.int .i64 s.kf, .int .i64 s.kb, .int .i64 s.kbits]).setCell ⟨p, 5, none⟩ (.bool false)) = Y at *
    clear c3 f3 f4 c4' f5 c5' l1 l2 l3 c13 c14
    obtain ⟨c0, c1, c3, c4, c5, c9, c10, c11, c19, f⟩ := ShAt.words (ShAt.drew HK.out)
    have f11 := f 11
    obtain ⟨cv, tv, gv, rv, hblk⟩ := ShAt.block (ShAt.drew HK.out)
    obtain ⟨-, ⟨-, -, -, -, -, -, -, c18, -⟩, -⟩ := sh_cells hblk
    dsimp only at c11 c18
    have HK2 : Hid (ShAt 64 (Y.drew.setCell ⟨p, 11, none⟩ (.int .i64 (bits .or .i64 (bits .andNot .i64 s.modes 6) s.km))) M w.heap.size p (restS s) rows) := ShAt.set sheet_is (ShAt.drew HK.out) 11 _ (fun _ _ _ _ => rfl) rfl rfl
    have HB2 : Hid (Below w.heap.size W (Y.drew.setCell ⟨p, 11, none⟩ (.int .i64 (bits .or .i64 (bits .andNot .i64 s.modes 6) s.km)))) := HB.out.drew.setCell hlo _
    clear HK HB f c0 c1 c3 c4 c5 c9 c10 c19 hblk
    go_upto_region 1 with fail
    go_region
    all_goals go_end0
    all_goals exact ⟨rfl, HK2.out, HB2.out⟩)
end
end Put
end Go.Proofs.YtnkeahfcpbepjaaGreatDoor

/- trellislaw.ownScreen, noScreen. -/
namespace Go.Proofs.YtnkeahfcpbepjaaGreatDoor
open Go.ChangeShapes Go.WideShapes Go.ChangeAt Go.RowKit
namespace Put
open Grd (C SliceAt CellsAt gridErr z0 nilV)
/-- A screen that a machine holds. -/
structure Bulk (s : Scr) : Prop where
  f : Fits s
  c : s.cs.length ≤ 1048576
  r : ∀ row, row ∈ s.gone → row.length ≤ 1048576
theorem Bulk.small {s : Scr} (h : Bulk s) : Small s := ⟨by have := h.c; omega, by have := h.f.bl; omega, by have := h.f.gl; omega, fun row hr => by have := h.r row hr; omega⟩
theorem Bulk.row {s : Scr} (h : Bulk s) (k : Nat) (hk : k < s.gone.length) : (s.gone.getD k []).length ≤ 1048576 := by
  have e : s.gone.getD k [] = s.gone[k] := by simp [List.getD, hk]
  rw [e]
  exact h.r _ (List.getElem_mem hk)
theorem cloneCells_any (v : Value) (N : Nat) (row : List C) (w : World) (h : SliceAt w v row) (hbig : row.length ≤ 1048576) :
    Calls Tryz.prog 115 #[v] w fun e w' => ∃ a c, e = .returned (.slice a row.length c) ∧ RowIn w' N (.slice a row.length c) row ∧ Below w.heap.size w w' := by
  rcases h with ⟨rfl, a, c, rfl⟩ | ⟨hr, b, o, c, rfl, h1, h2, h3⟩
  · refine (Grd.clone_empty a c w).mono ?_
    rintro e W ⟨a', c', rfl, hb⟩
    exact ⟨a', c', rfl, .inl ⟨rfl, a', c', rfl⟩, hb⟩
  · refine (Grd.clone_row b o c row w h3 (by omega)).mono ?_
    rintro e W ⟨v', g, rfl, hg, hR, hb⟩
    obtain ⟨a', c', hv⟩ := (rowIn_rowB (N := N) hR).shape
    subst hv
    exact ⟨a', c', rfl, rowIn_rowB hR, hb⟩
theorem Kept.grown {W W' : World} {N base : Nat} {v : Value} {n : Nat} {xs : List Value} (ho : W.ownsRow base 22 1 v n xs) (hb : N ≤ base) (hg : W.grownBy W' v.ownBlock) : Kept N W W' := fun k hk hS => hg.block k hk fun e => by
  obtain ⟨h1, A, f, hA⟩ := owns_block ho k e.symm
  rcases hS with hS | ⟨B, f', hS⟩
  · omega
  · rw [hA] at hS
    injection hS with hS
    injection hS with _ hS _
    exact absurd hS (by decide)
theorem own_grown {W W' : World} {N base : Nat} {e : TypeId} {u v : Value} {n m : Nat} {xs ys : List Value} (h : W.ownsRow N e 1 u m ys) (ho : W.ownsRow base 22 1 v n xs) (he : 22 ≠ e) (hg : W.grownBy W' v.ownBlock) : W'.ownsRow N e 1 u m ys :=
  owns_kept h fun k hk => by
    obtain ⟨-, B, f', hB⟩ := owns_block h k hk
    refine hg.block k (heap_lt hB) fun e' => ?_
    obtain ⟨h1, A, f, hA⟩ := owns_block ho k e'.symm
    rw [hA] at hB
    injection hB with hB
    injection hB with _ hB _
    exact he hB
theorem RowsIn.snoc {W : World} {N : Nat} {vs : List Value} {rows : List (List C)} (h : RowsIn W N vs rows) {v : Value} {row : List C} (hr : RowIn W N v row) : RowsIn W N (vs ++ [v]) (rows ++ [row]) := by
  refine ⟨by simp [h.1], fun i hi => ?_⟩
  rw [List.length_append, List.length_singleton] at hi
  by_cases e : i < rows.length
  · rw [Grd.getD_snoc_lt _ _ _ _ e, Grd.getD_snoc_lt _ _ _ _ (by rw [h.1]; exact e)]
    exact h.2 i e
  · have e1 : i = rows.length := by omega
    have e2 : (vs ++ [v]).getD i nilV = v := by rw [e1, ← h.1]; exact Grd.getD_snoc_eq _ _ _
    rw [e2, e1, Grd.getD_snoc_eq]
    exact hr
theorem take_next {α : Type} (l : List α) (k : Nat) (d : α) (h : k < l.length) : l.take (k + 1) = l.take k ++ [l.getD k d] := by
  rw [List.take_succ_eq_append_getElem h]
  simp [List.getD, h]
set_option maxHeartbeats 4000000 in
set_option maxRecDepth 100000 in
theorem ownScreen_any (s : Scr) (cv tv gv : Value) (w : World) (hV : ScrV w s cv tv gv) (hB : Bulk s) :
    Calls Tryz.prog 62 #[.agg (scrA s cv tv gv)] w fun e W' => ∃ cv' tv' gv', e = .returned (.agg (scrA s cv' tv' gv')) ∧ ScrV W' s cv' tv' gv' ∧ Below w.heap.size w W' := by
  obtain ⟨ca, cc, rfl⟩ := hV.c.shape
  obtain ⟨ta, tc, rfl⟩ := hV.t.slice
  obtain ⟨ga, gc, rfl⟩ := hV.g.slice
  obtain ⟨i0, hi, hzz⟩ := Option.map_eq_some_iff.1 info_rows
  simp only [Prod.mk.injEq] at hzz
  obtain ⟨hz0, hz1, hz2⟩ := hzz
  have hkb : Below w.heap.size w ((w.alloc (.cells (scrA s (.slice ca s.cs.length cc) (.slice ta s.tabs.length tc) (.slice ga s.gone.length gc)) 32)).alloc (.cells #[.int .i64 0, .int .i64 0, .slice none 0 0, .int .i64 0, .int .i64 0, .bool false, .int .i64 0, .int .i64 0, .int .i64 0, .int .i64 0, .int .i64 0, .int .i64 0, .slice none 0 0, .int .i64 0, .int .i64 0, .int .i64 0, .int .i64 0, .int .i64 0, .int .i64 0, .int .i32 0, .string ⟨#[]⟩, .slice none 0 0] 32)) := ((Below.refl _ _).alloc (Nat.le_refl _) _).alloc (by simp) _
  have hx0 : ((w.alloc (.cells (scrA s (.slice ca s.cs.length cc) (.slice ta s.tabs.length tc) (.slice ga s.gone.length gc)) 32)).alloc (.cells #[.int .i64 0, .int .i64 0, .slice none 0 0, .int .i64 0, .int .i64 0, .bool false, .int .i64 0, .int .i64 0, .int .i64 0, .int .i64 0, .int .i64 0, .int .i64 0, .slice none 0 0, .int .i64 0, .int .i64 0, .int .i64 0, .int .i64 0, .int .i64 0, .int .i64 0, .int .i32 0, .string ⟨#[]⟩, .slice none 0 0] 32)).heap[w.heap.size]? = some (.cells (scrA s (.slice ca s.cs.length cc) (.slice ta s.tabs.length tc) (.slice ga s.gone.length gc)) 32 (0, 0)) := (Below.heap_alloc _ _ _ (by simp)).trans (heap_alloc_new _ _)
  have hx1 : ((w.alloc (.cells (scrA s (.slice ca s.cs.length cc) (.slice ta s.tabs.length tc) (.slice ga s.gone.length gc)) 32)).alloc (.cells #[.int .i64 0, .int .i64 0, .slice none 0 0, .int .i64 0, .int .i64 0, .bool false, .int .i64 0, .int .i64 0, .int .i64 0, .int .i64 0, .int .i64 0, .int .i64 0, .slice none 0 0, .int .i64 0, .int .i64 0, .int .i64 0, .int .i64 0, .int .i64 0, .int .i64 0, .int .i32 0, .string ⟨#[]⟩, .slice none 0 0] 32)).heap[w.heap.size + 1]? = some (.cells (scrA zScr (.slice none 0 0) (.slice none 0 0) (.slice none 0 0)) 32 (0, 0)) := heap_alloc2_new w _ _
  have HX0 : Hid _ := hx0
  have HX1 : Hid _ := hx1
  have HKB : Hid _ := hkb
  have HV : Hid (ScrV w s _ _ _) := hV
  have HBK : Hid (Bulk s) := hB
  have hlt1 := heap_lt hx1
  clear hx0 hx1 hkb hV hB
  go_enter Tryz.func62, Tryz.ntmps62
  go_upto_region 1 with fail
  generalize ((w.alloc (.cells (scrA s (.slice ca s.cs.length cc) (.slice ta s.tabs.length tc) (.slice ga s.gone.length gc)) 32)).alloc (.cells #[.int .i64 0, .int .i64 0, .slice none 0 0, .int .i64 0, .int .i64 0, .bool false, .int .i64 0, .int .i64 0, .int .i64 0, .int .i64 0, .int .i64 0, .int .i64 0, .slice none 0 0, .int .i64 0, .int .i64 0, .int .i64 0, .int .i64 0, .int .i64 0, .int .i64 0, .int .i32 0, .string ⟨#[]⟩, .slice none 0 0] 32)) = X at *
  obtain ⟨⟨-, -, c2, -⟩, -, -⟩ := scr_cells HX0.out
  go_wp2_with fail
  refine (cloneCells_any _ w.heap.size s.cs X (HV.out.c.below HKB.out) HBK.out.c).mono ?_
  rintro e V1 ⟨a1, c1, rfl, hR1, b1⟩
  have hp1 := Grd.carry HX0.out b1
  have f2 := (scr_cells hp1).2.2 2
  have c2' := (scr_cells hp1).1.2.2.1
  have HP1 : Hid ((V1.setCell ⟨w.heap.size, 2, none⟩ (.slice a1 s.cs.length c1)).heap[w.heap.size]? = some (.cells (scrA s (.slice a1 s.cs.length c1) (.slice ta s.tabs.length tc) (.slice ga s.gone.length gc)) 32 (0, 0))) := store_at hp1 rfl
  have HQ1 : Hid ((V1.setCell ⟨w.heap.size, 2, none⟩ (.slice a1 s.cs.length c1)).heap[w.heap.size + 1]? = _) := (store_off (by omega)).trans (Grd.carry HX1.out b1)
  have HR1 : Hid (RowIn (V1.setCell ⟨w.heap.size, 2, none⟩ (.slice a1 s.cs.length c1)) w.heap.size (.slice a1 s.cs.length c1) s.cs) := hR1.keep (Kept.store hp1 (by decide) (Nat.le_refl _))
  have HB1 : Hid (Below w.heap.size w (V1.setCell ⟨w.heap.size, 2, none⟩ (.slice a1 s.cs.length c1))) := (HKB.out.trans (b1.mono HKB.out.size)).setCell (Nat.le_refl _) _
  have c12 := (scr_cells hp1).2.1.2.1
  clear hR1 b1 hp1 c2
  go_wp2_with fail
  refine (cloneBools_any _ s.tabs _ (HV.out.t.next HB1.out) HBK.out.f.bl).mono ?_
  rintro e V2 ⟨tv', rfl, ho2, b2⟩
  obtain ⟨a2, c2n, rfl⟩ := own_slice ho2
  have hp2 := Grd.carry HP1.out b2
  have f12 := (scr_cells hp2).2.2 12
  have c12' := (scr_cells hp2).2.1.2.1
  have HP2 : Hid ((V2.setCell ⟨w.heap.size, 12, none⟩ (.slice a2 s.tabs.length c2n)).heap[w.heap.size]? = some (.cells (scrA s (.slice a1 s.cs.length c1) (.slice a2 s.tabs.length c2n) (.slice ga s.gone.length gc)) 32 (0, 0))) := store_at hp2 rfl
  have HQ2 : Hid ((V2.setCell ⟨w.heap.size, 12, none⟩ (.slice a2 s.tabs.length c2n)).heap[w.heap.size + 1]? = _) := (store_off (by omega)).trans (Grd.carry HQ1.out b2)
  have HR2 : Hid (RowIn (V2.setCell ⟨w.heap.size, 12, none⟩ (.slice a2 s.tabs.length c2n)) w.heap.size (.slice a1 s.cs.length c1) s.cs) := (HR1.out.keep (Kept.of_below b2)).keep (Kept.store hp2 (by decide) (Nat.le_refl _))
  have HT2 : Hid ((V2.setCell ⟨w.heap.size, 12, none⟩ (.slice a2 s.tabs.length c2n)).ownsRow w.heap.size 4 1 (.slice a2 s.tabs.length c2n) s.tabs.length (s.tabs.map Value.bool)) := Grd.ownsRow_mono (own_off ho2 hp2 (by decide)) HB1.out.size
  have HB2 : Hid (Below w.heap.size w (V2.setCell ⟨w.heap.size, 12, none⟩ (.slice a2 s.tabs.length c2n))) := (HB1.out.trans (b2.mono HB1.out.size)).setCell (Nat.le_refl _) _
  have c21 := (scr_cells hp2).2.1.2.2.2.2.2.2.2.2.2.2
  clear ho2 b2 hp2 c12 c2' f2 HP1 HQ1 HR1 HB1
  go_wp2_with fail
  clear c21 c12' f12
  go_loopg [3, 19] s.gone.length (fun q v i wr => ∃ (k : Nat) (vs : List Value), i = .int .i64 (k : Int) ∧ k ≤ s.gone.length ∧ s.gone.length - k ≤ q ∧ wr.ownsRow (w.heap.size + 2) 22 1 v k vs ∧ RowsIn wr w.heap.size vs (s.gone.take k) ∧ Below w.heap.size w wr ∧ wr.heap[w.heap.size]? = some (.cells (scrA s (.slice a1 s.cs.length c1) (.slice a2 s.tabs.length c2n) (.slice ga s.gone.length gc)) 32 (0, 0)) ∧ wr.heap[w.heap.size + 1]? = some (.cells (scrA zScr (.slice none 0 0) (.slice none 0 0) (.slice none 0 0)) 32 (0, 0)) ∧ RowIn wr w.heap.size (.slice a1 s.cs.length c1) s.cs ∧ wr.ownsRow w.heap.size 4 1 (.slice a2 s.tabs.length c2n) s.tabs.length (s.tabs.map Value.bool))
  case atStart => exact ⟨0, [], rfl, by omega, by omega, World.ownsRow_nil _ _ _ _, ⟨by simp, fun i hi => absurd hi (by simp)⟩, HB2.out, HP2.out, HQ2.out, HR2.out, HT2.out⟩
  case round =>
    clear HB2 HP2 HQ2 HR2 HT2
    obtain ⟨k, vs, rfl, hk, hq, hown, hrows, hb, hp, hp1, hr, ht⟩ := hrel
    have HO : Hid (wr.ownsRow (w.heap.size + 2) 22 1 _ k vs) := hown
    have HRS : Hid (RowsIn wr w.heap.size vs (s.gone.take k)) := hrows
    have HB : Hid (Below w.heap.size w wr) := hb
    have HP : Hid _ := hp
    have HQ : Hid _ := hp1
    have HR : Hid (RowIn wr w.heap.size _ s.cs) := hr
    have HT : Hid (wr.ownsRow w.heap.size 4 1 _ s.tabs.length (s.tabs.map Value.bool)) := ht
    have hN := heap_lt hp1
    clear hown hrows hb hr ht
    by_cases hlt : k < s.gone.length
    · have lt1 : ((k : Int) < (s.gone.length : Int)) := by omega
      rcases HV.out.g with ⟨he, -⟩ | ⟨b, o, c, hvv, -, -, hc⟩
      · rw [he] at hlt
        exact absurd hlt (by simp)
      injection hvv with hvv1 hvv2 hvv3
      subst hvv1 hvv3
      obtain ⟨rv, hc1, hS⟩ := hc k hlt
      have q0 := cell_stay HB.out hc1
      obtain ⟨ra, rc, hrv⟩ := hS.shape
      subst hrv
      have HCL := cloneCells_any _ w.heap.size (s.gone.getD k []) wr (hS.below HB.out) (HBK.out.row k hlt)
      have HTK : Hid (s.gone.take (k + 1) = s.gone.take k ++ [s.gone.getD k []]) := take_next _ _ _ hlt
      clear hc hc1 hS hp hp1
      generalize s.gone.getD k [] = row at *
      have hsl := own_slice HO.out
      go_upto_region 7 with fail
      go_wp2_with (first | (go_at_call 115; refine HCL.mono ?_; rintro e W2 ⟨na, nc, rfl, hr2, b2⟩) | (at_builtin; refine Hid.out ?_))
      unfold Hid
      have HR2 : Hid (RowIn W2 w.heap.size (.slice na row.length nc) row) := hr2
      have hown2 : W2.ownsRow (w.heap.size + 2) 22 1 _ k vs := Grd.ownsRow_below HO.out b2
      have hgl := HBK.out.f.gl
      have hs2 := b2.size
      refine wpList_append_own _ rfl _ _ 30 rfl (w.heap.size + 2) 22 i0 (.slice none 0 0) 1 24 und_rows hi hz0 hz1 hz2 rfl (by decide) _ _ _ rfl (hown2.alloc _) ⟨W2.heap.size, 0, none⟩ 1 1 [.slice na row.length nc] rfl rfl (cell_one_new _ _ _) (by intro u hu; simp at hu; rw [hu]; rfl) (by unfold maxLen; omega) (by omega) (by simp; omega) ?_
      intro v3 W3 hown3 hgrow hnil
      go_wp2_with fail
      have kZ : Below W2.heap.size W2 (W2.alloc (.cells #[.slice na row.length nc] 22)) := (Below.refl _ _).alloc (Nat.le_refl _) _
      have hfrom := Grd.own_from HO.out
      have kb2 := HB.out.trans (b2.mono HB.out.size)
      have hN2 := b2.size
      have kk := Kept.grown (hown2.alloc (.cells #[.slice na row.length nc] 22)) (show w.heap.size ≤ w.heap.size + 2 by omega) hgrow
      have ka := Kept.of_below (N := w.heap.size) b2
      have kz := Kept.of_below (N := w.heap.size) kZ
      go_roundg (s.gone.length - (k + 1))
      case measure => omega
      case rel =>
        refine ⟨k + 1, vs ++ [.slice na row.length nc], rfl, by omega, by omega, hown3, ?_, ?_, ?_, ?_, ?_, ?_⟩
        · rw [HTK.out]
          exact (((HRS.out.keep ka).keep kz).keep kk).snoc ((HR2.out.keep kz).keep kk)
        · exact (kb2.alloc kb2.size _).grown hgrow (by simp; omega) (fun q hq => by have := hfrom q hq; omega)
        · rw [hgrow.block _ (by simp; omega) (fun e => by have := hfrom _ e.symm; omega)]
          exact Grd.carry (Grd.carry HP.out b2) kZ
        · rw [hgrow.block _ (by simp; omega) (fun e => by have := hfrom _ e.symm; omega)]
          exact Grd.carry (Grd.carry HQ.out b2) kZ
        · exact ((HR.out.keep ka).keep kz).keep kk
        · exact own_grown (own_next (own_next HT.out b2) kZ) (hown2.alloc _) (by decide) hgrow
    · have lt1 : ¬ ((k : Int) < (s.gone.length : Int)) := by omega
      have hkh : k = s.gone.length := by omega
      subst hkh
      rw [List.take_length] at HRS
      obtain ⟨na, nc, rfl⟩ := own_slice HO.out
      have f21 := (scr_cells hp).2.2 21
      have c21 := (scr_cells hp).2.1.2.2.2.2.2.2.2.2.2.2
      have HY0 : Hid ((wr.setCell ⟨w.heap.size, 21, none⟩ (.slice na s.gone.length nc)).heap[w.heap.size]? = some (.cells (scrA s (.slice a1 s.cs.length c1) (.slice a2 s.tabs.length c2n) (.slice na s.gone.length nc)) 32 (0, 0))) := store_at hp rfl
      have HY1 : Hid ((wr.setCell ⟨w.heap.size, 21, none⟩ (.slice na s.gone.length nc)).heap[w.heap.size + 1]? = _) := (store_off (by omega)).trans hp1
      have kk : Kept w.heap.size wr (wr.setCell ⟨w.heap.size, 21, none⟩ (.slice na s.gone.length nc)) := Kept.store hp (by decide) (Nat.le_refl _)
      have HRI : Hid (RowIn (wr.setCell ⟨w.heap.size, 21, none⟩ (.slice na s.gone.length nc)) w.heap.size (.slice a1 s.cs.length c1) s.cs) := HR.out.keep kk
      have HRG : Hid (RowsIn (wr.setCell ⟨w.heap.size, 21, none⟩ (.slice na s.gone.length nc)) w.heap.size vs s.gone) := HRS.out.keep kk
      have HTT : Hid ((wr.setCell ⟨w.heap.size, 21, none⟩ (.slice na s.gone.length nc)).ownsRow w.heap.size 4 1 (.slice a2 s.tabs.length c2n) s.tabs.length (s.tabs.map Value.bool)) := own_off HT.out hp (by decide)
      have HOO : Hid ((wr.setCell ⟨w.heap.size, 21, none⟩ (.slice na s.gone.length nc)).ownsRow (w.heap.size + 2) 22 1 (.slice na s.gone.length nc) s.gone.length vs) := own_off HO.out hp (by decide)
      have HBB : Hid (Below w.heap.size w (wr.setCell ⟨w.heap.size, 21, none⟩ (.slice na s.gone.length nc))) := HB.out.setCell (Nat.le_refl _) _
      clear hp hp1 kk
      go_wp2_with (first
        | (refine wpList_load_row rfl 32 (.tmp 1) rfl w.heap.size rfl _ _ _ _ HY0.out Tryz.underlying32 rfl (by kernel_rfl) ?_)
        | (refine wpList_store_row rfl 32 (.tmp 2) _ rfl (w.heap.size + 1) (scrA s (.slice a1 s.cs.length c1) (.slice a2 s.tabs.length c2n) (.slice na s.gone.length nc)) rfl rfl _ _ HY1.out (by kernel_rfl) rfl (scr_one _ _ _ _ _ _ _ _ _ _) ?_))
      (try simp only [Exit.inBlock, Exit.then])
      have ko : ∀ k, k ≠ w.heap.size + 1 → ((wr.setCell ⟨w.heap.size, 21, none⟩ (.slice na s.gone.length nc)).setRow (w.heap.size + 1) (scrA s (.slice a1 s.cs.length c1) (.slice a2 s.tabs.length c2n) (.slice na s.gone.length nc))).heap[k]? = (wr.setCell ⟨w.heap.size, 21, none⟩ (.slice na s.gone.length nc)).heap[k]? := fun k hk => setRow_other _ _ _ _ hk
      have kt : ∀ (k : Nat) (A : Array Value) (t : TypeId) (f : Nat × Nat), (wr.setCell ⟨w.heap.size, 21, none⟩ (.slice na s.gone.length nc)).heap[k]? = some (.cells A t f) → t ≠ 32 → k ≠ w.heap.size + 1 := fun k A t f hk ht e => by
        have h1 := HY1.out
        rw [← e, hk] at h1
        injection h1 with h1
        injection h1 with _ h1 _
        exact ht h1
      have kk : Kept w.heap.size (wr.setCell ⟨w.heap.size, 21, none⟩ (.slice na s.gone.length nc)) ((wr.setCell ⟨w.heap.size, 21, none⟩ (.slice na s.gone.length nc)).setRow (w.heap.size + 1) (scrA s (.slice a1 s.cs.length c1) (.slice a2 s.tabs.length c2n) (.slice na s.gone.length nc))) := fun k hk hS => ko k (by
        rcases hS with hS | ⟨A, f, hS⟩
        · omega
        · exact kt k A _ f hS (by decide))
      refine bodyPost_ret (v := .agg (scrA s (.slice a1 s.cs.length c1) (.slice a2 s.tabs.length c2n) (.slice na s.gone.length nc))) ?_ rfl ⟨_, _, _, rfl, ⟨(HRI.out.keep kk).cells, own_boolsV (owns_kept HTT.out fun g hg => ?_), own_rowsV (owns_kept HOO.out fun g hg => ?_) (HRG.out.keep kk).list⟩, below_setRow HBB.out (by omega) _⟩
      · exact results_cell_row rfl _ _ (w.heap.size + 1) _ _ _ _ rfl (setRow_heap _ _ _ _ _ _ HY1.out) Tryz.underlying32 rfl (by kernel_rfl)
      · obtain ⟨-, A, f, hA⟩ := owns_block HTT.out g hg
        exact ko g (kt g A _ f hA (by decide))
      · obtain ⟨-, A, f, hA⟩ := owns_block HOO.out g hg
        exact ko g (kt g A _ f hA (by decide))
end Put
end Go.Proofs.YtnkeahfcpbepjaaGreatDoor

/- A list of rows, anywhere in a block of such. -/
namespace Go.Proofs.YtnkeahfcpbepjaaGreatDoor
open Go.ChangeShapes Go.WideShapes Go.ChangeAt Go.RowKit
namespace Put
open Grd (C SliceAt CellsAt gridErr z0 nilV rowsL RowsAt RowB flat)
/-- The block that a slice speaks of. -/
def blkOf (v : Value) : Option Nat := match v with
  | .slice (some a) _ _ => some a.block
  | _ => none
/-- A list of rows' values, anywhere in a block of such: from N on. -/
def GoneV (W : World) (N : Nat) (v : Value) (n : Nat) (vs : List Value) : Prop :=
  vs.length = n ∧ ((n = 0 ∧ ∃ a c, v = .slice a 0 c) ∨ ∃ g o cap A, v = .slice (some ⟨g, o, none⟩) n cap ∧ N ≤ g ∧ n ≤ cap ∧ cap ≤ 9223372036854775807 ∧ W.heap[g]? = some (.cells A 22 (0, 0)) ∧ ∀ j, j < n → A[o + j]? = some (vs.getD j nilV))
theorem GoneV.of {W : World} {N : Nat} {v : Value} {n : Nat} {vs : List Value} (h : W.ownsRow N 22 1 v n vs) : GoneV W N v n vs := by
  obtain ⟨h0, ⟨rfl, rfl⟩ | ⟨g, cap, cur, rfl, hg, hh, hc, hm, hs, htk⟩⟩ := h
  · exact ⟨by simpa using h0, .inl ⟨rfl, none, 0, rfl⟩⟩
  · refine ⟨by simpa using h0, .inr ⟨g, 0, cap, cur, rfl, hg, hc, by unfold maxLen at hm; omega, hh, fun j hj => ?_⟩⟩
    have hl : vs.length = n := by simpa using h0
    rw [Nat.zero_add]
    have e : cur[j]? = vs[j]? := by rw [← htk, ← Array.getElem?_toList, List.getElem?_take_of_lt (by omega)]
    rw [e]
    simp [List.getD, List.getElem?_eq_getElem (show j < vs.length by omega)]
theorem GoneV.slice {W : World} {N : Nat} {v : Value} {n : Nat} {vs : List Value} (h : GoneV W N v n vs) : ∃ a c, v = .slice a n c := by
  obtain ⟨-, ⟨rfl, a, c, rfl⟩ | ⟨g, o, cap, A, rfl, -⟩⟩ := h
  · exact ⟨a, c, rfl⟩
  · exact ⟨_, cap, rfl⟩
theorem GoneV.kept {W W' : World} {N : Nat} {v : Value} {n : Nat} {vs : List Value} (h : GoneV W N v n vs) (hk : ∀ g, v.ownBlock = some g → W'.heap[g]? = W.heap[g]?) : GoneV W' N v n vs := by
  obtain ⟨h0, h | ⟨g, o, cap, A, hv, h1, h2, h3, h4, h5⟩⟩ := h
  · exact ⟨h0, .inl h⟩
  · exact ⟨h0, .inr ⟨g, o, cap, A, hv, h1, h2, h3, (hk g (by rw [hv]; rfl)).trans h4, h5⟩⟩
theorem GoneV.next {W W' : World} {N : Nat} {v : Value} {n : Nat} {vs : List Value} (h : GoneV W N v n vs) (hb : Below W.heap.size W W') : GoneV W' N v n vs := by
  obtain ⟨h0, h | ⟨g, o, cap, A, hv, h1, h2, h3, h4, h5⟩⟩ := h
  · exact ⟨h0, .inl h⟩
  · exact ⟨h0, .inr ⟨g, o, cap, A, hv, h1, h2, h3, Grd.carry h4 hb, h5⟩⟩
theorem GoneV.apart {W W' : World} {N p : Nat} {t : TypeId} {v : Value} {n : Nat} {vs : List Value} {A : Array Value} {f : Nat × Nat} (h : GoneV W N v n vs) (hp : W.heap[p]? = some (.cells A t f)) (ht : t ≠ 22) (ho : ∀ k, k ≠ p → W'.heap[k]? = W.heap[k]?) : GoneV W' N v n vs := by
  obtain ⟨h0, h | ⟨g, o, cap, B, hv, h1, h2, h3, h4, h5⟩⟩ := h
  · exact ⟨h0, .inl h⟩
  · refine ⟨h0, .inr ⟨g, o, cap, B, hv, h1, h2, h3, (ho g fun e => ?_).trans h4, h5⟩⟩
    rw [e, hp] at h4
    injection h4 with h4
    injection h4 with _ h4 _
    exact ht h4
theorem GoneV.rowsV {W : World} {N : Nat} {v : Value} {rows : List (List C)} {vs : List Value} (h : GoneV W N v rows.length vs) (hr : RowsL W vs rows) : RowsV W v rows := by
  obtain ⟨h0, ⟨hn, a, c, hv⟩ | ⟨g, o, cap, A, hv, h1, h2, h3, h4, h5⟩⟩ := h
  · exact .inl ⟨List.eq_nil_of_length_eq_zero hn, a, c, hv⟩
  · refine .inr ⟨g, o, cap, hv, h2, h3, fun j hj => ⟨vs.getD j nilV, ?_, hr.2 j hj⟩⟩
    simp only [World.cell?, h4]
    rw [h5 j hj]
    rfl
end Put
end Go.Proofs.YtnkeahfcpbepjaaGreatDoor
