/- SameScreen of two screens that read alike. -/
import Derived.Test.YtmhmmpicedlcpaaGreatDoorPartG
import Derived.Test.YtmhmmpicedlcpaaGreatDoorPartH
import Derived.Test.YtmhmmpicedlcpaaGreatDoorPartI
import Derived.Test.YtmhmmpicedlcpaaGreatDoorPartF
import Derived.Deep.RegionWith
import Derived.Deep.Cut
import Derived.Deep.CutRange
import Derived.Deep.RegionHeld3
import Derived.BigRegion
import Derived.BigQuiet
namespace Go.Proofs.YtmhmmpicedlcpaaGreatDoor
open Go.ChangeShapes Go.WideShapes Go.ChangeAt Go.RowKit
namespace Put
open Grd (C SliceAt CellsAt gridErr z0)
set_option maxHeartbeats 1000000 in
theorem equalB_empty (a1 a2 : Option Addr) (c1 c2 : Nat) (w : World) :
    Calls Tryz.prog 103 #[.slice a1 0 c1, .slice a2 0 c2] w fun e w' => e = .returned (.bool true) ∧ Below w.heap.size w w' := by
  go_enter Tryz.func103, Tryz.ntmps103
  go_wp2_with fail
  go_loopg [13] 0 (fun g i wr => i = .int .i64 0 ∧ Below w.heap.size w wr)
  case atStart => exact ⟨rfl, Below.refl _ _⟩
  case round =>
    obtain ⟨rfl, hb⟩ := hrel
    go_wp2_with fail
    go_ret
    exact ⟨rfl, hb⟩
set_option maxHeartbeats 1000000 in
theorem equalB_cells (b1 o1 c1 b2 o2 c2 : Nat) (l : List Bool) (w : World) (h1 : ∀ j, j < l.length → w.cell? ⟨b1, o1 + j, none⟩ = some (.bool (l.getD j false))) (h2 : ∀ j, j < l.length → w.cell? ⟨b2, o2 + j, none⟩ = some (.bool (l.getD j false))) (hn : l.length ≤ 4398046511104) :
    Calls Tryz.prog 103 #[.slice (some ⟨b1, o1, none⟩) l.length c1, .slice (some ⟨b2, o2, none⟩) l.length c2] w fun e w' => e = .returned (.bool true) ∧ Below w.heap.size w w' := by
  have H1 : Hid (∀ j, j < l.length → w.cell? ⟨b1, o1 + j, none⟩ = some (.bool (l.getD j false))) := h1
  have H2 : Hid (∀ j, j < l.length → w.cell? ⟨b2, o2 + j, none⟩ = some (.bool (l.getD j false))) := h2
  clear h1 h2
  generalize hl : l.length = L at *
  have HL : Hid (l.length = L) := hl
  clear hl
  have ne : ((L : Int) != (L : Int)) = false := by simp
  go_enter Tryz.func103, Tryz.ntmps103
  go_wp2_with fail
  go_loopg [13] L (fun g i wr => ∃ k : Nat, i = .int .i64 (k : Int) ∧ k ≤ L ∧ L - k ≤ g ∧ Below w.heap.size w wr)
  case atStart => exact ⟨0, rfl, by omega, by omega, Below.refl _ _⟩
  case round =>
    obtain ⟨k, rfl, hk, hg, hb⟩ := hrel
    by_cases hlt : k < L
    · have lt1 : ((k : Int) < (L : Int)) := by omega
      have p0 := Grd.cell_keep hb (H1.out k hlt)
      have q0 := Grd.cell_keep hb (H2.out k hlt)
      generalize l.getD k false = x at *
      have nq : (x != x) = false := by simp
      go_wp2_with fail
      go_region
      go_wp2_with fail
      go_roundg (L - (k + 1))
      case measure => omega
      case rel => exact ⟨k + 1, rfl, by omega, by omega, hb.drew⟩
    · have lt1 : ¬ ((k : Int) < (L : Int)) := by omega
      go_wp2_with fail
      go_ret
      exact ⟨rfl, hb⟩
theorem equalB_any (v1 v2 : Value) (l : List Bool) (w : World) (h1 : BoolsV w v1 l) (h2 : BoolsV w v2 l) (hn : l.length ≤ 4398046511104) :
    Calls Tryz.prog 103 #[v1, v2] w fun e w' => e = .returned (.bool true) ∧ Below w.heap.size w w' := by
  by_cases h0 : l = []
  · obtain ⟨a1, c1, rfl⟩ := h1.slice
    obtain ⟨a2, c2, rfl⟩ := h2.slice
    subst h0
    exact equalB_empty a1 a2 c1 c2 w
  · rcases h1 with ⟨h, -⟩ | ⟨b1, o1, c1, rfl, -, -, hc1⟩
    · exact absurd h h0
    · rcases h2 with ⟨h, -⟩ | ⟨b2, o2, c2, rfl, -, -, hc2⟩
      · exact absurd h h0
      · exact equalB_cells b1 o1 c1 b2 o2 c2 l w hc1 hc2 hn
set_option maxHeartbeats 1000000 in
theorem eqRows_empty (a1 a2 : Option Addr) (c1 c2 : Nat) (w : World) :
    Calls Tryz.prog 133 #[.slice a1 0 c1, .slice a2 0 c2, .func (.func 132) #[] #[]] w fun e w' => e = .returned (.bool true) ∧ Below w.heap.size w w' := by
  go_enter Tryz.func133, Tryz.ntmps133
  go_wp2_with fail
  go_loopg [17] 0 (fun g i wr => i = .int .i64 0 ∧ Below w.heap.size w wr)
  case atStart => exact ⟨rfl, Below.refl _ _⟩
  case round =>
    obtain ⟨rfl, hb⟩ := hrel
    go_wp2_with fail
    go_ret
    exact ⟨rfl, hb⟩
/-- The rows of two lists of rows that read alike. -/
def RowsA (w : World) (b o : Nat) (l : List (List C)) : Prop := ∀ j, j < l.length → ∃ rv, w.cell? ⟨b, o + j, none⟩ = some rv ∧ SliceAt w rv (l.getD j [])
set_option maxHeartbeats 2000000 in
theorem eqRows_cells (b1 o1 c1 b2 o2 c2 : Nat) (l : List (List C)) (w : World) (h1 : RowsA w b1 o1 l) (h2 : RowsA w b2 o2 l) (hn : l.length ≤ 4398046511104) (hr : ∀ row, row ∈ l → row.length ≤ 4398046511104) :
    Calls Tryz.prog 133 #[.slice (some ⟨b1, o1, none⟩) l.length c1, .slice (some ⟨b2, o2, none⟩) l.length c2, .func (.func 132) #[] #[]] w fun e w' => e = .returned (.bool true) ∧ Below w.heap.size w w' := by
  have H1 : Hid (RowsA w b1 o1 l) := h1
  have H2 : Hid (RowsA w b2 o2 l) := h2
  have HR : Hid (∀ k, k < l.length → (l.getD k []).length ≤ 4398046511104) := fun k hk => by
    rw [List.getD_eq_getElem?_getD, List.getElem?_eq_getElem hk]
    exact hr _ (List.getElem_mem hk)
  clear h1 h2 hr
  unfold RowsA at H1 H2
  generalize hl : l.length = L at *
  have HL : Hid (l.length = L) := hl
  clear hl
  have ne : ((L : Int) != (L : Int)) = false := by simp
  go_enter Tryz.func133, Tryz.ntmps133
  go_wp2_with fail
  go_loopg [17] L (fun g i wr => ∃ k : Nat, i = .int .i64 (k : Int) ∧ k ≤ L ∧ L - k ≤ g ∧ Below w.heap.size w wr)
  case atStart => exact ⟨0, rfl, by omega, by omega, Below.refl _ _⟩
  case round =>
    obtain ⟨k, rfl, hk, hg, hb⟩ := hrel
    by_cases hlt : k < L
    · have lt1 : ((k : Int) < (L : Int)) := by omega
      obtain ⟨r1, p0, s1⟩ := H1.out k hlt
      obtain ⟨r2, q0, s2⟩ := H2.out k hlt
      have p1 := Grd.cell_keep hb p0
      have q1 := Grd.cell_keep hb q0
      have HS1 : Hid (SliceAt wr r1 (l.getD k [])) := s1.below hb
      have HS2 : Hid (SliceAt wr r2 (l.getD k [])) := s2.below hb
      have HLN : Hid ((l.getD k []).length ≤ 4398046511104) := HR.out k hlt
      have HB : Hid (Below w.heap.size w wr) := hb
      obtain ⟨a1, d1, rfl⟩ := s1.shape
      obtain ⟨a2, d2, rfl⟩ := s2.shape
      clear p0 q0 s1 s2 hb
      generalize l.getD k [] = row at *
      go_wp2_with fail
      refine (Grd.equal_slices_big _ _ row _ HS1.out HS2.out HLN.out).mono ?_
      rintro e W1 ⟨rfl, b1⟩
      have HB1 : Hid (Below w.heap.size w W1) := HB.out.trans (b1.mono HB.out.size)
      clear b1 p1 q1
      go_wp2_with fail
      go_roundg (L - (k + 1))
      case measure => omega
      case rel => exact ⟨k + 1, rfl, by omega, by omega, HB1.out⟩
    · have lt1 : ¬ ((k : Int) < (L : Int)) := by omega
      go_wp2_with fail
      go_ret
      exact ⟨rfl, hb⟩
theorem eqRows_any (v1 v2 : Value) (l : List (List C)) (w : World) (h1 : RowsV w v1 l) (h2 : RowsV w v2 l) (hn : l.length ≤ 4398046511104) (hr : ∀ row, row ∈ l → row.length ≤ 4398046511104) :
    Calls Tryz.prog 133 #[v1, v2, .func (.func 132) #[] #[]] w fun e w' => e = .returned (.bool true) ∧ Below w.heap.size w w' := by
  by_cases h0 : l = []
  · obtain ⟨a1, c1, rfl⟩ := h1.slice
    obtain ⟨a2, c2, rfl⟩ := h2.slice
    subst h0
    exact eqRows_empty a1 a2 c1 c2 w
  · rcases h1 with ⟨h, -⟩ | ⟨b1, o1, c1, rfl, -, -, hc1⟩
    · exact absurd h h0
    · rcases h2 with ⟨h, -⟩ | ⟨b2, o2, c2, rfl, -, -, hc2⟩
      · exact absurd h h0
      · exact eqRows_cells b1 o1 c1 b2 o2 c2 l w hc1 hc2 hn hr
theorem sameRows_any (v1 v2 : Value) (l : List (List C)) (w : World) (h1 : RowsV w v1 l) (h2 : RowsV w v2 l) (hn : l.length ≤ 4398046511104) (hr : ∀ row, row ∈ l → row.length ≤ 4398046511104) :
    Calls Tryz.prog 104 #[v1, v2] w fun e w' => e = .returned (.bool true) ∧ Below w.heap.size w w' := by
  have HC := eqRows_any v1 v2 l w h1 h2 hn hr
  obtain ⟨a1, d1, rfl⟩ := h1.slice
  obtain ⟨a2, d2, rfl⟩ := h2.slice
  clear h1 h2
  go_enter Tryz.func104, Tryz.ntmps104
  go_wp2_with fail
  refine HC.mono ?_
  rintro e W1 ⟨rfl, b1⟩
  clear HC
  go_wp2_with fail
  go_ret
  exact ⟨rfl, b1⟩
theorem eql_style (f b x : Int) (w : World) : (binOp .eql 26 (.agg #[.int .i64 f, .int .i64 b, .int .i64 x]) (.agg #[.int .i64 f, .int .i64 b, .int .i64 x])).run Tryz.prog w = .ok (.bool true) w := by
  go_simp
theorem eql_kept (a b c d e f : Int) (w : World) : (binOp .eql 29 (.agg #[.int .i64 a, .int .i64 b, .int .i64 c, .int .i64 d, .int .i64 e, .int .i64 f]) (.agg #[.int .i64 a, .int .i64 b, .int .i64 c, .int .i64 d, .int .i64 e, .int .i64 f])).run Tryz.prog w = .ok (.bool true) w := by
  go_simp
/-- What SameScreen asks of the sizes. -/
structure Small (s : Scr) : Prop where
  c : s.cs.length ≤ 4398046511104
  t : s.tabs.length ≤ 4398046511104
  g : s.gone.length ≤ 4398046511104
  r : ∀ row, row ∈ s.gone → row.length ≤ 4398046511104
set_option maxHeartbeats 8000000 in
set_option maxRecDepth 100000 in
theorem sameScreen_any (s : Scr) (cv tv gv cv' tv' gv' : Value) (w : World) (h1 : ScrV w s cv tv gv) (h2 : ScrV w s cv' tv' gv') (hS : Small s) :
    Calls Tryz.prog 70 #[.agg (scrA s cv tv gv), .agg (scrA s cv' tv' gv')] w fun e w' => e = .returned (.bool true) ∧ Below w.heap.size w w' := by
  obtain ⟨ca, cc, rfl⟩ := h1.c.shape
  obtain ⟨ta, tc, rfl⟩ := h1.t.slice
  obtain ⟨ga, gc, rfl⟩ := h1.g.slice
  obtain ⟨ca', cc', rfl⟩ := h2.c.shape
  obtain ⟨ta', tc', rfl⟩ := h2.t.slice
  obtain ⟨ga', gc', rfl⟩ := h2.g.slice
  have x0 := heap_alloc_new w (.cells (scrA s (.slice ca s.cs.length cc) (.slice ta s.tabs.length tc) (.slice ga s.gone.length gc)) 32)
  have y0 := (Below.heap_alloc (w.alloc (.cells (scrA s (.slice ca s.cs.length cc) (.slice ta s.tabs.length tc) (.slice ga s.gone.length gc)) 32)) (.cells (scrA s (.slice ca' s.cs.length cc') (.slice ta' s.tabs.length tc') (.slice ga' s.gone.length gc')) 32) _ (heap_lt x0)).trans x0
  have y1 := heap_alloc_new (w.alloc (.cells (scrA s (.slice ca s.cs.length cc) (.slice ta s.tabs.length tc) (.slice ga s.gone.length gc)) 32)) (.cells (scrA s (.slice ca' s.cs.length cc') (.slice ta' s.tabs.length tc') (.slice ga' s.gone.length gc')) 32)
  have kb : Below w.heap.size w ((w.alloc (.cells (scrA s (.slice ca s.cs.length cc) (.slice ta s.tabs.length tc) (.slice ga s.gone.length gc)) 32)).alloc (.cells (scrA s (.slice ca' s.cs.length cc') (.slice ta' s.tabs.length tc') (.slice ga' s.gone.length gc')) 32)) := ((Below.refl _ _).alloc (Nat.le_refl _) _).alloc (by simp) _
  have es : (w.alloc (.cells (scrA s (.slice ca s.cs.length cc) (.slice ta s.tabs.length tc) (.slice ga s.gone.length gc)) 32)).heap.size = w.heap.size + 1 := by simp
  rw [es] at y1
  have HKB : Hid _ := kb
  have HV1 : Hid (ScrV w s _ _ _) := h1
  have HV2 : Hid (ScrV w s _ _ _) := h2
  have HS : Hid (Small s) := hS
  have HY0 : Hid _ := y0
  have HY1 : Hid _ := y1
  have aw : (s.w == s.w) = true := by simp
  obtain ⟨⟨c0, c1, c2, -⟩, -, -⟩ := scr_cells y0
  obtain ⟨⟨d0, d1, d2, -⟩, -, -⟩ := scr_cells y1
  have HG := Grd.same_any_big s.w s.h _ _ s.cs _ (h1.c.below kb) (h2.c.below kb) hS.c
  clear x0 y0 y1 kb h1 h2 hS es
  go_enter Tryz.func70, Tryz.ntmps70
  go_wp2_with fail
  refine HG.mono ?_
  rintro e W1 ⟨rfl, b1⟩
  clear HG c0 c1 c2 d0 d1 d2
  have HB1 : Hid (Below w.heap.size w W1) := HKB.out.trans (b1.mono HKB.out.size)
  have HZ0 : Hid (W1.heap[w.heap.size]? = _) := Grd.carry HY0.out b1
  have HZ1 : Hid (W1.heap[w.heap.size + 1]? = _) := Grd.carry HY1.out b1
  clear b1 HY0 HY1 HKB
  obtain ⟨⟨c0, c1, c2, c3, c4, c5, c6, c7, c8, c9, c10⟩, ⟨c11, c12, c13, c14, c15, c16, c17, c18, c19, c20, c21⟩, -⟩ := scr_cells HZ0.out
  obtain ⟨⟨d0, d1, d2, d3, d4, d5, d6, d7, d8, d9, d10⟩, ⟨d11, d12, d13, d14, d15, d16, d17, d18, d19, d20, d21⟩, -⟩ := scr_cells HZ1.out
  have HT := equalB_any _ _ s.tabs _ (HV1.out.t.next HB1.out) (HV2.out.t.next HB1.out) HS.out.t
  have q1 := eql_style s.sf s.sb s.sx
  have q2 := eql_kept s.kx s.ky s.kf s.kb s.kbits s.km
  go_wp2_with fail
  refine HT.mono ?_
  rintro e W2 ⟨rfl, b2⟩
  clear HT c0 c1 c2 c3 c4 c5 c6 c7 c8 c9 c10 c11 c12 c13 c14 c15 c16 c17 c18 c19 c20 c21 d0 d1 d2 d3 d4 d5 d6 d7 d8 d9 d10 d11 d12 d13 d14 d15 d16 d17 d18 d19 d20 d21
  have HB2 : Hid (Below w.heap.size w W2) := HB1.out.trans (b2.mono HB1.out.size)
  have HA0 : Hid (W2.heap[w.heap.size]? = _) := Grd.carry HZ0.out b2
  have HA1 : Hid (W2.heap[w.heap.size + 1]? = _) := Grd.carry HZ1.out b2
  clear b2 HZ0 HZ1 HB1
  obtain ⟨-, ⟨c11, c12, c13, c14, c15, c16, c17, c18, c19, c20, c21⟩, -⟩ := scr_cells HA0.out
  obtain ⟨-, ⟨d11, d12, d13, d14, d15, d16, d17, d18, d19, d20, d21⟩, -⟩ := scr_cells HA1.out
  have HR := sameRows_any _ _ s.gone _ (HV1.out.g.next HB2.out) (HV2.out.g.next HB2.out) HS.out.g HS.out.r
  go_wp2_with fail
  refine HR.mono ?_
  rintro e W3 ⟨rfl, b3⟩
  clear HR
  have HB3 : Hid (Below w.heap.size w W3) := HB2.out.trans (b3.mono HB2.out.size)
  clear b3 HA0 HA1 c11 c12 c13 c14 c15 c16 c17 c18 c19 c20 c21 d11 d12 d13 d14 d15 d16 d17 d18 d19 d20 d21
  go_wp2_with fail
  go_ret
  exact ⟨rfl, HB3.out⟩
end Put
end Go.Proofs.YtmhmmpicedlcpaaGreatDoor

/- What stays of a sheet whose words change; Has. -/
namespace Go.Proofs.YtmhmmpicedlcpaaGreatDoor
open Go.ChangeShapes Go.WideShapes Go.ChangeAt Go.RowKit
namespace Put
open Grd (C SliceAt CellsAt gridErr z0 nilV flat rowsL)
theorem ShA.set {t : TypeId} (ht : IsSheet t) {W : World} {M N p : Nat} {s s' : Scr} {rows : List (List C)} {cv tv gv rv : Value} {gvs vs : List Value} (h : ShA t W M N p s rows cv tv gv rv gvs vs) (i : Nat) (v : Value) (e : (shA s cv tv gv rv).setIfInBounds i v = shA s' cv tv gv rv) (h1 : s'.tabs = s.tabs) (h2 : s'.gone = s.gone) : ShA t (W.setCell ⟨p, i, none⟩ v) M N p s' rows cv tv gv rv gvs vs :=
  h.put ht (store_at h.blk e) (fun _ hk => store_off hk) h1 h2
theorem ShAt.set {t : TypeId} (ht : IsSheet t) {W : World} {M N p : Nat} {s s' : Scr} {rows : List (List C)} (h : ShAt t W M N p s rows) (i : Nat) (v : Value) (e : ∀ cv tv gv rv, (shA s cv tv gv rv).setIfInBounds i v = shA s' cv tv gv rv) (h1 : s'.tabs = s.tabs) (h2 : s'.gone = s.gone) : ShAt t (W.setCell ⟨p, i, none⟩ v) M N p s' rows := by
  obtain ⟨cv, tv, gv, rv, gvs, vs, h⟩ := h
  exact ⟨cv, tv, gv, rv, gvs, vs, h.set ht i v (e _ _ _ _) h1 h2⟩
theorem ShAt.next {t : TypeId} {W W' : World} {M N p : Nat} {s : Scr} {rows : List (List C)} (h : ShAt t W M N p s rows) (hb : Below W.heap.size W W') : ShAt t W' M N p s rows := by
  obtain ⟨cv, tv, gv, rv, gvs, vs, h⟩ := h
  exact ⟨cv, tv, gv, rv, gvs, vs, h.next hb⟩
theorem ShAt.lo {t : TypeId} {W : World} {M N p : Nat} {s : Scr} {rows : List (List C)} (h : ShAt t W M N p s rows) : N ≤ p := by
  obtain ⟨cv, tv, gv, rv, gvs, vs, h⟩ := h
  exact h.lo
theorem ShAt.drew {t : TypeId} {W : World} {M N p : Nat} {s : Scr} {rows : List (List C)} (h : ShAt t W M N p s rows) : ShAt t W.drew M N p s rows := h.next ((Below.refl _ _).drew)
/-- The words of a sheet that are numbers. -/
theorem ShAt.words {t : TypeId} {W : World} {M N p : Nat} {s : Scr} {rows : List (List C)} (h : ShAt t W M N p s rows) :
    W.cell? ⟨p, 0, none⟩ = some (.int .i64 s.w) ∧ W.cell? ⟨p, 1, none⟩ = some (.int .i64 s.h) ∧ W.cell? ⟨p, 3, none⟩ = some (.int .i64 s.x) ∧ W.cell? ⟨p, 4, none⟩ = some (.int .i64 s.y) ∧ W.cell? ⟨p, 5, none⟩ = some (.bool s.late) ∧ W.cell? ⟨p, 9, none⟩ = some (.int .i64 s.top) ∧ W.cell? ⟨p, 10, none⟩ = some (.int .i64 s.bot) ∧ W.cell? ⟨p, 11, none⟩ = some (.int .i64 s.modes) ∧ W.cell? ⟨p, 19, none⟩ = some (.int .i32 s.last) ∧ ∀ i, W.frozen? ⟨p, i, none⟩ = false := by
  obtain ⟨cv, tv, gv, rv, gvs, vs, h⟩ := h
  obtain ⟨⟨c0, c1, -, c3, c4, c5, -, -, -, c9, c10⟩, ⟨c11, -, -, -, -, -, -, -, c19, -⟩, f⟩ := sh_cells h.blk
  exact ⟨c0, c1, c3, c4, c5, c9, c10, c11, c19, f⟩
theorem ShAt.fin {t : TypeId} (ht : IsSheet t) {W : World} {M N p : Nat} {s s' : Scr} {rows : List (List C)} (h : ShAt t W M N p s rows) (i : Nat) (v : Value) (e : ∀ cv tv gv rv, (shA s cv tv gv rv).setIfInBounds i v = shA s' cv tv gv rv) (h1 : s'.tabs = s.tabs) (h2 : s'.gone = s.gone) : ∀ v', v' = v → ShAt t (W.setCell ⟨p, i, none⟩ v').drew M N p s' rows ∧ Below N W (W.setCell ⟨p, i, none⟩ v').drew := fun v' hv => by
  subst hv
  exact ⟨(h.set ht i _ e h1 h2).drew, ((Below.refl _ _).setCell h.lo _).drew⟩
theorem wrap_id (a : Int) (h0 : -9223372036854775808 ≤ a) (h1 : a ≤ 9223372036854775807) : IntKind.i64.wrap a = a := by
  rw [IntKind.wrap_i64]
  omega
theorem int_wrap (a : Int) (h0 : -9223372036854775808 ≤ a) (h1 : a ≤ 9223372036854775807) : Value.int .i64 (IntKind.i64.wrap a) = Value.int .i64 a := by rw [wrap_id a h0 h1]
/-- Are these bits set? -/
def hasB (m b : Int) : Bool := bits .and .i64 m b == b
theorem has_any {M N p : Nat} {s : Scr} {rows : List (List C)} (b : Int) (W : World) (hS : ShAt 46 W M N p s rows) : Calls Tryz.prog 93 #[.pointer (some ⟨p, 0, none⟩), .int .i64 b] W fun e w' => e = .returned (.bool (hasB s.modes b)) ∧ W = w' := by
  obtain ⟨c0, c1, c3, c4, c5, c9, c10, c11, c19, f⟩ := hS.words
  clear c0 c1 c3 c4 c5 c9 c10 c19 f hS
  go_enter Tryz.func93, Tryz.ntmps93
  go_wp2_with fail
  go_ret
  exact ⟨rfl, rfl⟩
end Put
end Go.Proofs.YtmhmmpicedlcpaaGreatDoor

/- Package move: within, counted, moved; what stays of a sheet whose words change. -/
namespace Go.Proofs.YtmhmmpicedlcpaaGreatDoor
open Go.ChangeShapes Go.WideShapes Go.ChangeAt Go.RowKit
namespace Put
open Grd (C SliceAt CellsAt gridErr z0 nilV flat rowsL)
def withinI (n a b : Int) : Int := min (max n a) b
def cnt (n : Int) : Int := withinI n 1 9999
theorem cnt_range (n : Int) : 1 ≤ cnt n ∧ cnt n ≤ 9999 := by unfold cnt withinI; omega
theorem within_calls (n a b : Int) (w : World) : Calls Tryz.prog 67 #[.int .i64 n, .int .i64 a, .int .i64 b] w fun e w' => e = .returned (.int .i64 (withinI n a b)) ∧ w = w' := by
  have h1 := Grd.max2 n a
  have h2 := Grd.min2 (max n a) b
  go_enter Tryz.func67, Tryz.ntmps67
  go_wp2_with fail
  go_ret
  exact ⟨rfl, rfl⟩
theorem counted_any (n : Int) (w : World) : Calls Tryz.prog 35 #[.int .i64 n] w fun e w' => e = .returned (.int .i64 (cnt n)) ∧ w = w' := by
  have h := within_calls n 1 9999 w
  go_enter Tryz.func35, Tryz.ntmps35
  go_wp2_with fail
  refine h.mono ?_
  rintro e W1 ⟨rfl, hw⟩
  subst hw
  go_wp2_with fail
  go_ret
  exact ⟨rfl, rfl⟩
end Put
end Go.Proofs.YtmhmmpicedlcpaaGreatDoor

/- A right screen, and what stays small of it. -/
namespace Go.Proofs.YtmhmmpicedlcpaaGreatDoor
open Go.ChangeShapes Go.WideShapes Go.ChangeAt Go.RowKit
namespace Put
open Grd (C SliceAt CellsAt gridErr z0 nilV flat rowsL RightRow)
theorem rightErr {s : Scr} {n hh : Nat} (h : RightS s n hh) : scrErr s = 0 := by
  have hz := h.gz
  rw [← h.w, ← h.h] at hz
  have hp : placeOk s = true := by
    have := h.w
    have := h.h
    have := h.x0
    have := h.x1
    have := h.y0
    have := h.y1
    have := h.kx0
    have := h.kx1
    have := h.ky0
    have := h.ky1
    have := h.t0
    have := h.t1
    have := h.t2
    have := h.t3
    simp only [placeOk, hasC, regionOk, Bool.and_eq_true, Bool.or_eq_true, decide_eq_true_eq]
    omega
  have hr : restOk s = true := by
    simp only [restOk, Bool.and_eq_true, Bool.or_eq_true, Bool.not_eq_true', decide_eq_true_eq, decide_eq_false_iff_not]
    exact ⟨by rw [h.w, h.tl], h.la, h.ti⟩
  have hg : goneErr s.gone = 0 := by
    unfold goneErr
    rw [if_neg (by have := h.gl; omega)]
    have hb : goneBad s.gone = false := by
      unfold goneBad
      rw [List.any_eq_false]
      intro row hrow
      simp [h.gr row hrow]
    rw [hb]
    rfl
  unfold scrErr
  rw [if_neg (by rw [hz]; simp), if_neg (by rw [hp]; simp), if_neg (by rw [h.late]; simp), if_neg (by rw [h.looks]; simp), if_neg (by rw [hr]; simp), hg]
theorem smallOf {s : Scr} {n hh : Nat} (h : RightS s n hh) : Small s := by
  refine ⟨?_, ?_, ?_, ?_⟩
  · have h1 := h.cl
    have h2 := Nat.mul_le_mul h.n2 h.h2
    omega
  · have := h.tl
    have := h.n2
    omega
  · have := h.gl
    omega
  · intro row hrow
    have := (grid_size (h.gr row hrow)).2.1
    omega
theorem rowsL_row {s : Scr} {n hh : Nat} (h : RightS s n hh) (i : Nat) (hi : i < (rowsL n s.cs hh).length) : ((rowsL n s.cs hh).getD i []).length = n := by
  rw [Grd.rowsL_len] at hi
  have e2 : (rowsL n s.cs hh).getD i [] = Grd.rowAt n s.cs i := by simp [rowsL, List.getD, hi]
  rw [e2]
  exact Grd.row_len n hh s.cs i h.cl hi
/-- Rows of that many cells, in the place of a right screen's. -/
theorem rowsOk {s : Scr} {n hh : Nat} (hR : RightS s n hh) (s' : Scr) (rows' : List (List C)) (hl : rows'.length = hh) (hn : ∀ i, i < rows'.length → (rows'.getD i []).length = n) (hg : s'.gone.length ≤ 51) (hg2 : ∀ i, i < s'.gone.length → (s'.gone.getD i []).length ≤ 1048576) : RowsOk s' rows' := by
  have n1 := hR.n1
  have n2 := hR.n2
  have h1 := hR.h1
  have h2 := hR.h2
  have hlen := Grd.flatten_len n rows' hn hh (by omega)
  rw [← hl, List.take_length] at hlen
  refine ⟨by omega, by omega, fun i hi e => ?_, ?_, by omega, hg2⟩
  · have := hn i hi
    rw [e] at this
    simp at this
    omega
  · rw [hlen]
    have := Nat.mul_le_mul (show rows'.length ≤ 60 by omega) n2
    omega
theorem rowsOk_same {s : Scr} {n hh : Nat} (hR : RightS s n hh) (s' : Scr) (hg : s'.gone = s.gone) : RowsOk s' (rowsL n s.cs hh) :=
  rowsOk hR s' _ (Grd.rowsL_len _ _ _) (rowsL_row hR) (by rw [hg]; have := hR.gl; omega) (fun i hi => by rw [hg] at hi ⊢; have := hR.gone_le i hi; omega)
end Put
end Go.Proofs.YtmhmmpicedlcpaaGreatDoor

/- Package shift: a screen is changed, or its error told. -/
namespace Go.Proofs.YtmhmmpicedlcpaaGreatDoor
set_option linter.unusedVariables false
open Go.ChangeShapes Go.WideShapes Go.ChangeAt Go.RowKit
namespace Put
open Grd (C SliceAt CellsAt gridErr z0 nilV flat rowsL RightRow)
theorem sc_bad {w0 w : World} {s : Scr} {cv tv gv : Value} (h : Met w0 w s cv tv gv) (hz : scrErr s ≠ 0) (df : FuncId) (caps : Array Value) : Calls Tryz.prog 52 #[.agg (scrA s cv tv gv), .func (.func df) #[] caps] w (Made w0 w zScr (scrErr s)) :=
  schange_any s zScr cv tv gv df caps w0 w h.t h.v h.b h.f fun W _ => made_bad s cv tv gv (scrErr s) hz _ w0 W h.v
theorem sc_good {w0 w : World} {s s' : Scr} {cv tv gv : Value} {n hh : Nat} (h : Met w0 w s cv tv gv) (hR : RightS s n hh) (df : FuncId) (hpl : Plain df) (caps : Array Value) (rows' : List (List C)) (cs' : List C)
    (hM : ∀ w1, Below w.heap.size w w1 → Does df caps w0.heap.size w1 s s' (rowsL n s.cs hh) rows') (hO : RowsOk s' rows') (hcs : rows'.flatten = cs') :
    Calls Tryz.prog 52 #[.agg (scrA s cv tv gv), .func (.func df) #[] caps] w (Made w0 w { s' with cs := cs' } 0) := by
  have hz := rightErr hR
  have key := schange_any s { s' with cs := cs' } cv tv gv df caps w0 w h.t h.v h.b h.f fun W hW => by
    rw [hz]
    exact change_good n hh s s' rows' cv tv gv df hpl caps w0 W h.v (h.b.trans (hW.mono h.b.size)) h.f hR.w hR.h hR.gz (fun w1 hw1 => hM w1 (hW.trans (hw1.mono hW.size))) hO cs' hcs
  rwa [hz] at key
end Put
end Go.Proofs.YtmhmmpicedlcpaaGreatDoor

/- trellislaw.ownScreen, noScreen. -/
namespace Go.Proofs.YtmhmmpicedlcpaaGreatDoor
open Go.ChangeShapes Go.WideShapes Go.ChangeAt Go.RowKit
namespace Put
open Grd (C SliceAt CellsAt gridErr z0 nilV)
/-- A screen that a machine holds. -/
structure Bulk (s : Scr) : Prop where
  f : Fits s
  c : s.cs.length ≤ 1048576
  r : ∀ row, row ∈ s.gone → row.length ≤ 1048576
theorem Bulk.small {s : Scr} (h : Bulk s) : Small s := ⟨by have := h.c; omega, by have := h.f.bl; omega, by have := h.f.gl; omega, fun row hr => by have := h.r row hr; omega⟩
theorem Bulk.row {s : Scr} (h : Bulk s) (k : Nat) (hk : k < s.gone.length) : (s.gone.getD k []).length ≤ 1048576 := by
  have e : s.gone.getD k [] = s.gone[k] := by simp [List.getD, hk]
  rw [e]
  exact h.r _ (List.getElem_mem hk)
theorem cloneCells_any (v : Value) (N : Nat) (row : List C) (w : World) (h : SliceAt w v row) (hbig : row.length ≤ 1048576) :
    Calls Tryz.prog 98 #[v] w fun e w' => ∃ a c, e = .returned (.slice a row.length c) ∧ RowIn w' N (.slice a row.length c) row ∧ Below w.heap.size w w' := by
  rcases h with ⟨rfl, a, c, rfl⟩ | ⟨hr, b, o, c, rfl, h1, h2, h3⟩
  · refine (Grd.clone_empty a c w).mono ?_
    rintro e W ⟨a', c', rfl, hb⟩
    exact ⟨a', c', rfl, .inl ⟨rfl, a', c', rfl⟩, hb⟩
  · refine (Grd.clone_row b o c row w h3 (by omega)).mono ?_
    rintro e W ⟨v', g, rfl, hg, hR, hb⟩
    obtain ⟨a', c', hv⟩ := (rowIn_rowB (N := N) hR).shape
    subst hv
    exact ⟨a', c', rfl, rowIn_rowB hR, hb⟩
theorem Kept.grown {W W' : World} {N base : Nat} {v : Value} {n : Nat} {xs : List Value} (ho : W.ownsRow base 22 1 v n xs) (hb : N ≤ base) (hg : W.grownBy W' v.ownBlock) : Kept N W W' := fun k hk hS => hg.block k hk fun e => by
  obtain ⟨h1, A, f, hA⟩ := owns_block ho k e.symm
  rcases hS with hS | ⟨B, f', hS⟩
  · omega
  · rw [hA] at hS
    injection hS with hS
    injection hS with _ hS _
    exact absurd hS (by decide)
theorem own_grown {W W' : World} {N base : Nat} {e : TypeId} {u v : Value} {n m : Nat} {xs ys : List Value} (h : W.ownsRow N e 1 u m ys) (ho : W.ownsRow base 22 1 v n xs) (he : 22 ≠ e) (hg : W.grownBy W' v.ownBlock) : W'.ownsRow N e 1 u m ys :=
  owns_kept h fun k hk => by
    obtain ⟨-, B, f', hB⟩ := owns_block h k hk
    refine hg.block k (heap_lt hB) fun e' => ?_
    obtain ⟨h1, A, f, hA⟩ := owns_block ho k e'.symm
    rw [hA] at hB
    injection hB with hB
    injection hB with _ hB _
    exact he hB
theorem RowsIn.snoc {W : World} {N : Nat} {vs : List Value} {rows : List (List C)} (h : RowsIn W N vs rows) {v : Value} {row : List C} (hr : RowIn W N v row) : RowsIn W N (vs ++ [v]) (rows ++ [row]) := by
  refine ⟨by simp [h.1], fun i hi => ?_⟩
  rw [List.length_append, List.length_singleton] at hi
  by_cases e : i < rows.length
  · rw [Grd.getD_snoc_lt _ _ _ _ e, Grd.getD_snoc_lt _ _ _ _ (by rw [h.1]; exact e)]
    exact h.2 i e
  · have e1 : i = rows.length := by omega
    have e2 : (vs ++ [v]).getD i nilV = v := by rw [e1, ← h.1]; exact Grd.getD_snoc_eq _ _ _
    rw [e2, e1, Grd.getD_snoc_eq]
    exact hr
theorem take_next {α : Type} (l : List α) (k : Nat) (d : α) (h : k < l.length) : l.take (k + 1) = l.take k ++ [l.getD k d] := by
  rw [List.take_succ_eq_append_getElem h]
  simp [List.getD, h]
set_option maxHeartbeats 4000000 in
set_option maxRecDepth 100000 in
theorem ownScreen_any (s : Scr) (cv tv gv : Value) (w : World) (hV : ScrV w s cv tv gv) (hB : Bulk s) :
    Calls Tryz.prog 68 #[.agg (scrA s cv tv gv)] w fun e W' => ∃ cv' tv' gv', e = .returned (.agg (scrA s cv' tv' gv')) ∧ ScrV W' s cv' tv' gv' ∧ Below w.heap.size w W' := by
  obtain ⟨ca, cc, rfl⟩ := hV.c.shape
  obtain ⟨ta, tc, rfl⟩ := hV.t.slice
  obtain ⟨ga, gc, rfl⟩ := hV.g.slice
  obtain ⟨i0, hi, hzz⟩ := Option.map_eq_some_iff.1 info_rows
  simp only [Prod.mk.injEq] at hzz
  obtain ⟨hz0, hz1, hz2⟩ := hzz
  have hkb : Below w.heap.size w ((w.alloc (.cells (scrA s (.slice ca s.cs.length cc) (.slice ta s.tabs.length tc) (.slice ga s.gone.length gc)) 32)).alloc (.cells #[.int .i64 0, .int .i64 0, .slice none 0 0, .int .i64 0, .int .i64 0, .bool false, .int .i64 0, .int .i64 0, .int .i64 0, .int .i64 0, .int .i64 0, .int .i64 0, .slice none 0 0, .int .i64 0, .int .i64 0, .int .i64 0, .int .i64 0, .int .i64 0, .int .i64 0, .int .i32 0, .string ⟨#[]⟩, .slice none 0 0] 32)) := ((Below.refl _ _).alloc (Nat.le_refl _) _).alloc (by simp) _
  have hx0 : ((w.alloc (.cells (scrA s (.slice ca s.cs.length cc) (.slice ta s.tabs.length tc) (.slice ga s.gone.length gc)) 32)).alloc (.cells #[.int .i64 0, .int .i64 0, .slice none 0 0, .int .i64 0, .int .i64 0, .bool false, .int .i64 0, .int .i64 0, .int .i64 0, .int .i64 0, .int .i64 0, .int .i64 0, .slice none 0 0, .int .i64 0, .int .i64 0, .int .i64 0, .int .i64 0, .int .i64 0, .int .i64 0, .int .i32 0, .string ⟨#[]⟩, .slice none 0 0] 32)).heap[w.heap.size]? = some (.cells (scrA s (.slice ca s.cs.length cc) (.slice ta s.tabs.length tc) (.slice ga s.gone.length gc)) 32 (0, 0)) := (Below.heap_alloc _ _ _ (by simp)).trans (heap_alloc_new _ _)
  have hx1 : ((w.alloc (.cells (scrA s (.slice ca s.cs.length cc) (.slice ta s.tabs.length tc) (.slice ga s.gone.length gc)) 32)).alloc (.cells #[.int .i64 0, .int .i64 0, .slice none 0 0, .int .i64 0, .int .i64 0, .bool false, .int .i64 0, .int .i64 0, .int .i64 0, .int .i64 0, .int .i64 0, .int .i64 0, .slice none 0 0, .int .i64 0, .int .i64 0, .int .i64 0, .int .i64 0, .int .i64 0, .int .i64 0, .int .i32 0, .string ⟨#[]⟩, .slice none 0 0] 32)).heap[w.heap.size + 1]? = some (.cells (scrA zScr (.slice none 0 0) (.slice none 0 0) (.slice none 0 0)) 32 (0, 0)) := heap_alloc2_new w _ _
  have HX0 : Hid _ := hx0
  have HX1 : Hid _ := hx1
  have HKB : Hid _ := hkb
  have HV : Hid (ScrV w s _ _ _) := hV
  have HBK : Hid (Bulk s) := hB
  have hlt1 := heap_lt hx1
  clear hx0 hx1 hkb hV hB
  go_enter Tryz.func68, Tryz.ntmps68
  go_upto_region 1 with fail
  generalize ((w.alloc (.cells (scrA s (.slice ca s.cs.length cc) (.slice ta s.tabs.length tc) (.slice ga s.gone.length gc)) 32)).alloc (.cells #[.int .i64 0, .int .i64 0, .slice none 0 0, .int .i64 0, .int .i64 0, .bool false, .int .i64 0, .int .i64 0, .int .i64 0, .int .i64 0, .int .i64 0, .int .i64 0, .slice none 0 0, .int .i64 0, .int .i64 0, .int .i64 0, .int .i64 0, .int .i64 0, .int .i64 0, .int .i32 0, .string ⟨#[]⟩, .slice none 0 0] 32)) = X at *
  obtain ⟨⟨-, -, c2, -⟩, -, -⟩ := scr_cells HX0.out
  go_wp2_with fail
  refine (cloneCells_any _ w.heap.size s.cs X (HV.out.c.below HKB.out) HBK.out.c).mono ?_
  rintro e V1 ⟨a1, c1, rfl, hR1, b1⟩
  have hp1 := Grd.carry HX0.out b1
  have f2 := (scr_cells hp1).2.2 2
  have c2' := (scr_cells hp1).1.2.2.1
  have HP1 : Hid ((V1.setCell ⟨w.heap.size, 2, none⟩ (.slice a1 s.cs.length c1)).heap[w.heap.size]? = some (.cells (scrA s (.slice a1 s.cs.length c1) (.slice ta s.tabs.length tc) (.slice ga s.gone.length gc)) 32 (0, 0))) := store_at hp1 rfl
  have HQ1 : Hid ((V1.setCell ⟨w.heap.size, 2, none⟩ (.slice a1 s.cs.length c1)).heap[w.heap.size + 1]? = _) := (store_off (by omega)).trans (Grd.carry HX1.out b1)
  have HR1 : Hid (RowIn (V1.setCell ⟨w.heap.size, 2, none⟩ (.slice a1 s.cs.length c1)) w.heap.size (.slice a1 s.cs.length c1) s.cs) := hR1.keep (Kept.store hp1 (by decide) (Nat.le_refl _))
  have HB1 : Hid (Below w.heap.size w (V1.setCell ⟨w.heap.size, 2, none⟩ (.slice a1 s.cs.length c1))) := (HKB.out.trans (b1.mono HKB.out.size)).setCell (Nat.le_refl _) _
  have c12 := (scr_cells hp1).2.1.2.1
  clear hR1 b1 hp1 c2
  go_wp2_with fail
  refine (cloneBools_any _ s.tabs _ (HV.out.t.next HB1.out) HBK.out.f.bl).mono ?_
  rintro e V2 ⟨tv', rfl, ho2, b2⟩
  obtain ⟨a2, c2n, rfl⟩ := own_slice ho2
  have hp2 := Grd.carry HP1.out b2
  have f12 := (scr_cells hp2).2.2 12
  have c12' := (scr_cells hp2).2.1.2.1
  have HP2 : Hid ((V2.setCell ⟨w.heap.size, 12, none⟩ (.slice a2 s.tabs.length c2n)).heap[w.heap.size]? = some (.cells (scrA s (.slice a1 s.cs.length c1) (.slice a2 s.tabs.length c2n) (.slice ga s.gone.length gc)) 32 (0, 0))) := store_at hp2 rfl
  have HQ2 : Hid ((V2.setCell ⟨w.heap.size, 12, none⟩ (.slice a2 s.tabs.length c2n)).heap[w.heap.size + 1]? = _) := (store_off (by omega)).trans (Grd.carry HQ1.out b2)
  have HR2 : Hid (RowIn (V2.setCell ⟨w.heap.size, 12, none⟩ (.slice a2 s.tabs.length c2n)) w.heap.size (.slice a1 s.cs.length c1) s.cs) := (HR1.out.keep (Kept.of_below b2)).keep (Kept.store hp2 (by decide) (Nat.le_refl _))
  have HT2 : Hid ((V2.setCell ⟨w.heap.size, 12, none⟩ (.slice a2 s.tabs.length c2n)).ownsRow w.heap.size 4 1 (.slice a2 s.tabs.length c2n) s.tabs.length (s.tabs.map Value.bool)) := Grd.ownsRow_mono (own_off ho2 hp2 (by decide)) HB1.out.size
  have HB2 : Hid (Below w.heap.size w (V2.setCell ⟨w.heap.size, 12, none⟩ (.slice a2 s.tabs.length c2n))) := (HB1.out.trans (b2.mono HB1.out.size)).setCell (Nat.le_refl _) _
  have c21 := (scr_cells hp2).2.1.2.2.2.2.2.2.2.2.2.2
  clear ho2 b2 hp2 c12 c2' f2 HP1 HQ1 HR1 HB1
  go_wp2_with fail
  clear c21 c12' f12
  go_loopg [3, 19] s.gone.length (fun q v i wr => ∃ (k : Nat) (vs : List Value), i = .int .i64 (k : Int) ∧ k ≤ s.gone.length ∧ s.gone.length - k ≤ q ∧ wr.ownsRow (w.heap.size + 2) 22 1 v k vs ∧ RowsIn wr w.heap.size vs (s.gone.take k) ∧ Below w.heap.size w wr ∧ wr.heap[w.heap.size]? = some (.cells (scrA s (.slice a1 s.cs.length c1) (.slice a2 s.tabs.length c2n) (.slice ga s.gone.length gc)) 32 (0, 0)) ∧ wr.heap[w.heap.size + 1]? = some (.cells (scrA zScr (.slice none 0 0) (.slice none 0 0) (.slice none 0 0)) 32 (0, 0)) ∧ RowIn wr w.heap.size (.slice a1 s.cs.length c1) s.cs ∧ wr.ownsRow w.heap.size 4 1 (.slice a2 s.tabs.length c2n) s.tabs.length (s.tabs.map Value.bool))
  case atStart => exact ⟨0, [], rfl, by omega, by omega, World.ownsRow_nil _ _ _ _, ⟨by simp, fun i hi => absurd hi (by simp)⟩, HB2.out, HP2.out, HQ2.out, HR2.out, HT2.out⟩
  case round =>
    clear HB2 HP2 HQ2 HR2 HT2
    obtain ⟨k, vs, rfl, hk, hq, hown, hrows, hb, hp, hp1, hr, ht⟩ := hrel
    have HO : Hid (wr.ownsRow (w.heap.size + 2) 22 1 _ k vs) := hown
    have HRS : Hid (RowsIn wr w.heap.size vs (s.gone.take k)) := hrows
    have HB : Hid (Below w.heap.size w wr) := hb
    have HP : Hid _ := hp
    have HQ : Hid _ := hp1
    have HR : Hid (RowIn wr w.heap.size _ s.cs) := hr
    have HT : Hid (wr.ownsRow w.heap.size 4 1 _ s.tabs.length (s.tabs.map Value.bool)) := ht
    have hN := heap_lt hp1
    clear hown hrows hb hr ht
    by_cases hlt : k < s.gone.length
    · have lt1 : ((k : Int) < (s.gone.length : Int)) := by omega
      rcases HV.out.g with ⟨he, -⟩ | ⟨b, o, c, hvv, -, -, hc⟩
      · rw [he] at hlt
        exact absurd hlt (by simp)
      injection hvv with hvv1 hvv2 hvv3
      subst hvv1 hvv3
      obtain ⟨rv, hc1, hS⟩ := hc k hlt
      have q0 := cell_stay HB.out hc1
      obtain ⟨ra, rc, hrv⟩ := hS.shape
      subst hrv
      have HCL := cloneCells_any _ w.heap.size (s.gone.getD k []) wr (hS.below HB.out) (HBK.out.row k hlt)
      have HTK : Hid (s.gone.take (k + 1) = s.gone.take k ++ [s.gone.getD k []]) := take_next _ _ _ hlt
      clear hc hc1 hS hp hp1
      generalize s.gone.getD k [] = row at *
      have hsl := own_slice HO.out
      go_upto_region 7 with fail
      go_wp2_with (first | (go_at_call 98; refine HCL.mono ?_; rintro e W2 ⟨na, nc, rfl, hr2, b2⟩) | (at_builtin; refine Hid.out ?_))
      unfold Hid
      have HR2 : Hid (RowIn W2 w.heap.size (.slice na row.length nc) row) := hr2
      have hown2 : W2.ownsRow (w.heap.size + 2) 22 1 _ k vs := Grd.ownsRow_below HO.out b2
      have hgl := HBK.out.f.gl
      have hs2 := b2.size
      refine wpList_append_own _ rfl _ _ 30 rfl (w.heap.size + 2) 22 i0 (.slice none 0 0) 1 24 und_rows hi hz0 hz1 hz2 rfl (by decide) _ _ _ rfl (hown2.alloc _) ⟨W2.heap.size, 0, none⟩ 1 1 [.slice na row.length nc] rfl rfl (cell_one_new _ _ _) (by intro u hu; simp at hu; rw [hu]; rfl) (by unfold maxLen; omega) (by omega) (by simp; omega) ?_
      intro v3 W3 hown3 hgrow hnil
      go_wp2_with fail
      have kZ : Below W2.heap.size W2 (W2.alloc (.cells #[.slice na row.length nc] 22)) := (Below.refl _ _).alloc (Nat.le_refl _) _
      have hfrom := Grd.own_from HO.out
      have kb2 := HB.out.trans (b2.mono HB.out.size)
      have hN2 := b2.size
      have kk := Kept.grown (hown2.alloc (.cells #[.slice na row.length nc] 22)) (show w.heap.size ≤ w.heap.size + 2 by omega) hgrow
      have ka := Kept.of_below (N := w.heap.size) b2
      have kz := Kept.of_below (N := w.heap.size) kZ
      go_roundg (s.gone.length - (k + 1))
      case measure => omega
      case rel =>
        refine ⟨k + 1, vs ++ [.slice na row.length nc], rfl, by omega, by omega, hown3, ?_, ?_, ?_, ?_, ?_, ?_⟩
        · rw [HTK.out]
          exact (((HRS.out.keep ka).keep kz).keep kk).snoc ((HR2.out.keep kz).keep kk)
        · exact (kb2.alloc kb2.size _).grown hgrow (by simp; omega) (fun q hq => by have := hfrom q hq; omega)
        · rw [hgrow.block _ (by simp; omega) (fun e => by have := hfrom _ e.symm; omega)]
          exact Grd.carry (Grd.carry HP.out b2) kZ
        · rw [hgrow.block _ (by simp; omega) (fun e => by have := hfrom _ e.symm; omega)]
          exact Grd.carry (Grd.carry HQ.out b2) kZ
        · exact ((HR.out.keep ka).keep kz).keep kk
        · exact own_grown (own_next (own_next HT.out b2) kZ) (hown2.alloc _) (by decide) hgrow
    · have lt1 : ¬ ((k : Int) < (s.gone.length : Int)) := by omega
      have hkh : k = s.gone.length := by omega
      subst hkh
      rw [List.take_length] at HRS
      obtain ⟨na, nc, rfl⟩ := own_slice HO.out
      have f21 := (scr_cells hp).2.2 21
      have c21 := (scr_cells hp).2.1.2.2.2.2.2.2.2.2.2.2
      have HY0 : Hid ((wr.setCell ⟨w.heap.size, 21, none⟩ (.slice na s.gone.length nc)).heap[w.heap.size]? = some (.cells (scrA s (.slice a1 s.cs.length c1) (.slice a2 s.tabs.length c2n) (.slice na s.gone.length nc)) 32 (0, 0))) := store_at hp rfl
      have HY1 : Hid ((wr.setCell ⟨w.heap.size, 21, none⟩ (.slice na s.gone.length nc)).heap[w.heap.size + 1]? = _) := (store_off (by omega)).trans hp1
      have kk : Kept w.heap.size wr (wr.setCell ⟨w.heap.size, 21, none⟩ (.slice na s.gone.length nc)) := Kept.store hp (by decide) (Nat.le_refl _)
      have HRI : Hid (RowIn (wr.setCell ⟨w.heap.size, 21, none⟩ (.slice na s.gone.length nc)) w.heap.size (.slice a1 s.cs.length c1) s.cs) := HR.out.keep kk
      have HRG : Hid (RowsIn (wr.setCell ⟨w.heap.size, 21, none⟩ (.slice na s.gone.length nc)) w.heap.size vs s.gone) := HRS.out.keep kk
      have HTT : Hid ((wr.setCell ⟨w.heap.size, 21, none⟩ (.slice na s.gone.length nc)).ownsRow w.heap.size 4 1 (.slice a2 s.tabs.length c2n) s.tabs.length (s.tabs.map Value.bool)) := own_off HT.out hp (by decide)
      have HOO : Hid ((wr.setCell ⟨w.heap.size, 21, none⟩ (.slice na s.gone.length nc)).ownsRow (w.heap.size + 2) 22 1 (.slice na s.gone.length nc) s.gone.length vs) := own_off HO.out hp (by decide)
      have HBB : Hid (Below w.heap.size w (wr.setCell ⟨w.heap.size, 21, none⟩ (.slice na s.gone.length nc))) := HB.out.setCell (Nat.le_refl _) _
      clear hp hp1 kk
      go_wp2_with (first
        | (refine wpList_load_row rfl 32 (.tmp 1) rfl w.heap.size rfl _ _ _ _ HY0.out Tryz.underlying32 rfl (by kernel_rfl) ?_)
        | (refine wpList_store_row rfl 32 (.tmp 2) _ rfl (w.heap.size + 1) (scrA s (.slice a1 s.cs.length c1) (.slice a2 s.tabs.length c2n) (.slice na s.gone.length nc)) rfl rfl _ _ HY1.out (by kernel_rfl) rfl (scr_one _ _ _ _ _ _ _ _ _ _) ?_))
      (try simp only [Exit.inBlock, Exit.then])
      have ko : ∀ k, k ≠ w.heap.size + 1 → ((wr.setCell ⟨w.heap.size, 21, none⟩ (.slice na s.gone.length nc)).setRow (w.heap.size + 1) (scrA s (.slice a1 s.cs.length c1) (.slice a2 s.tabs.length c2n) (.slice na s.gone.length nc))).heap[k]? = (wr.setCell ⟨w.heap.size, 21, none⟩ (.slice na s.gone.length nc)).heap[k]? := fun k hk => setRow_other _ _ _ _ hk
      have kt : ∀ (k : Nat) (A : Array Value) (t : TypeId) (f : Nat × Nat), (wr.setCell ⟨w.heap.size, 21, none⟩ (.slice na s.gone.length nc)).heap[k]? = some (.cells A t f) → t ≠ 32 → k ≠ w.heap.size + 1 := fun k A t f hk ht e => by
        have h1 := HY1.out
        rw [← e, hk] at h1
        injection h1 with h1
        injection h1 with _ h1 _
        exact ht h1
      have kk : Kept w.heap.size (wr.setCell ⟨w.heap.size, 21, none⟩ (.slice na s.gone.length nc)) ((wr.setCell ⟨w.heap.size, 21, none⟩ (.slice na s.gone.length nc)).setRow (w.heap.size + 1) (scrA s (.slice a1 s.cs.length c1) (.slice a2 s.tabs.length c2n) (.slice na s.gone.length nc))) := fun k hk hS => ko k (by
        rcases hS with hS | ⟨A, f, hS⟩
        · omega
        · exact kt k A _ f hS (by decide))
      refine bodyPost_ret (v := .agg (scrA s (.slice a1 s.cs.length c1) (.slice a2 s.tabs.length c2n) (.slice na s.gone.length nc))) ?_ rfl ⟨_, _, _, rfl, ⟨(HRI.out.keep kk).cells, own_boolsV (owns_kept HTT.out fun g hg => ?_), own_rowsV (owns_kept HOO.out fun g hg => ?_) (HRG.out.keep kk).list⟩, below_setRow HBB.out (by omega) _⟩
      · exact results_cell_row rfl _ _ (w.heap.size + 1) _ _ _ _ rfl (setRow_heap _ _ _ _ _ _ HY1.out) Tryz.underlying32 rfl (by kernel_rfl)
      · obtain ⟨-, A, f, hA⟩ := owns_block HTT.out g hg
        exact ko g (kt g A _ f hA (by decide))
      · obtain ⟨-, A, f, hA⟩ := owns_block HOO.out g hg
        exact ko g (kt g A _ f hA (by decide))
end Put
end Go.Proofs.YtmhmmpicedlcpaaGreatDoor

/- A list of rows, anywhere in a block of such. -/
namespace Go.Proofs.YtmhmmpicedlcpaaGreatDoor
open Go.ChangeShapes Go.WideShapes Go.ChangeAt Go.RowKit
namespace Put
open Grd (C SliceAt CellsAt gridErr z0 nilV rowsL RowsAt RowB flat)
/-- The block that a slice speaks of. -/
def blkOf (v : Value) : Option Nat := match v with
  | .slice (some a) _ _ => some a.block
  | _ => none
/-- A list of rows' values, anywhere in a block of such: from N on. -/
def GoneV (W : World) (N : Nat) (v : Value) (n : Nat) (vs : List Value) : Prop :=
  vs.length = n ∧ ((n = 0 ∧ ∃ a c, v = .slice a 0 c) ∨ ∃ g o cap A, v = .slice (some ⟨g, o, none⟩) n cap ∧ N ≤ g ∧ n ≤ cap ∧ cap ≤ 9223372036854775807 ∧ W.heap[g]? = some (.cells A 22 (0, 0)) ∧ ∀ j, j < n → A[o + j]? = some (vs.getD j nilV))
theorem GoneV.of {W : World} {N : Nat} {v : Value} {n : Nat} {vs : List Value} (h : W.ownsRow N 22 1 v n vs) : GoneV W N v n vs := by
  obtain ⟨h0, ⟨rfl, rfl⟩ | ⟨g, cap, cur, rfl, hg, hh, hc, hm, hs, htk⟩⟩ := h
  · exact ⟨by simpa using h0, .inl ⟨rfl, none, 0, rfl⟩⟩
  · refine ⟨by simpa using h0, .inr ⟨g, 0, cap, cur, rfl, hg, hc, by unfold maxLen at hm; omega, hh, fun j hj => ?_⟩⟩
    have hl : vs.length = n := by simpa using h0
    rw [Nat.zero_add]
    have e : cur[j]? = vs[j]? := by rw [← htk, ← Array.getElem?_toList, List.getElem?_take_of_lt (by omega)]
    rw [e]
    simp [List.getD, List.getElem?_eq_getElem (show j < vs.length by omega)]
theorem GoneV.slice {W : World} {N : Nat} {v : Value} {n : Nat} {vs : List Value} (h : GoneV W N v n vs) : ∃ a c, v = .slice a n c := by
  obtain ⟨-, ⟨rfl, a, c, rfl⟩ | ⟨g, o, cap, A, rfl, -⟩⟩ := h
  · exact ⟨a, c, rfl⟩
  · exact ⟨_, cap, rfl⟩
theorem GoneV.kept {W W' : World} {N : Nat} {v : Value} {n : Nat} {vs : List Value} (h : GoneV W N v n vs) (hk : ∀ g, v.ownBlock = some g → W'.heap[g]? = W.heap[g]?) : GoneV W' N v n vs := by
  obtain ⟨h0, h | ⟨g, o, cap, A, hv, h1, h2, h3, h4, h5⟩⟩ := h
  · exact ⟨h0, .inl h⟩
  · exact ⟨h0, .inr ⟨g, o, cap, A, hv, h1, h2, h3, (hk g (by rw [hv]; rfl)).trans h4, h5⟩⟩
theorem GoneV.next {W W' : World} {N : Nat} {v : Value} {n : Nat} {vs : List Value} (h : GoneV W N v n vs) (hb : Below W.heap.size W W') : GoneV W' N v n vs := by
  obtain ⟨h0, h | ⟨g, o, cap, A, hv, h1, h2, h3, h4, h5⟩⟩ := h
  · exact ⟨h0, .inl h⟩
  · exact ⟨h0, .inr ⟨g, o, cap, A, hv, h1, h2, h3, Grd.carry h4 hb, h5⟩⟩
theorem GoneV.apart {W W' : World} {N p : Nat} {t : TypeId} {v : Value} {n : Nat} {vs : List Value} {A : Array Value} {f : Nat × Nat} (h : GoneV W N v n vs) (hp : W.heap[p]? = some (.cells A t f)) (ht : t ≠ 22) (ho : ∀ k, k ≠ p → W'.heap[k]? = W.heap[k]?) : GoneV W' N v n vs := by
  obtain ⟨h0, h | ⟨g, o, cap, B, hv, h1, h2, h3, h4, h5⟩⟩ := h
  · exact ⟨h0, .inl h⟩
  · refine ⟨h0, .inr ⟨g, o, cap, B, hv, h1, h2, h3, (ho g fun e => ?_).trans h4, h5⟩⟩
    rw [e, hp] at h4
    injection h4 with h4
    injection h4 with _ h4 _
    exact ht h4
theorem GoneV.rowsV {W : World} {N : Nat} {v : Value} {rows : List (List C)} {vs : List Value} (h : GoneV W N v rows.length vs) (hr : RowsL W vs rows) : RowsV W v rows := by
  obtain ⟨h0, ⟨hn, a, c, hv⟩ | ⟨g, o, cap, A, hv, h1, h2, h3, h4, h5⟩⟩ := h
  · exact .inl ⟨List.eq_nil_of_length_eq_zero hn, a, c, hv⟩
  · refine .inr ⟨g, o, cap, hv, h2, h3, fun j hj => ⟨vs.getD j nilV, ?_, hr.2 j hj⟩⟩
    simp only [World.cell?, h4]
    rw [h5 j hj]
    rfl
end Put
end Go.Proofs.YtmhmmpicedlcpaaGreatDoor

/- The reference's desk: a screen under way; Take, Give. -/
namespace Go.Proofs.YtmhmmpicedlcpaaGreatDoor
open Go.ChangeShapes Go.WideShapes Go.ChangeAt Go.RowKit
namespace Put
open Grd (C SliceAt CellsAt gridErr z0 nilV rowsL RowsAt RowB flat)
/-- A desk in memory: its block p, its rows in blocks of their own (gs), which nothing else speaks of. -/
structure DkA (W : World) (N p : Nat) (s : Scr) (rows : List (List C)) (cv tv gv rv : Value) (gvs vs : List Value) (gs : List Nat) : Prop where
  blk : W.heap[p]? = some (.cells (shA s cv tv gv rv) 67 (0, 0))
  lo : N ≤ p
  cvs : ∃ a n c, cv = .slice a n c
  tabs : W.ownsRow N 4 1 tv s.tabs.length (s.tabs.map Value.bool)
  gone : GoneV W N gv s.gone.length gvs
  gin : RowsIn W N gvs s.gone
  gof : ∀ i, i < s.gone.length → s.gone.getD i [] ≠ [] → ∀ g, blkOf (gvs.getD i nilV) = some g → g ∉ gs
  rws : W.ownsRow N 22 1 rv rows.length vs
  rin : RowsAt W N vs gs rows
  two : ∀ k, rv.ownBlock = some k → gv.ownBlock ≠ some k
def DkAt (W : World) (N p : Nat) (s : Scr) (rows : List (List C)) : Prop := ∃ cv tv gv rv gvs vs gs, DkA W N p s rows cv tv gv rv gvs vs gs
theorem DkA.next {W W' : World} {N p : Nat} {s : Scr} {rows : List (List C)} {cv tv gv rv : Value} {gvs vs : List Value} {gs : List Nat} (h : DkA W N p s rows cv tv gv rv gvs vs gs) (hb : Below W.heap.size W W') : DkA W' N p s rows cv tv gv rv gvs vs gs :=
  ⟨Grd.carry h.blk hb, h.lo, h.cvs, own_next h.tabs hb, h.gone.next hb, h.gin.keep (Kept.of_below hb), h.gof, own_next h.rws hb, h.rin.below hb, h.two⟩
theorem DkAt.next {W W' : World} {N p : Nat} {s : Scr} {rows : List (List C)} (h : DkAt W N p s rows) (hb : Below W.heap.size W W') : DkAt W' N p s rows := by
  obtain ⟨cv, tv, gv, rv, gvs, vs, gs, h⟩ := h
  exact ⟨_, _, _, _, _, _, _, h.next hb⟩
theorem DkAt.lo {W : World} {N p : Nat} {s : Scr} {rows : List (List C)} (h : DkAt W N p s rows) : N ≤ p := by
  obtain ⟨cv, tv, gv, rv, gvs, vs, gs, h⟩ := h
  exact h.lo
theorem rowB_type {W : World} {g : Nat} {v : Value} {row : List C} (h : RowB W g v row) : ∃ A, W.heap[g]? = some (.cells A 73 (0, 0)) := by
  obtain ⟨cap, rest, -, -, -, h⟩ := h
  exact ⟨_, h⟩
/-- A block that is none of the rows' keeps its number. -/
theorem RowsAt.apart {W W' : World} {N p : Nat} {vs : List Value} {gs : List Nat} {rows : List (List C)} {A : Array Value} {t : TypeId} {f : Nat × Nat} (h : RowsAt W N vs gs rows) (hp : W.heap[p]? = some (.cells A t f)) (ht : t ≠ 73) (ho : ∀ k, k ≠ p → W'.heap[k]? = W.heap[k]?) : RowsAt W' N vs gs rows :=
  h.kept fun i hi => ho _ fun e => by
    obtain ⟨B, hB⟩ := rowB_type (h.2.2.2 i hi).2
    rw [e, hp] at hB
    injection hB with hB
    injection hB with _ hB _
    exact ht hB
theorem own_apart {W W' : World} {N p : Nat} {e t : TypeId} {u : Value} {n : Nat} {xs : List Value} {A : Array Value} {f : Nat × Nat} (h : W.ownsRow N e 1 u n xs) (hp : W.heap[p]? = some (.cells A t f)) (ht : t ≠ e) (ho : ∀ k, k ≠ p → W'.heap[k]? = W.heap[k]?) : W'.ownsRow N e 1 u n xs :=
  owns_kept h fun g hg => ho g fun eq => by
    obtain ⟨-, B, f', hB⟩ := owns_block h g hg
    rw [eq, hp] at hB
    injection hB with hB
    injection hB with _ hB _
    exact ht hB
theorem Kept.apart {W W' : World} {N p : Nat} {t : TypeId} {A : Array Value} {f : Nat × Nat} (hp : W.heap[p]? = some (.cells A t f)) (ht : t ≠ 73) (hN : N ≤ p) (ho : ∀ k, k ≠ p → W'.heap[k]? = W.heap[k]?) : Kept N W W' := fun k _ hS => ho k fun e => by
  subst e
  rcases hS with hS | ⟨B, f', hS⟩
  · omega
  · rw [hp] at hS
    injection hS with hS
    injection hS with _ hS _
    exact ht hS
/-- Other words in the desk's own block, but for the tabs, the rows and what is gone. -/
theorem DkA.put {W W' : World} {N p : Nat} {s s' : Scr} {rows : List (List C)} {cv tv gv rv : Value} {gvs vs : List Value} {gs : List Nat} (h : DkA W N p s rows cv tv gv rv gvs vs gs)
    (hp : W'.heap[p]? = some (.cells (shA s' cv tv gv rv) 67 (0, 0))) (ho : ∀ k, k ≠ p → W'.heap[k]? = W.heap[k]?) (htabs : s'.tabs = s.tabs) (hgone : s'.gone = s.gone) : DkA W' N p s' rows cv tv gv rv gvs vs gs := by
  refine ⟨hp, h.lo, h.cvs, ?_, ?_, ?_, ?_, own_apart h.rws h.blk (by decide) ho, RowsAt.apart h.rin h.blk (by decide) ho, h.two⟩
  · rw [htabs]
    exact own_apart h.tabs h.blk (by decide) ho
  · rw [hgone]
    exact h.gone.apart h.blk (by decide) ho
  · rw [hgone]
    exact h.gin.keep (Kept.apart h.blk (by decide) h.lo ho)
  · rw [hgone]
    exact h.gof
theorem DkAt.set {W : World} {N p : Nat} {s s' : Scr} {rows : List (List C)} (h : DkAt W N p s rows) (i : Nat) (v : Value) (e : ∀ cv tv gv rv, (shA s cv tv gv rv).setIfInBounds i v = shA s' cv tv gv rv) (h1 : s'.tabs = s.tabs) (h2 : s'.gone = s.gone) : DkAt (W.setCell ⟨p, i, none⟩ v) N p s' rows := by
  obtain ⟨cv, tv, gv, rv, gvs, vs, gs, h⟩ := h
  exact ⟨_, _, _, _, _, _, _, h.put (store_at h.blk (e _ _ _ _)) (fun k hk => store_off hk) h1 h2⟩
/-- The words of a desk that stand for themselves. -/
theorem DkAt.words {W : World} {N p : Nat} {s : Scr} {rows : List (List C)} (h : DkAt W N p s rows) :
    W.cell? ⟨p, 0, none⟩ = some (.int .i64 s.w) ∧ W.cell? ⟨p, 1, none⟩ = some (.int .i64 s.h) ∧ W.cell? ⟨p, 3, none⟩ = some (.int .i64 s.x) ∧ W.cell? ⟨p, 4, none⟩ = some (.int .i64 s.y) ∧ W.cell? ⟨p, 5, none⟩ = some (.bool s.late) ∧ W.cell? ⟨p, 9, none⟩ = some (.int .i64 s.top) ∧ W.cell? ⟨p, 10, none⟩ = some (.int .i64 s.bot) ∧ W.cell? ⟨p, 11, none⟩ = some (.int .i64 s.modes) ∧ W.cell? ⟨p, 19, none⟩ = some (.int .i32 s.last) ∧ ∀ i, W.frozen? ⟨p, i, none⟩ = false := by
  obtain ⟨cv, tv, gv, rv, gvs, vs, gs, h⟩ := h
  obtain ⟨⟨c0, c1, -, c3, c4, c5, -, -, -, c9, c10⟩, ⟨c11, -, -, -, -, -, -, -, c19, -⟩, f⟩ := sh_cells h.blk
  exact ⟨c0, c1, c3, c4, c5, c9, c10, c11, c19, f⟩
theorem buildD_run (W : World) (s : Scr) (cv tv gv : Value) (a : Option Addr) (n c : Nat) : (Instr.build 67 #[(0, .agg (scrA s cv tv gv)), (1, .slice a n c)]).run Tryz.prog W = .ok (.agg (shA s cv tv gv (.slice a n c))) W := by
  kernel_rfl
theorem buildD_scr (a : Act) (dst : Option Tmp) (x y : Operand) (ty : TypeId) (pos : String) (after : Array Edge) (guard : Option (Nat × Bool)) (W : World) (h : IsScrV (a.eval x)) (hy : IsSliceV (a.eval y)) :
    (execOp a.eval { dst, op := .build 67 #[(0, x), (1, y)], type := ty, pos, after, guard }).run Tryz.prog W = .ok (.value (.agg (sheetOf (a.eval x) (a.eval y)))) W := by
  obtain ⟨s, cv, tv, gv, hx⟩ := h
  obtain ⟨p, n, c, hy⟩ := hy
  unfold execOp
  simp only [List.map_toArray, List.map_cons, List.map_nil, hx, hy, sheetOf_scr, Sem.run_bind, buildD_run, Sem.run_pure, Result.andThen_ok]
theorem rowsAt_ne {W : World} {N : Nat} {vs : List Value} {gs : List Nat} {rows : List (List C)} (h : RowsAt W N vs gs rows) (g : Nat) (hg : g ∈ gs) : N ≤ g ∧ g < W.heap.size := by
  obtain ⟨i, hi, rfl⟩ := List.mem_iff_getElem.1 hg
  have hi' : i < rows.length := by rw [← h.2.1]; exact hi
  have e : gs.getD i 0 = gs[i] := by simp [List.getD, hi]
  have h1 := (h.2.2.2 i hi').1
  have h2 := h.lt i hi'
  rw [e] at h1 h2
  exact ⟨h1, h2⟩
section
attribute [local go_sem ↓] load_scr buildD_scr
attribute [local go_sem] isScrV isSliceV sheetOf_scr
set_option maxHeartbeats 4000000 in
theorem take_any (n hh : Nat) (s : Scr) (cv tv gv : Value) (w0 w : World) (hV : ScrV w0 s cv tv gv) (hb0 : Below w0.heap.size w0 w) (hF : Fits s) (hw : s.w = n) (hh' : s.h = hh) (hz : gridErr n hh s.cs = 0) :
    Calls Tryz.prog 73 #[.agg (scrA s cv tv gv)] w fun e W' => ∃ p, e = .returned (.pointer (some ⟨p, 0, none⟩)) ∧ DkAt W' w.heap.size p s (rowsL n s.cs hh) ∧ Below w.heap.size w W' := by
  have hzz := (Grd.gridErr_zero n hh s.cs).1 hz
  obtain ⟨hsz, hL, -⟩ := hzz
  have hsz' : 1 ≤ (n : Int) ∧ (n : Int) ≤ 120 ∧ 1 ≤ (hh : Int) ∧ (hh : Int) ≤ 60 := by simpa [Grd.isSize] using hsz
  obtain ⟨w1, w2, w3, w4⟩ := hsz'
  have hne : s.cs ≠ [] := by
    intro e
    rw [e] at hL
    have : 1 ≤ n * hh := Nat.mul_pos (by omega) (by omega)
    simp at hL
    omega
  rcases hV.c with ⟨he, -⟩ | ⟨-, b, o, cap, rfl, hc1, hc2, hC⟩
  · exact absurd he hne
  have HL : Hid (s.cs.length = n * hh) := hL
  have HC : Hid (CellsAt w0 b o s.cs) := hC
  have HB00 : Hid (Below w0.heap.size w0 w) := hb0
  have HW : Hid (s.w = n ∧ s.h = hh) := ⟨hw, hh'⟩
  have HSZ : Hid (Grd.isSize n hh = true) := hsz
  clear hL hC hz hsz hne hw hh'
  have x0 := heap_alloc_new w (.cells (scrA s (.slice (some ⟨b, o, none⟩) s.cs.length cap) tv gv) 32)
  have kb : Below w.heap.size w (w.alloc (.cells (scrA s (.slice (some ⟨b, o, none⟩) s.cs.length cap) tv gv) 32)) := (Below.refl _ _).alloc (Nat.le_refl _) _
  have HX0 : Hid _ := x0
  have HB0 : Hid _ := kb
  have HV : Hid (ScrV w0 s _ tv gv) := hV
  have HF : Hid (Fits s) := hF
  clear x0 kb hV hF hb0
  have hl0 : w.heap.size < (w.alloc (.cells (scrA s (.slice (some ⟨b, o, none⟩) s.cs.length cap) tv gv) 32)).heap.size := by simp
  go_enter Tryz.func73, Tryz.ntmps73
  go_upto_region 1 with fail
  generalize w.alloc (.cells (scrA s (.slice (some ⟨b, o, none⟩) s.cs.length cap) tv gv) 32) = W1 at *
  go_cut [3] from 3 to 9 (fun c wx => ∃ p rv vs gs, c = .pointer (some ⟨p, 0, none⟩) ∧ w.heap.size ≤ p ∧ wx.heap[p]? = some (.cells (shA s (.slice (some ⟨b, o, none⟩) s.cs.length cap) tv gv rv) 67 (0, 0)) ∧ wx.ownsRow w.heap.size 22 1 rv hh vs ∧ RowsAt wx w.heap.size vs gs (rowsL n s.cs hh) ∧ Below W1.heap.size W1 wx)
  case first =>
    have SK : Hid (∀ w', Below W1.heap.size W1 w' → Below W1.heap.size W1 w' ∧ ScrPtr w' (.pointer (some ⟨w.heap.size, 0, none⟩)) ∧ blkAt w' (.pointer (some ⟨w.heap.size, 0, none⟩)) = scrA s (.slice (some ⟨b, o, none⟩) s.cs.length cap) tv gv ∧ w'.cell? ⟨w.heap.size, 0, none⟩ = some (.int .i64 (n : Int)) ∧ w'.cell? ⟨w.heap.size, 1, none⟩ = some (.int .i64 (hh : Int)) ∧ w'.cell? ⟨w.heap.size, 2, none⟩ = some (.slice (some ⟨b, o, none⟩) s.cs.length cap)) := fun w' hb => by
      have hx := Grd.carry HX0.out hb
      have q := scr_cells hx
      rw [HW.out.1, HW.out.2] at q
      exact ⟨hb, (scrPtr_of hx).1, (scrPtr_of hx).2, q.1.1, q.1.2.1, q.1.2.2.1⟩
    have b0 : Below W1.heap.size W1 W1.drew := (Below.refl _ _).drew
    have HC1 : Hid (s.cs.length ≤ cap) := hc1
    have hh1 : 0 < hh := by omega
    clear hc1
    go_region_held3 (fun w' => Below W1.heap.size W1 w' ∧ ScrPtr w' (.pointer (some ⟨w.heap.size, 0, none⟩)) ∧ blkAt w' (.pointer (some ⟨w.heap.size, 0, none⟩)) = scrA s (.slice (some ⟨b, o, none⟩) s.cs.length cap) tv gv ∧ w'.cell? ⟨w.heap.size, 0, none⟩ = some (.int .i64 (n : Int)) ∧ w'.cell? ⟨w.heap.size, 1, none⟩ = some (.int .i64 (hh : Int)) ∧ w'.cell? ⟨w.heap.size, 2, none⟩ = some (.slice (some ⟨b, o, none⟩) s.cs.length cap))
      (first | exact SK.out _ (c1.alloc c1.size _) | exact SK.out _ c1 | exact SK.out _ b0)
      (first | (go_at_call 111; refine (Grd.rows_any n hh b o cap s.cs W1.drew (HC.out.below (HB00.out.trans ((HB0.out.trans (b0.mono HB0.out.size)).mono HB00.out.size))) HSZ.out HL.out HC1.out).mono ?_; rintro e V1 ⟨v, vs, gs, rfl, ho, hra, b1⟩; have c1 := b0.trans (b1.mono b0.size); have HO : Hid (V1.ownsRow W1.heap.size 22 1 v hh vs) := ho; have HRA : Hid (RowsAt V1 W1.heap.size vs gs (rowsL n s.cs hh)) := hra; obtain ⟨g, cp, rfl⟩ := own_shape ho hh1; clear b1 ho hra))
    go_wp2_with fail
    go_meet
    refine ⟨V1.heap.size, _, vs, gs, rfl, Nat.le_trans (Nat.le_of_lt hl0) c1.size, heap_alloc_new _ _, Grd.ownsRow_mono (World.ownsRow.alloc HO.out _) (by omega), ?_, c1.alloc c1.size _⟩
    have h1 := HRA.out.below ((Below.refl V1.heap.size V1).alloc (Nat.le_refl _) (.cells (shA s (.slice (some ⟨b, o, none⟩) s.cs.length cap) tv gv (.slice (some ⟨g, 0, none⟩) hh cp)) 67))
    exact ⟨h1.1, h1.2.1, h1.2.2.1, fun i hi => ⟨by have := (h1.2.2.2 i hi).1; omega, (h1.2.2.2 i hi).2⟩⟩
  case rest =>
    obtain ⟨p, rv, vs, gs, rfl, hp, hblk, hown, hra, hb⟩ := hcut
    have hne : w.heap.size ≠ p := by
      intro e
      rw [← e, Grd.carry HX0.out hb] at hblk
      injection hblk with hblk
      injection hblk with _ hblk _
      exact absurd hblk (by decide)
    have HX1 : Hid _ := Grd.carry HX0.out hb
    have HP1 : Hid _ := hblk
    have HO1 : Hid _ := hown
    have HR1 : Hid (RowsAt wc w.heap.size vs gs (rowsL n s.cs hh)) := hra
    have HB1 : Hid (Below w.heap.size w wc) := HB0.out.trans (hb.mono HB0.out.size)
    have hlow : ∀ {V : World}, Below w.heap.size w V → Below w0.heap.size w0 V := fun h => HB00.out.trans (h.mono HB00.out.size)
    have HLOW : Hid (∀ {V : World}, Below w.heap.size w V → Below w0.heap.size w0 V) := hlow
    clear hblk hown hb hra hlow
    obtain ⟨-, ⟨-, c12, -⟩, -⟩ := scr_cells HX1.out
    go_wp2_with fail
    refine (cloneBools_any tv s.tabs wc (BoolsV.next HV.out.t (HLOW.out HB1.out)) HF.out.bl).mono ?_
    rintro e W2 ⟨tv', rfl, ho2, b2⟩
    obtain ⟨ta, tc, rfl⟩ := own_slice ho2
    have hp2 := Grd.carry HP1.out b2
    have f12 := (sh_cells hp2).2.2 12
    have c12' := (sh_cells hp2).2.1.2.1
    clear c12
    have HP2 : Hid _ := store_at (i := 12) (v := .slice ta s.tabs.length tc) hp2 rfl
    have HX2 : Hid _ := (store_off (i := 12) (v := .slice ta s.tabs.length tc) hne).trans (Grd.carry HX1.out b2)
    have HT2 : Hid _ := own_off (i := 12) (v := .slice ta s.tabs.length tc) ho2 hp2 (by decide)
    have HO2 : Hid _ := own_off (i := 12) (v := .slice ta s.tabs.length tc) (own_next HO1.out b2) hp2 (by decide)
    have HR2 : Hid (RowsAt (W2.setCell ⟨p, 12, none⟩ (.slice ta s.tabs.length tc)) w.heap.size vs gs (rowsL n s.cs hh)) := RowsAt.apart (HR1.out.below b2) hp2 (by decide) fun k hk => store_off hk
    have HB2 : Hid (Below w.heap.size w (W2.setCell ⟨p, 12, none⟩ (.slice ta s.tabs.length tc))) := (HB1.out.trans (b2.mono HB1.out.size)).setCell hp _
    have c21 := (scr_cells (Grd.carry HX1.out b2)).2.1.2.2.2.2.2.2.2.2.2.2
    clear ho2 b2 hp2
    go_wp2_with fail
    refine (cloneRows_any gv s.gone _ (RowsV.next HV.out.g (HLOW.out HB2.out)) HF.out.gl).mono ?_
    rintro e W6 ⟨gv', gvs, rfl, ho6, -, hr6, b6⟩
    have HR6 : Hid (RowsL w0 gvs s.gone) := hr6 w0 (HLOW.out HB2.out) HV.out.g
    obtain ⟨ga, gc, rfl⟩ := own_slice ho6
    have hp6 := Grd.carry HP2.out b6
    have f21 := (sh_cells hp6).2.2 21
    have c21' := (sh_cells hp6).2.1.2.2.2.2.2.2.2.2.2.2.1
    have HP6 : Hid _ := store_at (i := 21) (v := .slice ga s.gone.length gc) hp6 rfl
    have HT6 : Hid _ := own_off (i := 21) (v := .slice ga s.gone.length gc) (own_next HT2.out b6) hp6 (by decide)
    have HO6 : Hid _ := own_off (i := 21) (v := .slice ga s.gone.length gc) (own_next HO2.out b6) hp6 (by decide)
    have HG6 : Hid _ := own_off (i := 21) (v := .slice ga s.gone.length gc) ho6 hp6 (by decide)
    have HRA6 : Hid (RowsAt (W6.setCell ⟨p, 21, none⟩ (.slice ga s.gone.length gc)) w.heap.size vs gs (rowsL n s.cs hh)) := RowsAt.apart (HR2.out.below b6) hp6 (by decide) fun k hk => store_off hk
    have HB6 : Hid (Below w.heap.size w (W6.setCell ⟨p, 21, none⟩ (.slice ga s.gone.length gc))) := (HB2.out.trans (b6.mono HB2.out.size)).setCell hp _
    have HTW : Hid (∀ k, rv.ownBlock = some k → (Value.slice ga s.gone.length gc).ownBlock ≠ some k) := fun k h1 h2 => by
      obtain ⟨-, A, f, hA⟩ := owns_block HO2.out k h1
      obtain ⟨hB, -⟩ := owns_block ho6 k h2
      have := heap_lt hA
      omega
    clear ho6 b6 hp6 c21 c12' f12 hr6
    go_wp2_with fail
    go_ret
    have hg0 : ∀ i, i < s.gone.length → s.gone.getD i [] ≠ [] → ∀ g, blkOf (gvs.getD i nilV) = some g → g < w0.heap.size := fun i hi hne' g hg => by
      rcases HR6.out.2 i hi with ⟨he, -⟩ | ⟨-, b', o', c', hv, -, -, hC'⟩
      · exact absurd he hne'
      · rw [hv] at hg
        have e : b' = g := by simpa [blkOf] using hg
        rw [← e]
        exact lt_of_cells hC' hne'
    have hM := HB00.out.size
    have hM1 := HB1.out.size
    have hM2 := HB2.out.size
    refine ⟨p, rfl, ⟨_, _, _, rv, gvs, vs, gs, HP6.out, hp, ⟨_, _, _, rfl⟩, Grd.ownsRow_mono HT6.out hM1, GoneV.of (Grd.ownsRow_mono HG6.out hM2), ?_, fun i hi hne' g hg hm => ?_, ?_, HRA6.out, HTW.out⟩, HB6.out⟩
    · have h1 := (RowsIn.of HR6.out rfl).keep (Kept.of_below (HLOW.out HB6.out))
      refine ⟨h1.1, fun i hi => ?_⟩
      rcases h1.2 i hi with h | ⟨h2, b', o', c', h3, h4, h5, h6, h7⟩
      · exact .inl h
      · exact .inr ⟨h2, b', o', c', h3, h4, h5, h6, h7.imp (fun h => by omega) id⟩
    · have h1 := hg0 i hi hne' g hg
      have h2 := (rowsAt_ne HRA6.out g hm).1
      omega
    · rw [Grd.rowsL_len]
      exact HO6.out
end
end Put
end Go.Proofs.YtmhmmpicedlcpaaGreatDoor

/- (*sheet.Sheet).alter: a row is made anew. -/
namespace Go.Proofs.YtmhmmpicedlcpaaGreatDoor
open Go.ChangeShapes Go.WideShapes Go.ChangeAt Go.RowKit
namespace Put
open Grd (C SliceAt CellsAt gridErr z0 nilV flat rowsL OwnG RowB)
/-- Blocks of other types than those that a sheet writes to are kept. -/
def Other (t : TypeId) : Prop := t ≠ 46 ∧ t ≠ 4 ∧ t ≠ 22
def OtherO (o : Obj) : Prop := ∀ (A : Array Value) (t : TypeId) (f : Nat × Nat), o = .cells A t f → Other t
def Framed (W W' : World) : Prop := ∀ (k : Nat) (o : Obj), W.heap[k]? = some o → OtherO o → W'.heap[k]? = some o
theorem Framed.refl (W : World) : Framed W W := fun _ _ h _ => h
theorem Framed.trans {a b c : World} (h : Framed a b) (k : Framed b c) : Framed a c := fun i o hi ho => k i o (h i o hi ho) ho
theorem Framed.of_below {W W' : World} (h : Below W.heap.size W W') : Framed W W' := fun k _ hk _ => (h.block k (heap_lt hk)).trans hk
theorem Framed.store {W : World} {p i : Nat} {v : Value} {A : Array Value} {t : TypeId} (hp : W.heap[p]? = some (.cells A t (0, 0))) (ht : ¬ Other t) : Framed W (W.setCell ⟨p, i, none⟩ v) := fun k o hk ho => by
  have hne : k ≠ p := by
    intro e
    rw [e, hp] at hk
    injection hk with hk
    exact ht (ho A t (0, 0) hk.symm)
  exact (store_off hne).trans hk
theorem other_cells {A : Array Value} {t : TypeId} {f : Nat × Nat} (h : Other t) : OtherO (.cells A t f) := fun B u g e => by
  injection e with _ e _
  rw [← e]
  exact h
theorem not_other_sheet : ¬ Other 46 := fun h => h.1 rfl
theorem not_other_rows : ¬ Other 22 := fun h => h.2.2 rfl
theorem not_other_bool : ¬ Other 4 := fun h => h.2.1 rfl
theorem Framed.cell {W W' : World} (h : Framed W W') {k i : Nat} {A : Array Value} {t : TypeId} (hk : W.heap[k]? = some (.cells A t (0, 0))) (ho : Other t) : W'.cell? ⟨k, i, none⟩ = W.cell? ⟨k, i, none⟩ := by
  have h1 := h k _ hk (other_cells ho)
  simp only [World.cell?, h1, hk]
/-- What a sheet is behind a call that changes it. -/
def Ran (W : World) (M N p : Nat) (s' : Scr) (rows' : List (List C)) (e : Ending) (W' : World) : Prop := e = .returned (.tuple #[]) ∧ ShAt 46 W' M N p s' rows' ∧ Below N W W' ∧ Framed W W'
theorem own_rowB {W : World} {base : Nat} {v : Value} {row : List C} (h : OwnG W base v row) : ∃ g, base ≤ g ∧ RowB W g v row := by
  obtain ⟨g, cap, rest, ⟨t, rfl⟩, hv, hg, h1, h2, h3⟩ := h
  exact ⟨g, hg, cap, rest, hv, h1, h2, h3⟩
theorem ShA.storeRow {V : World} {M N p : Nat} {s : Scr} {rows : List (List C)} {cv tv gv rv : Value} {gvs vs : List Value} (h : ShA 46 V M N p s rows cv tv gv rv gvs vs) {rb rc y : Nat} (hrv : rv = .slice (some ⟨rb, 0, none⟩) rows.length rc) {v : Value} {row' : List C} (hr : RowIn V M v row') : ShA 46 (V.setCell ⟨rb, y, none⟩ v) M N p s (rows.set y row') cv tv gv rv gvs (vs.set y v) := by
  obtain ⟨hlo, A, f, hA⟩ := owns_block h.rws rb (by rw [hrv]; rfl)
  have hA0 : ∃ A, V.heap[rb]? = some (.cells A 22 (0, 0)) := by
    have h1 := h.rws
    rw [hrv] at h1
    obtain ⟨-, ⟨h1, -⟩ | ⟨g', cap, cur, hv, -, hh, -⟩⟩ := h1
    · injection h1 with h1
      cases h1
    · injection hv with hv1 _ _
      injection hv1 with hv1
      injection hv1 with hv1
      subst hv1
      exact ⟨cur, hh⟩
  obtain ⟨B, hB⟩ := hA0
  have hne : p ≠ rb := by
    intro e
    rw [← e, h.blk] at hB
    injection hB with hB
    injection hB with _ hB _
    exact absurd hB (by decide)
  have hK : Kept M V (V.setCell ⟨rb, y, none⟩ v) := Kept.store hB (by decide) (Nat.le_trans h.ml hlo)
  refine ⟨(store_off hne).trans h.blk, h.lo, h.ml, h.cvs, own_off h.tabs hB (by decide), owns_kept h.gone fun g hg => store_off fun e => h.two rb (by rw [hrv]; rfl) (by rw [hg, e]), h.gin.keep hK, ?_, (h.rin.set y v row' hr).keep hK, h.two⟩
  have h1 := h.rws
  rw [hrv] at h1 ⊢
  rw [List.length_set]
  exact own_set h1
end Put
end Go.Proofs.YtmhmmpicedlcpaaGreatDoor

/- The desk's Give and Go; noScreen. -/
namespace Go.Proofs.YtmhmmpicedlcpaaGreatDoor
open Go.ChangeShapes Go.WideShapes Go.ChangeAt Go.RowKit
namespace Put
open Grd (C SliceAt CellsAt gridErr z0 nilV rowsL RowsAt RowB flat)
theorem zScr_v (W : World) : ScrV W zScr (.slice none 0 0) (.slice none 0 0) (.slice none 0 0) := ⟨.inl ⟨rfl, none, 0, rfl⟩, .inl ⟨rfl, none, 0, rfl⟩, .inl ⟨rfl, none, 0, rfl⟩⟩
theorem zScr_small : Small zScr := ⟨by simp [zScr], by simp [zScr], by simp [zScr], by simp [zScr]⟩
set_option maxHeartbeats 2000000 in
set_option maxRecDepth 100000 in
theorem noScreen_any (cv tv gv : Value) (w : World) (hV : ScrV w zScr cv tv gv) : Calls Tryz.prog 72 #[.agg (scrA zScr cv tv gv)] w fun e w' => e = .returned (.bool true) ∧ Below w.heap.size w w' := by
  have x0 := heap_alloc_new w (.cells (scrA zScr cv tv gv) 32)
  have kb : Below w.heap.size w (w.alloc (.cells (scrA zScr cv tv gv) 32)) := (Below.refl _ _).alloc (Nat.le_refl _) _
  have HX0 : Hid _ := x0
  have HKB : Hid _ := kb
  have HS := sameScreen_any zScr cv tv gv (.slice none 0 0) (.slice none 0 0) (.slice none 0 0) _ (hV.next kb) (zScr_v _) zScr_small
  clear x0 kb hV
  go_enter Tryz.func72, Tryz.ntmps72
  go_wp2_with (refine wpList_load_row rfl 32 (.tmp 1) rfl w.heap.size rfl _ _ _ _ HX0.out Tryz.underlying32 rfl (by kernel_rfl) ?_)
  refine HS.mono ?_
  rintro e W1 ⟨rfl, b1⟩
  have HB1 : Hid (Below w.heap.size w W1) := HKB.out.trans (b1.mono HKB.out.size)
  clear b1 HS
  go_wp2_with fail
  go_ret
  exact ⟨rfl, HB1.out⟩
theorem one3v (a b : Int) (q : Option Addr) (n c : Nat) : (#[.int .i64 a, .int .i64 b, .slice q n c] : Array Value).all (·.oneCell') = true := by simp [Value.oneCell']
set_option maxHeartbeats 4000000 in
set_option maxRecDepth 100000 in
theorem give_any (W : World) (N p : Nat) (s : Scr) (rows : List (List C)) (h : DkAt W N p s rows) (n hh : Nat) (hn : 1 ≤ n) (hn' : n ≤ 120) (hh1 : 1 ≤ hh) (hh' : hh ≤ 60) (hrl : rows.length = hh) (hrn : ∀ i, i < rows.length → (rows.getD i []).length = n) (cs : List C) (hcs : rows.flatten = cs) :
    Calls Tryz.prog 74 #[.pointer (some ⟨p, 0, none⟩)] W fun e W' => ∃ cv' tv' gv', e = .returned (.agg (scrA { s with w := (n : Int), h := (hh : Int), cs := cs } cv' tv' gv')) ∧ ScrV W' { s with w := (n : Int), h := (hh : Int), cs := cs } cv' tv' gv' ∧ Below W.heap.size W W' := by
  obtain ⟨cv, tv, gv, rv, gvs, vs, gs, hS⟩ := h
  obtain ⟨ca, cn, cc, rfl⟩ := hS.cvs
  obtain ⟨ta, tc, rfl⟩ := own_slice hS.tabs
  obtain ⟨ga, gc, rfl⟩ := hS.gone.slice
  have hvl : vs.length = rows.length := hS.rin.1
  obtain ⟨G, rc, rest, rfl, hGN, hrc1, hrc2, hG⟩ := Grd.out_of_own (show W.ownsRow N 22 1 rv vs.length vs by rw [hvl]; exact hS.rws) (by omega)
  have kb : Below W.heap.size W ((W.alloc (.cells #[.int .i64 0, .int .i64 0, .slice none 0 0, .int .i64 0, .int .i64 0, .bool false, .int .i64 0, .int .i64 0, .int .i64 0, .int .i64 0, .int .i64 0, .int .i64 0, .slice none 0 0, .int .i64 0, .int .i64 0, .int .i64 0, .int .i64 0, .int .i64 0, .int .i64 0, .int .i32 0, .string ⟨#[]⟩, .slice none 0 0] 32)).alloc (.cells #[.int .i64 0, .int .i64 0, .slice none 0 0, .int .i64 0, .int .i64 0, .bool false, .int .i64 0, .int .i64 0, .int .i64 0, .int .i64 0, .int .i64 0, .int .i64 0, .slice none 0 0, .int .i64 0, .int .i64 0, .int .i64 0, .int .i64 0, .int .i64 0, .int .i64 0, .int .i32 0, .string ⟨#[]⟩, .slice none 0 0] 32)) := ((Below.refl _ _).alloc (Nat.le_refl _) _).alloc (by simp) _
  have x3 : ((W.alloc (.cells #[.int .i64 0, .int .i64 0, .slice none 0 0, .int .i64 0, .int .i64 0, .bool false, .int .i64 0, .int .i64 0, .int .i64 0, .int .i64 0, .int .i64 0, .int .i64 0, .slice none 0 0, .int .i64 0, .int .i64 0, .int .i64 0, .int .i64 0, .int .i64 0, .int .i64 0, .int .i32 0, .string ⟨#[]⟩, .slice none 0 0] 32)).alloc (.cells #[.int .i64 0, .int .i64 0, .slice none 0 0, .int .i64 0, .int .i64 0, .bool false, .int .i64 0, .int .i64 0, .int .i64 0, .int .i64 0, .int .i64 0, .int .i64 0, .slice none 0 0, .int .i64 0, .int .i64 0, .int .i64 0, .int .i64 0, .int .i64 0, .int .i64 0, .int .i32 0, .string ⟨#[]⟩, .slice none 0 0] 32)).heap[W.heap.size + 1]? = some (.cells #[.int .i64 0, .int .i64 0, .slice none 0 0, .int .i64 0, .int .i64 0, .bool false, .int .i64 0, .int .i64 0, .int .i64 0, .int .i64 0, .int .i64 0, .int .i64 0, .slice none 0 0, .int .i64 0, .int .i64 0, .int .i64 0, .int .i64 0, .int .i64 0, .int .i64 0, .int .i32 0, .string ⟨#[]⟩, .slice none 0 0] 32 (0, 0)) := heap_alloc2_new W _ _
  have HX1 : Hid ((((W.alloc (.cells #[.int .i64 0, .int .i64 0, .slice none 0 0, .int .i64 0, .int .i64 0, .bool false, .int .i64 0, .int .i64 0, .int .i64 0, .int .i64 0, .int .i64 0, .int .i64 0, .slice none 0 0, .int .i64 0, .int .i64 0, .int .i64 0, .int .i64 0, .int .i64 0, .int .i64 0, .int .i32 0, .string ⟨#[]⟩, .slice none 0 0] 32)).alloc (.cells #[.int .i64 0, .int .i64 0, .slice none 0 0, .int .i64 0, .int .i64 0, .bool false, .int .i64 0, .int .i64 0, .int .i64 0, .int .i64 0, .int .i64 0, .int .i64 0, .slice none 0 0, .int .i64 0, .int .i64 0, .int .i64 0, .int .i64 0, .int .i64 0, .int .i64 0, .int .i32 0, .string ⟨#[]⟩, .slice none 0 0] 32)).setRow (W.heap.size + 1) (scrA s (.slice ca cn cc) (.slice ta s.tabs.length tc) (.slice ga s.gone.length gc))).heap[W.heap.size + 1]? = some (.cells (scrA s (.slice ca cn cc) (.slice ta s.tabs.length tc) (.slice ga s.gone.length gc)) 32 (0, 0))) := setRow_heap _ _ _ _ _ _ x3
  have HX0 : Hid ((((W.alloc (.cells #[.int .i64 0, .int .i64 0, .slice none 0 0, .int .i64 0, .int .i64 0, .bool false, .int .i64 0, .int .i64 0, .int .i64 0, .int .i64 0, .int .i64 0, .int .i64 0, .slice none 0 0, .int .i64 0, .int .i64 0, .int .i64 0, .int .i64 0, .int .i64 0, .int .i64 0, .int .i32 0, .string ⟨#[]⟩, .slice none 0 0] 32)).alloc (.cells #[.int .i64 0, .int .i64 0, .slice none 0 0, .int .i64 0, .int .i64 0, .bool false, .int .i64 0, .int .i64 0, .int .i64 0, .int .i64 0, .int .i64 0, .int .i64 0, .slice none 0 0, .int .i64 0, .int .i64 0, .int .i64 0, .int .i64 0, .int .i64 0, .int .i64 0, .int .i32 0, .string ⟨#[]⟩, .slice none 0 0] 32)).setRow (W.heap.size + 1) (scrA s (.slice ca cn cc) (.slice ta s.tabs.length tc) (.slice ga s.gone.length gc))).heap[W.heap.size]? = some (.cells (scrA zScr (.slice none 0 0) (.slice none 0 0) (.slice none 0 0)) 32 (0, 0))) := by
    unfold Hid
    rw [setRow_other _ _ _ _ (by omega), Below.heap_alloc _ _ _ (by simp), heap_alloc_new]
    rfl
  have HB0 : Hid (Below W.heap.size W (((W.alloc (.cells #[.int .i64 0, .int .i64 0, .slice none 0 0, .int .i64 0, .int .i64 0, .bool false, .int .i64 0, .int .i64 0, .int .i64 0, .int .i64 0, .int .i64 0, .int .i64 0, .slice none 0 0, .int .i64 0, .int .i64 0, .int .i64 0, .int .i64 0, .int .i64 0, .int .i64 0, .int .i32 0, .string ⟨#[]⟩, .slice none 0 0] 32)).alloc (.cells #[.int .i64 0, .int .i64 0, .slice none 0 0, .int .i64 0, .int .i64 0, .bool false, .int .i64 0, .int .i64 0, .int .i64 0, .int .i64 0, .int .i64 0, .int .i64 0, .slice none 0 0, .int .i64 0, .int .i64 0, .int .i64 0, .int .i64 0, .int .i64 0, .int .i64 0, .int .i32 0, .string ⟨#[]⟩, .slice none 0 0] 32)).setRow (W.heap.size + 1) (scrA s (.slice ca cn cc) (.slice ta s.tabs.length tc) (.slice ga s.gone.length gc)))) := below_setRow kb (by omega) _
  have HX3 : Hid _ := x3
  have HRG : Hid _ := sh_range hS.blk
  have HS : Hid (DkA W N p s rows _ _ _ _ gvs vs gs) := hS
  have HG : Hid (W.heap[G]? = _) := hG
  clear x3 kb hS hG
  go_enter Tryz.func74, Tryz.ntmps74
  go_upto_region 2 with (first
    | (refine wpList_load_mid rfl 32 (.tmp 6) rfl p 0 rfl (scrA s (.slice ca cn cc) (.slice ta s.tabs.length tc) (.slice ga s.gone.length gc)).toList _ (fun j v hj => cell_stay ((Below.refl _ _).alloc (Nat.le_refl _) _) (HRG.out j v hj)) Tryz.underlying32 rfl (by kernel_rfl) ?_)
    | (refine wpList_store_row rfl 32 (.tmp 3) _ rfl (W.heap.size + 1) (scrA s (.slice ca cn cc) (.slice ta s.tabs.length tc) (.slice ga s.gone.length gc)) rfl rfl _ _ HX3.out (by kernel_rfl) rfl (scr_one _ _ _ _ _ _ _ _ _ _) ?_))
  clear HX3 HRG
  generalize (((W.alloc (.cells #[.int .i64 0, .int .i64 0, .slice none 0 0, .int .i64 0, .int .i64 0, .bool false, .int .i64 0, .int .i64 0, .int .i64 0, .int .i64 0, .int .i64 0, .int .i64 0, .slice none 0 0, .int .i64 0, .int .i64 0, .int .i64 0, .int .i64 0, .int .i64 0, .int .i64 0, .int .i32 0, .string ⟨#[]⟩, .slice none 0 0] 32)).alloc (.cells #[.int .i64 0, .int .i64 0, .slice none 0 0, .int .i64 0, .int .i64 0, .bool false, .int .i64 0, .int .i64 0, .int .i64 0, .int .i64 0, .int .i64 0, .int .i64 0, .slice none 0 0, .int .i64 0, .int .i64 0, .int .i64 0, .int .i64 0, .int .i64 0, .int .i64 0, .int .i32 0, .string ⟨#[]⟩, .slice none 0 0] 32)).setRow (W.heap.size + 1) (scrA s (.slice ca cn cc) (.slice ta s.tabs.length tc) (.slice ga s.gone.length gc))) = X at *
  have hgl1 : W.heap.size + 1 < X.heap.size := heap_lt HX1.out
  have c22 := (sh_cells (Grd.carry HS.out.blk HB0.out)).2.1.2.2.2.2.2.2.2.2.2.2.2
  have HGO := Grd.gridOf_any n hh G rc N vs rest gs rows X hn hn' hh1 hh' (Grd.carry HG.out HB0.out) (HS.out.rin.below HB0.out) hrl hrn
  rw [hcs] at HGO
  have hvh : vs.length = hh := by omega
  rw [hvh] at c22
  clear hvl hvh hrl hrn hcs
  go_wp2_with (first | (go_at_call 113; refine HGO.mono ?_; rintro e V ⟨v, rfl, hv, b1⟩; refine Hid.out ?_))
  unfold Hid
  obtain ⟨g, hg1, hR⟩ := own_rowB hv
  obtain ⟨cap, rst, rfl, hcap1, hcap2, hgh⟩ := hR
  have hA1 := Grd.carry HX1.out b1
  have hA0 := Grd.carry HX0.out b1
  have hgV : W.heap.size + 1 < V.heap.size := heap_lt hA1
  obtain ⟨⟨c0, c1, c2, -⟩, -, fr⟩ := scr_cells hA1
  have HTH : Hid (V.there (W.heap.size + 1) 0 3) := fun j hj => by
    match j, hj with
    | 0, _ => exact ⟨by rw [c0]; rfl, fr _⟩
    | 1, _ => exact ⟨by rw [c1]; rfl, fr _⟩
    | 2, _ => exact ⟨by rw [c2]; rfl, fr _⟩
  have HY1 : Hid ((V.setCells (W.heap.size + 1) 0 [.int .i64 (n : Int), .int .i64 (hh : Int), .slice (some ⟨g, 0, none⟩) cs.length cap]).heap[W.heap.size + 1]? = some (.cells (scrA { s with w := (n : Int), h := (hh : Int), cs := cs } (.slice (some ⟨g, 0, none⟩) cs.length cap) (.slice ta s.tabs.length tc) (.slice ga s.gone.length gc)) 32 (0, 0))) := store_at (store_at (store_at hA1 rfl) rfl) rfl
  have ho : ∀ k, k ≠ W.heap.size + 1 → (V.setCells (W.heap.size + 1) 0 [.int .i64 (n : Int), .int .i64 (hh : Int), .slice (some ⟨g, 0, none⟩) cs.length cap]).heap[k]? = V.heap[k]? := fun k hk => Grd.heap_setCells_ne _ k hk _ _ _
  have HY0 : Hid ((V.setCells (W.heap.size + 1) 0 [.int .i64 (n : Int), .int .i64 (hh : Int), .slice (some ⟨g, 0, none⟩) cs.length cap]).heap[W.heap.size]? = _) := (ho _ (by omega)).trans hA0
  have HYG : Hid ((V.setCells (W.heap.size + 1) 0 [.int .i64 (n : Int), .int .i64 (hh : Int), .slice (some ⟨g, 0, none⟩) cs.length cap]).heap[g]? = _) := (ho _ (by omega)).trans hgh
  have HB3 : Hid (Below W.heap.size W (V.setCells (W.heap.size + 1) 0 [.int .i64 (n : Int), .int .i64 (hh : Int), .slice (some ⟨g, 0, none⟩) cs.length cap])) := Grd.below_cells (by omega) _ _ _ (HB0.out.trans (b1.mono HB0.out.size))
  clear HGO hv b1 hA1 hA0 c0 c1 c2 fr ho hgh c22
  go_wp2_with (refine wpList_store_mid rfl 24 (.tmp 13) (.tmp 12) rfl (W.heap.size + 1) 0 #[.int .i64 (n : Int), .int .i64 (hh : Int), .slice (some ⟨g, 0, none⟩) cs.length cap] rfl rfl HTH.out (by kernel_rfl) (one3v _ _ _ _ _) ?_; refine Hid.out ?_)
  unfold Hid
  generalize (V.setCells (W.heap.size + 1) 0 [.int .i64 (n : Int), .int .i64 (hh : Int), .slice (some ⟨g, 0, none⟩) cs.length cap]) = Y at *
  go_wp2_with (first
    | (refine wpList_load_row rfl 32 (.tmp 3) rfl (W.heap.size + 1) rfl _ _ _ _ HY1.out Tryz.underlying32 rfl (by kernel_rfl) ?_)
    | (refine wpList_store_row rfl 32 (.tmp 2) _ rfl W.heap.size (scrA { s with w := (n : Int), h := (hh : Int), cs := cs } (.slice (some ⟨g, 0, none⟩) cs.length cap) (.slice ta s.tabs.length tc) (.slice ga s.gone.length gc)) rfl rfl _ _ HY0.out (by kernel_rfl) rfl (scr_one _ _ _ _ _ _ _ _ _ _) ?_))
  (try simp only [Exit.inBlock, Exit.then])
  have hbF := below_setRow HB3.out (Nat.le_refl W.heap.size) (scrA { s with w := (n : Int), h := (hh : Int), cs := cs } (.slice (some ⟨g, 0, none⟩) cs.length cap) (.slice ta s.tabs.length tc) (.slice ga s.gone.length gc))
  have hD := HS.out.next hbF
  refine bodyPost_ret (v := .agg (scrA { s with w := (n : Int), h := (hh : Int), cs := cs } (.slice (some ⟨g, 0, none⟩) cs.length cap) (.slice ta s.tabs.length tc) (.slice ga s.gone.length gc))) ?_ rfl ⟨_, _, _, rfl, ⟨?_, own_boolsV hD.tabs, hD.gone.rowsV hD.gin.list⟩, hbF⟩
  · exact results_cell_row rfl _ _ W.heap.size _ _ _ _ rfl (setRow_heap _ _ _ _ _ _ HY0.out) Tryz.underlying32 rfl (by kernel_rfl)
  · refine (rowIn_rowB (N := 0) (g := g) ⟨cap, rst, rfl, hcap1, hcap2, ?_⟩).cells
    rw [setRow_other _ _ _ _ (by omega)]
    exact HYG.out
end Put
end Go.Proofs.YtmhmmpicedlcpaaGreatDoor
