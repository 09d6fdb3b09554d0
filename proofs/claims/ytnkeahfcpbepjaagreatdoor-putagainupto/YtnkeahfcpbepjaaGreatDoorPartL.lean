/- SameScreen of two screens that read alike. -/
import Derived.Test.YtnkeahfcpbepjaaGreatDoorPartG
import Derived.Test.YtnkeahfcpbepjaaGreatDoorPartH
import Derived.Test.YtnkeahfcpbepjaaGreatDoorPartI
import Derived.Test.YtnkeahfcpbepjaaGreatDoorPartK
import Derived.BigRegion
import Derived.Test.YtnkeahfcpbepjaaGreatDoorPartE
namespace Go.Proofs.YtnkeahfcpbepjaaGreatDoor
open Go.ChangeShapes Go.WideShapes Go.ChangeAt Go.RowKit
namespace Put
open Grd (C SliceAt CellsAt gridErr z0)
set_option maxHeartbeats 1000000 in
theorem equalB_empty (a1 a2 : Option Addr) (c1 c2 : Nat) (w : World) :
    Calls Tryz.prog 119 #[.slice a1 0 c1, .slice a2 0 c2] w fun e w' => e = .returned (.bool true) ∧ Below w.heap.size w w' := by
  go_enter Tryz.func119, Tryz.ntmps119
  go_wp2_with fail
  go_loopg [13] 0 (fun g i wr => i = .int .i64 0 ∧ Below w.heap.size w wr)
  case atStart => exact ⟨rfl, Below.refl _ _⟩
  case round =>
    obtain ⟨rfl, hb⟩ := hrel
    go_wp2_with fail
    go_ret
    exact ⟨rfl, hb⟩
set_option maxHeartbeats 1000000 in
theorem equalB_cells (b1 o1 c1 b2 o2 c2 : Nat) (l : List Bool) (w : World) (h1 : ∀ j, j < l.length → w.cell? ⟨b1, o1 + j, none⟩ = some (.bool (l.getD j false))) (h2 : ∀ j, j < l.length → w.cell? ⟨b2, o2 + j, none⟩ = some (.bool (l.getD j false))) (hn : l.length ≤ 4398046511104) :
    Calls Tryz.prog 119 #[.slice (some ⟨b1, o1, none⟩) l.length c1, .slice (some ⟨b2, o2, none⟩) l.length c2] w fun e w' => e = .returned (.bool true) ∧ Below w.heap.size w w' := by
  have H1 : Hid (∀ j, j < l.length → w.cell? ⟨b1, o1 + j, none⟩ = some (.bool (l.getD j false))) := h1
  have H2 : Hid (∀ j, j < l.length → w.cell? ⟨b2, o2 + j, none⟩ = some (.bool (l.getD j false))) := h2
  clear h1 h2
  generalize hl : l.length = L at *
  have HL : Hid (l.length = L) := hl
  clear hl
  have ne : ((L : Int) != (L : Int)) = false := by simp
  go_enter Tryz.func119, Tryz.ntmps119
  go_wp2_with fail
  go_loopg [13] L (fun g i wr => ∃ k : Nat, i = .int .i64 (k : Int) ∧ k ≤ L ∧ L - k ≤ g ∧ Below w.heap.size w wr)
  case atStart => exact ⟨0, rfl, by omega, by omega, Below.refl _ _⟩
  case round =>
    obtain ⟨k, rfl, hk, hg, hb⟩ := hrel
    by_cases hlt : k < L
    · have lt1 : ((k : Int) < (L : Int)) := by omega
      have p0 := Grd.cell_keep hb (H1.out k hlt)
      have q0 := Grd.cell_keep hb (H2.out k hlt)
      generalize l.getD k false = x at *
      have nq : (x != x) = false := by simp
      go_wp2_with fail
      go_region
      go_wp2_with fail
      go_roundg (L - (k + 1))
      case measure => omega
      case rel => exact ⟨k + 1, rfl, by omega, by omega, hb.drew⟩
    · have lt1 : ¬ ((k : Int) < (L : Int)) := by omega
      go_wp2_with fail
      go_ret
      exact ⟨rfl, hb⟩
theorem equalB_any (v1 v2 : Value) (l : List Bool) (w : World) (h1 : BoolsV w v1 l) (h2 : BoolsV w v2 l) (hn : l.length ≤ 4398046511104) :
    Calls Tryz.prog 119 #[v1, v2] w fun e w' => e = .returned (.bool true) ∧ Below w.heap.size w w' := by
  by_cases h0 : l = []
  · obtain ⟨a1, c1, rfl⟩ := h1.slice
    obtain ⟨a2, c2, rfl⟩ := h2.slice
    subst h0
    exact equalB_empty a1 a2 c1 c2 w
  · rcases h1 with ⟨h, -⟩ | ⟨b1, o1, c1, rfl, -, -, hc1⟩
    · exact absurd h h0
    · rcases h2 with ⟨h, -⟩ | ⟨b2, o2, c2, rfl, -, -, hc2⟩
      · exact absurd h h0
      · exact equalB_cells b1 o1 c1 b2 o2 c2 l w hc1 hc2 hn
set_option maxHeartbeats 1000000 in
theorem eqRows_empty (a1 a2 : Option Addr) (c1 c2 : Nat) (w : World) :
    Calls Tryz.prog 154 #[.slice a1 0 c1, .slice a2 0 c2, .func (.func 153) #[] #[]] w fun e w' => e = .returned (.bool true) ∧ Below w.heap.size w w' := by
  go_enter Tryz.func154, Tryz.ntmps154
  go_wp2_with fail
  go_loopg [17] 0 (fun g i wr => i = .int .i64 0 ∧ Below w.heap.size w wr)
  case atStart => exact ⟨rfl, Below.refl _ _⟩
  case round =>
    obtain ⟨rfl, hb⟩ := hrel
    go_wp2_with fail
    go_ret
    exact ⟨rfl, hb⟩
/-- The rows of two lists of rows that read alike. -/
def RowsA (w : World) (b o : Nat) (l : List (List C)) : Prop := ∀ j, j < l.length → ∃ rv, w.cell? ⟨b, o + j, none⟩ = some rv ∧ SliceAt w rv (l.getD j [])
set_option maxHeartbeats 2000000 in
theorem eqRows_cells (b1 o1 c1 b2 o2 c2 : Nat) (l : List (List C)) (w : World) (h1 : RowsA w b1 o1 l) (h2 : RowsA w b2 o2 l) (hn : l.length ≤ 4398046511104) (hr : ∀ row, row ∈ l → row.length ≤ 4398046511104) :
    Calls Tryz.prog 154 #[.slice (some ⟨b1, o1, none⟩) l.length c1, .slice (some ⟨b2, o2, none⟩) l.length c2, .func (.func 153) #[] #[]] w fun e w' => e = .returned (.bool true) ∧ Below w.heap.size w w' := by
  have H1 : Hid (RowsA w b1 o1 l) := h1
  have H2 : Hid (RowsA w b2 o2 l) := h2
  have HR : Hid (∀ k, k < l.length → (l.getD k []).length ≤ 4398046511104) := fun k hk => by
    rw [List.getD_eq_getElem?_getD, List.getElem?_eq_getElem hk]
    exact hr _ (List.getElem_mem hk)
  clear h1 h2 hr
  unfold RowsA at H1 H2
  generalize hl : l.length = L at *
  have HL : Hid (l.length = L) := hl
  clear hl
  have ne : ((L : Int) != (L : Int)) = false := by simp
  go_enter Tryz.func154, Tryz.ntmps154
  go_wp2_with fail
  go_loopg [17] L (fun g i wr => ∃ k : Nat, i = .int .i64 (k : Int) ∧ k ≤ L ∧ L - k ≤ g ∧ Below w.heap.size w wr)
  case atStart => exact ⟨0, rfl, by omega, by omega, Below.refl _ _⟩
  case round =>
    obtain ⟨k, rfl, hk, hg, hb⟩ := hrel
    by_cases hlt : k < L
    · have lt1 : ((k : Int) < (L : Int)) := by omega
      obtain ⟨r1, p0, s1⟩ := H1.out k hlt
      obtain ⟨r2, q0, s2⟩ := H2.out k hlt
      have p1 := Grd.cell_keep hb p0
      have q1 := Grd.cell_keep hb q0
      have HS1 : Hid (SliceAt wr r1 (l.getD k [])) := s1.below hb
      have HS2 : Hid (SliceAt wr r2 (l.getD k [])) := s2.below hb
      have HLN : Hid ((l.getD k []).length ≤ 4398046511104) := HR.out k hlt
      have HB : Hid (Below w.heap.size w wr) := hb
      obtain ⟨a1, d1, rfl⟩ := s1.shape
      obtain ⟨a2, d2, rfl⟩ := s2.shape
      clear p0 q0 s1 s2 hb
      generalize l.getD k [] = row at *
      go_wp2_with fail
      refine (Grd.equal_slices_big _ _ row _ HS1.out HS2.out HLN.out).mono ?_
      rintro e W1 ⟨rfl, b1⟩
      have HB1 : Hid (Below w.heap.size w W1) := HB.out.trans (b1.mono HB.out.size)
      clear b1 p1 q1
      go_wp2_with fail
      go_roundg (L - (k + 1))
      case measure => omega
      case rel => exact ⟨k + 1, rfl, by omega, by omega, HB1.out⟩
    · have lt1 : ¬ ((k : Int) < (L : Int)) := by omega
      go_wp2_with fail
      go_ret
      exact ⟨rfl, hb⟩
theorem eqRows_any (v1 v2 : Value) (l : List (List C)) (w : World) (h1 : RowsV w v1 l) (h2 : RowsV w v2 l) (hn : l.length ≤ 4398046511104) (hr : ∀ row, row ∈ l → row.length ≤ 4398046511104) :
    Calls Tryz.prog 154 #[v1, v2, .func (.func 153) #[] #[]] w fun e w' => e = .returned (.bool true) ∧ Below w.heap.size w w' := by
  by_cases h0 : l = []
  · obtain ⟨a1, c1, rfl⟩ := h1.slice
    obtain ⟨a2, c2, rfl⟩ := h2.slice
    subst h0
    exact eqRows_empty a1 a2 c1 c2 w
  · rcases h1 with ⟨h, -⟩ | ⟨b1, o1, c1, rfl, -, -, hc1⟩
    · exact absurd h h0
    · rcases h2 with ⟨h, -⟩ | ⟨b2, o2, c2, rfl, -, -, hc2⟩
      · exact absurd h h0
      · exact eqRows_cells b1 o1 c1 b2 o2 c2 l w hc1 hc2 hn hr
theorem sameRows_any (v1 v2 : Value) (l : List (List C)) (w : World) (h1 : RowsV w v1 l) (h2 : RowsV w v2 l) (hn : l.length ≤ 4398046511104) (hr : ∀ row, row ∈ l → row.length ≤ 4398046511104) :
    Calls Tryz.prog 120 #[v1, v2] w fun e w' => e = .returned (.bool true) ∧ Below w.heap.size w w' := by
  have HC := eqRows_any v1 v2 l w h1 h2 hn hr
  obtain ⟨a1, d1, rfl⟩ := h1.slice
  obtain ⟨a2, d2, rfl⟩ := h2.slice
  clear h1 h2
  go_enter Tryz.func120, Tryz.ntmps120
  go_wp2_with fail
  refine HC.mono ?_
  rintro e W1 ⟨rfl, b1⟩
  clear HC
  go_wp2_with fail
  go_ret
  exact ⟨rfl, b1⟩
theorem eql_style (f b x : Int) (w : World) : (binOp .eql 26 (.agg #[.int .i64 f, .int .i64 b, .int .i64 x]) (.agg #[.int .i64 f, .int .i64 b, .int .i64 x])).run Tryz.prog w = .ok (.bool true) w := by
  go_simp
theorem eql_kept (a b c d e f : Int) (w : World) : (binOp .eql 29 (.agg #[.int .i64 a, .int .i64 b, .int .i64 c, .int .i64 d, .int .i64 e, .int .i64 f]) (.agg #[.int .i64 a, .int .i64 b, .int .i64 c, .int .i64 d, .int .i64 e, .int .i64 f])).run Tryz.prog w = .ok (.bool true) w := by
  go_simp
/-- What SameScreen asks of the sizes. -/
structure Small (s : Scr) : Prop where
  c : s.cs.length ≤ 4398046511104
  t : s.tabs.length ≤ 4398046511104
  g : s.gone.length ≤ 4398046511104
  r : ∀ row, row ∈ s.gone → row.length ≤ 4398046511104
set_option maxHeartbeats 8000000 in
set_option maxRecDepth 100000 in
theorem sameScreen_any (s : Scr) (cv tv gv cv' tv' gv' : Value) (w : World) (h1 : ScrV w s cv tv gv) (h2 : ScrV w s cv' tv' gv') (hS : Small s) :
    Calls Tryz.prog 64 #[.agg (scrA s cv tv gv), .agg (scrA s cv' tv' gv')] w fun e w' => e = .returned (.bool true) ∧ Below w.heap.size w w' := by
  obtain ⟨ca, cc, rfl⟩ := h1.c.shape
  obtain ⟨ta, tc, rfl⟩ := h1.t.slice
  obtain ⟨ga, gc, rfl⟩ := h1.g.slice
  obtain ⟨ca', cc', rfl⟩ := h2.c.shape
  obtain ⟨ta', tc', rfl⟩ := h2.t.slice
  obtain ⟨ga', gc', rfl⟩ := h2.g.slice
  have x0 := heap_alloc_new w (.cells (scrA s (.slice ca s.cs.length cc) (.slice ta s.tabs.length tc) (.slice ga s.gone.length gc)) 32)
  have y0 := (Below.heap_alloc (w.alloc (.cells (scrA s (.slice ca s.cs.length cc) (.slice ta s.tabs.length tc) (.slice ga s.gone.length gc)) 32)) (.cells (scrA s (.slice ca' s.cs.length cc') (.slice ta' s.tabs.length tc') (.slice ga' s.gone.length gc')) 32) _ (heap_lt x0)).trans x0
  have y1 := heap_alloc_new (w.alloc (.cells (scrA s (.slice ca s.cs.length cc) (.slice ta s.tabs.length tc) (.slice ga s.gone.length gc)) 32)) (.cells (scrA s (.slice ca' s.cs.length cc') (.slice ta' s.tabs.length tc') (.slice ga' s.gone.length gc')) 32)
  have kb : Below w.heap.size w ((w.alloc (.cells (scrA s (.slice ca s.cs.length cc) (.slice ta s.tabs.length tc) (.slice ga s.gone.length gc)) 32)).alloc (.cells (scrA s (.slice ca' s.cs.length cc') (.slice ta' s.tabs.length tc') (.slice ga' s.gone.length gc')) 32)) := ((Below.refl _ _).alloc (Nat.le_refl _) _).alloc (by simp) _
  have es : (w.alloc (.cells (scrA s (.slice ca s.cs.length cc) (.slice ta s.tabs.length tc) (.slice ga s.gone.length gc)) 32)).heap.size = w.heap.size + 1 := by simp
  rw [es] at y1
  have HKB : Hid _ := kb
  have HV1 : Hid (ScrV w s _ _ _) := h1
  have HV2 : Hid (ScrV w s _ _ _) := h2
  have HS : Hid (Small s) := hS
  have HY0 : Hid _ := y0
  have HY1 : Hid _ := y1
  have aw : (s.w == s.w) = true := by simp
  obtain ⟨⟨c0, c1, c2, -⟩, -, -⟩ := scr_cells y0
  obtain ⟨⟨d0, d1, d2, -⟩, -, -⟩ := scr_cells y1
  have HG := Grd.same_any_big s.w s.h _ _ s.cs _ (h1.c.below kb) (h2.c.below kb) hS.c
  clear x0 y0 y1 kb h1 h2 hS es
  go_enter Tryz.func64, Tryz.ntmps64
  go_wp2_with fail
  refine HG.mono ?_
  rintro e W1 ⟨rfl, b1⟩
  clear HG c0 c1 c2 d0 d1 d2
  have HB1 : Hid (Below w.heap.size w W1) := HKB.out.trans (b1.mono HKB.out.size)
  have HZ0 : Hid (W1.heap[w.heap.size]? = _) := Grd.carry HY0.out b1
  have HZ1 : Hid (W1.heap[w.heap.size + 1]? = _) := Grd.carry HY1.out b1
  clear b1 HY0 HY1 HKB
  obtain ⟨⟨c0, c1, c2, c3, c4, c5, c6, c7, c8, c9, c10⟩, ⟨c11, c12, c13, c14, c15, c16, c17, c18, c19, c20, c21⟩, -⟩ := scr_cells HZ0.out
  obtain ⟨⟨d0, d1, d2, d3, d4, d5, d6, d7, d8, d9, d10⟩, ⟨d11, d12, d13, d14, d15, d16, d17, d18, d19, d20, d21⟩, -⟩ := scr_cells HZ1.out
  have HT := equalB_any _ _ s.tabs _ (HV1.out.t.next HB1.out) (HV2.out.t.next HB1.out) HS.out.t
  have q1 := eql_style s.sf s.sb s.sx
  have q2 := eql_kept s.kx s.ky s.kf s.kb s.kbits s.km
  go_wp2_with fail
  refine HT.mono ?_
  rintro e W2 ⟨rfl, b2⟩
  clear HT c0 c1 c2 c3 c4 c5 c6 c7 c8 c9 c10 c11 c12 c13 c14 c15 c16 c17 c18 c19 c20 c21 d0 d1 d2 d3 d4 d5 d6 d7 d8 d9 d10 d11 d12 d13 d14 d15 d16 d17 d18 d19 d20 d21
  have HB2 : Hid (Below w.heap.size w W2) := HB1.out.trans (b2.mono HB1.out.size)
  have HA0 : Hid (W2.heap[w.heap.size]? = _) := Grd.carry HZ0.out b2
  have HA1 : Hid (W2.heap[w.heap.size + 1]? = _) := Grd.carry HZ1.out b2
  clear b2 HZ0 HZ1 HB1
  obtain ⟨-, ⟨c11, c12, c13, c14, c15, c16, c17, c18, c19, c20, c21⟩, -⟩ := scr_cells HA0.out
  obtain ⟨-, ⟨d11, d12, d13, d14, d15, d16, d17, d18, d19, d20, d21⟩, -⟩ := scr_cells HA1.out
  have HR := sameRows_any _ _ s.gone _ (HV1.out.g.next HB2.out) (HV2.out.g.next HB2.out) HS.out.g HS.out.r
  go_wp2_with fail
  refine HR.mono ?_
  rintro e W3 ⟨rfl, b3⟩
  clear HR
  have HB3 : Hid (Below w.heap.size w W3) := HB2.out.trans (b3.mono HB2.out.size)
  clear b3 HA0 HA1 c11 c12 c13 c14 c15 c16 c17 c18 c19 c20 c21 d11 d12 d13 d14 d15 d16 d17 d18 d19 d20 d21
  go_wp2_with fail
  go_ret
  exact ⟨rfl, HB3.out⟩
end Put
end Go.Proofs.YtnkeahfcpbepjaaGreatDoor

/- Package move: within, counted, moved; what stays of a sheet whose words change. -/
namespace Go.Proofs.YtnkeahfcpbepjaaGreatDoor
open Go.ChangeShapes Go.WideShapes Go.ChangeAt Go.RowKit
namespace Put
open Grd (C SliceAt CellsAt gridErr z0 nilV flat rowsL)
def withinI (n a b : Int) : Int := min (max n a) b
def cnt (n : Int) : Int := withinI n 1 9999
theorem cnt_range (n : Int) : 1 ≤ cnt n ∧ cnt n ≤ 9999 := by unfold cnt withinI; omega
theorem within_calls (n a b : Int) (w : World) : Calls Tryz.prog 141 #[.int .i64 n, .int .i64 a, .int .i64 b] w fun e w' => e = .returned (.int .i64 (withinI n a b)) ∧ w = w' := by
  have h1 := Grd.max2 n a
  have h2 := Grd.min2 (max n a) b
  go_enter Tryz.func141, Tryz.ntmps141
  go_wp2_with fail
  go_ret
  exact ⟨rfl, rfl⟩
theorem counted_any (n : Int) (w : World) : Calls Tryz.prog 89 #[.int .i64 n] w fun e w' => e = .returned (.int .i64 (cnt n)) ∧ w = w' := by
  have h := within_calls n 1 9999 w
  go_enter Tryz.func89, Tryz.ntmps89
  go_wp2_with fail
  refine h.mono ?_
  rintro e W1 ⟨rfl, hw⟩
  subst hw
  go_wp2_with fail
  go_ret
  exact ⟨rfl, rfl⟩
end Put
end Go.Proofs.YtnkeahfcpbepjaaGreatDoor

/- A right screen, and what stays small of it. -/
namespace Go.Proofs.YtnkeahfcpbepjaaGreatDoor
open Go.ChangeShapes Go.WideShapes Go.ChangeAt Go.RowKit
namespace Put
open Grd (C SliceAt CellsAt gridErr z0 nilV flat rowsL RightRow)
theorem rightErr {s : Scr} {n hh : Nat} (h : RightS s n hh) : scrErr s = 0 := by
  have hz := h.gz
  rw [← h.w, ← h.h] at hz
  have hp : placeOk s = true := by
    have := h.w
    have := h.h
    have := h.x0
    have := h.x1
    have := h.y0
    have := h.y1
    have := h.kx0
    have := h.kx1
    have := h.ky0
    have := h.ky1
    have := h.t0
    have := h.t1
    have := h.t2
    have := h.t3
    simp only [placeOk, hasC, regionOk, Bool.and_eq_true, Bool.or_eq_true, decide_eq_true_eq]
    omega
  have hr : restOk s = true := by
    simp only [restOk, Bool.and_eq_true, Bool.or_eq_true, Bool.not_eq_true', decide_eq_true_eq, decide_eq_false_iff_not]
    exact ⟨by rw [h.w, h.tl], h.la, h.ti⟩
  have hg : goneErr s.gone = 0 := by
    unfold goneErr
    rw [if_neg (by have := h.gl; omega)]
    have hb : goneBad s.gone = false := by
      unfold goneBad
      rw [List.any_eq_false]
      intro row hrow
      simp [h.gr row hrow]
    rw [hb]
    rfl
  unfold scrErr
  rw [if_neg (by rw [hz]; simp), if_neg (by rw [hp]; simp), if_neg (by rw [h.late]; simp), if_neg (by rw [h.looks]; simp), if_neg (by rw [hr]; simp), hg]
theorem smallOf {s : Scr} {n hh : Nat} (h : RightS s n hh) : Small s := by
  refine ⟨?_, ?_, ?_, ?_⟩
  · have h1 := h.cl
    have h2 := Nat.mul_le_mul h.n2 h.h2
    omega
  · have := h.tl
    have := h.n2
    omega
  · have := h.gl
    omega
  · intro row hrow
    have := (grid_size (h.gr row hrow)).2.1
    omega
theorem rowsL_row {s : Scr} {n hh : Nat} (h : RightS s n hh) (i : Nat) (hi : i < (rowsL n s.cs hh).length) : ((rowsL n s.cs hh).getD i []).length = n := by
  rw [Grd.rowsL_len] at hi
  have e2 : (rowsL n s.cs hh).getD i [] = Grd.rowAt n s.cs i := by simp [rowsL, List.getD, hi]
  rw [e2]
  exact Grd.row_len n hh s.cs i h.cl hi
/-- Rows of that many cells, in the place of a right screen's. -/
theorem rowsOk {s : Scr} {n hh : Nat} (hR : RightS s n hh) (s' : Scr) (rows' : List (List C)) (hl : rows'.length = hh) (hn : ∀ i, i < rows'.length → (rows'.getD i []).length = n) (hg : s'.gone.length ≤ 51) (hg2 : ∀ i, i < s'.gone.length → (s'.gone.getD i []).length ≤ 1048576) : RowsOk s' rows' := by
  have n1 := hR.n1
  have n2 := hR.n2
  have h1 := hR.h1
  have h2 := hR.h2
  have hlen := Grd.flatten_len n rows' hn hh (by omega)
  rw [← hl, List.take_length] at hlen
  refine ⟨by omega, by omega, fun i hi e => ?_, ?_, by omega, hg2⟩
  · have := hn i hi
    rw [e] at this
    simp at this
    omega
  · rw [hlen]
    have := Nat.mul_le_mul (show rows'.length ≤ 60 by omega) n2
    omega
theorem rowsOk_same {s : Scr} {n hh : Nat} (hR : RightS s n hh) (s' : Scr) (hg : s'.gone = s.gone) : RowsOk s' (rowsL n s.cs hh) :=
  rowsOk hR s' _ (Grd.rowsL_len _ _ _) (rowsL_row hR) (by rw [hg]; have := hR.gl; omega) (fun i hi => by rw [hg] at hi ⊢; have := hR.gone_le i hi; omega)
end Put
end Go.Proofs.YtnkeahfcpbepjaaGreatDoor

/- Package shift: a screen is changed, or its error told. -/
namespace Go.Proofs.YtnkeahfcpbepjaaGreatDoor
set_option linter.unusedVariables false
open Go.ChangeShapes Go.WideShapes Go.ChangeAt Go.RowKit
namespace Put
open Grd (C SliceAt CellsAt gridErr z0 nilV flat rowsL RightRow)
end Put
end Go.Proofs.YtnkeahfcpbepjaaGreatDoor

/- Rows that move, as values. -/
namespace Go.Proofs.YtnkeahfcpbepjaaGreatDoor
open Go.ChangeShapes Go.WideShapes Go.ChangeAt Go.RowKit
namespace Put
open Grd (C)
def iterN {α : Type} (f : α → α) : Nat → α → α
  | 0, x => x
  | k + 1, x => f (iterN f k x)
/-- Rows move up, once; what leaves at the top may be kept. -/
def rUp (n top bot : Nat) (keep : Bool) (x : Scr × List (List C)) : Scr × List (List C) := (if top = 0 ∧ keep = true then { x.1 with gone := keepG x.1.gone (x.2.getD 0 []) } else x.1, replR x.2 n x.1.sb top bot)
/-- Rows move down, once. -/
def rDn (n top bot : Nat) (x : Scr × List (List C)) : Scr × List (List C) := (x.1, replR x.2 n x.1.sb bot top)
/-- What stays while rows move. -/
structure Rolls (n bot hh : Nat) (bk : Int) (x : Scr × List (List C)) : Prop where
  w : x.1.w = n
  b : x.1.bot = bot
  k : x.1.sb = bk
  r : x.2.length = hh
  g : x.1.gone.length ≤ 50
theorem Rolls.up {n bot hh : Nat} {bk : Int} {x : Scr × List (List C)} (h : Rolls n bot hh bk x) (top : Nat) (keep : Bool) (ht : top < hh) (hb : bot < hh) : Rolls n bot hh bk (rUp n top bot keep x) := by
  have hr : (replR x.2 n x.1.sb top bot).length = hh := by rw [replR_len _ _ _ _ _ (by rw [h.r]; exact ht) (by rw [h.r]; exact hb), h.r]
  unfold rUp
  split
  · exact ⟨h.w, h.b, h.k, hr, keepG_len _ _ h.g⟩
  · exact ⟨h.w, h.b, h.k, hr, h.g⟩
theorem Rolls.dn {n bot hh : Nat} {bk : Int} {x : Scr × List (List C)} (h : Rolls n bot hh bk x) (top : Nat) (ht : top < hh) (hb : bot < hh) : Rolls n bot hh bk (rDn n top bot x) :=
  ⟨h.w, h.b, h.k, by show (replR x.2 n x.1.sb bot top).length = hh; rw [replR_len _ _ _ _ _ (by rw [h.r]; exact hb) (by rw [h.r]; exact ht), h.r], h.g⟩
end Put
end Go.Proofs.YtnkeahfcpbepjaaGreatDoor

/- (*sheet.Sheet).Feed at Bottom; shift's Back, moveRows. -/
namespace Go.Proofs.YtnkeahfcpbepjaaGreatDoor
open Go.ChangeShapes Go.WideShapes Go.ChangeAt Go.RowKit
namespace Put
open Grd (C SliceAt CellsAt gridErr z0 nilV flat rowsL)
set_option maxHeartbeats 2000000 in
set_option maxRecDepth 100000 in
theorem feed_roll (W : World) (M N p n : Nat) (s : Scr) (rows : List (List C)) (hS : ShAt 64 W M N p s rows) (top bot : Nat) (ht : s.top = top) (hb : s.bot = bot) (hy : s.y = s.bot) (hw : s.w = n) (hn1 : 1 ≤ n) (hn2 : n ≤ 120) (hg : top < rows.length) (hf : bot < rows.length) (hrl : rows.length ≤ 60) (hgl : s.gone.length ≤ 50) :
    Calls Tryz.prog 83 #[.pointer (some ⟨p, 0, none⟩)] W (Ran W M N p (upS { s with late := false } rows top) (replR rows n s.sb top bot)) := by
  obtain ⟨c0, c1, c3, c4, c5, c9, c10, c11, c19, f⟩ := hS.words
  have f5 := f 5
  obtain ⟨hS1, hB1, hF1⟩ := hS.put 5 (.bool false) (s' := { s with late := false }) (fun _ _ _ _ => rfl) rfl rfl
  have HS1 : Hid (ShAt 64 (W.setCell ⟨p, 5, none⟩ (.bool false)) M N p { s with late := false } rows) := hS1
  have HB1 : Hid (Below N W (W.setCell ⟨p, 5, none⟩ (.bool false))) := hB1
  have HF1 : Hid (Framed W (W.setCell ⟨p, 5, none⟩ (.bool false))) := hF1
  have HU : Hid (∀ V, ShAt 64 V M N p { s with late := false } rows → Calls Tryz.prog 137 #[.pointer (some ⟨p, 0, none⟩), .int .i64 (top : Int)] V (Ran V M N p (upS { s with late := false } rows top) (replR rows n s.sb top bot))) := fun V h => up_any' V M N p n _ rows h top bot hb hw hn1 hn2 hg hf hrl hgl
  have HT : Hid (s.top = top) := ht
  have hq : (s.y == s.bot) = true := by rw [beq_iff_eq]; exact hy
  clear hS1 hB1 hF1 hS hy hb ht c0 c1 c3 c4 c9 c10 c11 c19 f
  generalize upS { s with late := false } rows top = s' at *
  generalize replR rows n s.sb top bot = rows' at *
  go_enter Tryz.func83, Tryz.ntmps83
  go_upto_region 1 with fail
  obtain ⟨-, -, -, d4, -, d9, d10, -, -, df⟩ := HS1.out.words
  clear c5 f5 df
  generalize (W.setCell ⟨p, 5, none⟩ (.bool false)) = X at *
  go_region
  have HSd : Hid (ShAt 64 X.drew M N p { s with late := false } rows) := HS1.out.drew
  have HB2 : Hid (Below N W X.drew) := HB1.out.drew
  have HF2 : Hid (Framed W X.drew) := HF1.out.trans (Framed.of_below ((Below.refl _ _).drew))
  clear d4 d9 d10 HS1 HB1 HF1
  generalize X.drew = Y at *
  obtain ⟨-, -, -, -, -, d9, -, -, -, df⟩ := HSd.out.words
  replace d9 : Y.cell? ⟨p, 9, none⟩ = some (.int .i64 s.top) := d9
  rw [HT.out] at d9
  have HU2 := HU.out Y HSd.out
  clear df HU HSd
  go_wp2_with fail
  refine HU2.mono ?_
  rintro e V ⟨rfl, hS2, hB3, hF3⟩
  go_wp2_with fail
  go_end0
  exact ⟨rfl, hS2, HB2.out.trans hB3, HF2.out.trans hF3⟩
def dfeedR (s : Scr) (rows : List (List C)) (n top bot : Nat) : List (List C) := if s.y = s.bot then replR rows n s.sb top bot else rows
/-- To the row above. -/
def backS (s : Scr) : Scr := if s.y = s.top then { s with late := false } else if 0 < s.y then { s with late := false, y := s.y - 1 } else { s with late := false }
end Put
end Go.Proofs.YtnkeahfcpbepjaaGreatDoor

/- Plain mathematics of rows that move. -/
namespace Go.Proofs.YtnkeahfcpbepjaaGreatDoor
namespace Put
open Grd (C)
theorem replR_up (rows : List (List C)) (n : Nat) (bk : Int) (top bot : Nat) (htb : top ≤ bot) (hb : bot < rows.length) (y : Nat) :
    (replR rows n bk top bot).getD y [] = if y < top then rows.getD y [] else if y < bot then rows.getD (y + 1) [] else if y = bot then List.replicate n (32, 0, bk, 0) else rows.getD y [] := by
  have hl : (rows.eraseIdx top).length = rows.length - 1 := List.length_eraseIdx_of_lt (by omega)
  unfold replR
  rw [getD_insert _ _ _ _ _ (by omega)]
  by_cases h1 : y < top
  · rw [if_pos h1, if_pos (by omega), getD_erase, if_pos h1]
  · rw [if_neg h1]
    by_cases h2 : y < bot
    · rw [if_pos h2, if_pos h2, getD_erase, if_neg h1]
    · rw [if_neg h2, if_neg h2]
      by_cases h3 : y = bot
      · rw [if_pos h3, if_pos h3]
      · rw [if_neg h3, if_neg h3, getD_erase, if_neg (by omega), show y - 1 + 1 = y by omega]
theorem replR_down (rows : List (List C)) (n : Nat) (bk : Int) (top bot : Nat) (htb : top ≤ bot) (hb : bot < rows.length) (y : Nat) :
    (replR rows n bk bot top).getD y [] = if y < top then rows.getD y [] else if y = top then List.replicate n (32, 0, bk, 0) else if y ≤ bot then rows.getD (y - 1) [] else rows.getD y [] := by
  have hl : (rows.eraseIdx bot).length = rows.length - 1 := List.length_eraseIdx_of_lt (by omega)
  unfold replR
  rw [getD_insert _ _ _ _ _ (by omega)]
  by_cases h1 : y < top
  · rw [if_pos h1, if_pos h1, getD_erase, if_pos (by omega)]
  · rw [if_neg h1, if_neg h1]
    by_cases h2 : y = top
    · rw [if_pos h2, if_pos h2]
    · rw [if_neg h2, if_neg h2, getD_erase]
      by_cases h3 : y ≤ bot
      · rw [if_pos h3, if_pos (by omega)]
      · rw [if_neg h3, if_neg (by omega), show y - 1 + 1 = y by omega]
theorem rUp_rows (n top bot : Nat) (keep : Bool) (x : Scr × List (List C)) : (rUp n top bot keep x).2 = replR x.2 n x.1.sb top bot := rfl
theorem rDn_rows (n top bot : Nat) (x : Scr × List (List C)) : (rDn n top bot x).2 = replR x.2 n x.1.sb bot top := rfl
theorem iterUp_len (n top bot : Nat) (keep : Bool) (htb : top ≤ bot) (x : Scr × List (List C)) (hb : bot < x.2.length) : ∀ k, (iterN (rUp n top bot keep) k x).2.length = x.2.length
  | 0 => rfl
  | k + 1 => by
    have ih := iterUp_len n top bot keep htb x hb k
    show (rUp n top bot keep (iterN (rUp n top bot keep) k x)).2.length = _
    rw [rUp_rows, replR_len _ _ _ _ _ (by omega) (by omega), ih]
theorem iterDn_len (n top bot : Nat) (htb : top ≤ bot) (x : Scr × List (List C)) (hb : bot < x.2.length) : ∀ k, (iterN (rDn n top bot) k x).2.length = x.2.length
  | 0 => rfl
  | k + 1 => by
    have ih := iterDn_len n top bot htb x hb k
    show (rDn n top bot (iterN (rDn n top bot) k x)).2.length = _
    rw [rDn_rows, replR_len _ _ _ _ _ (by omega) (by omega), ih]
/-- Rows outside those that scroll stay. -/
theorem iterUp_out (n top bot : Nat) (keep : Bool) (htb : top ≤ bot) (x : Scr × List (List C)) (hb : bot < x.2.length) (y : Nat) (hy : y < top ∨ bot < y) : ∀ k, (iterN (rUp n top bot keep) k x).2.getD y [] = x.2.getD y []
  | 0 => rfl
  | k + 1 => by
    have ih := iterUp_out n top bot keep htb x hb y hy k
    have hl := iterUp_len n top bot keep htb x hb k
    show (rUp n top bot keep (iterN (rUp n top bot keep) k x)).2.getD y [] = _
    rw [rUp_rows, replR_up _ _ _ _ _ htb (by omega), ih]
    by_cases h1 : y < top
    · rw [if_pos h1]
    · rw [if_neg h1, if_neg (by omega), if_neg (by omega)]
theorem iterDn_out (n top bot : Nat) (htb : top ≤ bot) (x : Scr × List (List C)) (hb : bot < x.2.length) (y : Nat) (hy : y < top ∨ bot < y) : ∀ k, (iterN (rDn n top bot) k x).2.getD y [] = x.2.getD y []
  | 0 => rfl
  | k + 1 => by
    have ih := iterDn_out n top bot htb x hb y hy k
    have hl := iterDn_len n top bot htb x hb k
    show (rDn n top bot (iterN (rDn n top bot) k x)).2.getD y [] = _
    rw [rDn_rows, replR_down _ _ _ _ _ htb (by omega), ih]
    by_cases h1 : y < top
    · rw [if_pos h1]
    · rw [if_neg h1, if_neg (by omega), if_neg (by omega)]
/-- What moved up k times. -/
theorem iterUp_in (n top bot : Nat) (keep : Bool) (htb : top ≤ bot) (x : Scr × List (List C)) (hb : bot < x.2.length) : ∀ k y, top ≤ y → y + k ≤ bot → (iterN (rUp n top bot keep) k x).2.getD y [] = x.2.getD (y + k) []
  | 0, y, _, _ => rfl
  | k + 1, y, h1, h2 => by
    have ih := iterUp_in n top bot keep htb x hb k (y + 1) (by omega) (by omega)
    have hl := iterUp_len n top bot keep htb x hb k
    show (rUp n top bot keep (iterN (rUp n top bot keep) k x)).2.getD y [] = _
    rw [rUp_rows, replR_up _ _ _ _ _ htb (by omega), if_neg (by omega), if_pos (by omega), ih]
    congr 1
    omega
/-- What moved down k times. -/
theorem iterDn_in (n top bot : Nat) (htb : top ≤ bot) (x : Scr × List (List C)) (hb : bot < x.2.length) : ∀ k y, top + k ≤ y → y ≤ bot → (iterN (rDn n top bot) k x).2.getD y [] = x.2.getD (y - k) []
  | 0, y, _, _ => rfl
  | k + 1, y, h1, h2 => by
    have ih := iterDn_in n top bot htb x hb k (y - 1) (by omega) (by omega)
    have hl := iterDn_len n top bot htb x hb k
    show (rDn n top bot (iterN (rDn n top bot) k x)).2.getD y [] = _
    rw [rDn_rows, replR_down _ _ _ _ _ htb (by omega), if_neg (by omega), if_neg (by omega), if_pos (by omega), ih]
    congr 1
    omega
/-- The last fifty. -/
def last50 (l : List (List C)) : List (List C) := l.drop (l.length - 50)
theorem last50_len (l : List (List C)) : (last50 l).length ≤ 50 := by
  unfold last50
  rw [List.length_drop]
  omega
theorem last50_short (l : List (List C)) (h : l.length ≤ 50) : last50 l = l := by
  unfold last50
  rw [show l.length - 50 = 0 by omega]
  rfl
theorem keepG_last (g : List (List C)) (row : List C) (h : g.length ≤ 50) : keepG g row = last50 (g ++ [row]) := by
  unfold keepG
  by_cases hl : g.length < 50
  · rw [if_pos hl, last50_short _ (by simp; omega)]
  · rw [if_neg hl]
    unfold last50
    rw [List.length_append, List.length_singleton, show g.length + 1 - 50 = 1 by omega, List.eraseIdx_zero, List.drop_one]
theorem last50_push (l : List (List C)) (row : List C) : last50 (last50 l ++ [row]) = last50 (l ++ [row]) := by
  by_cases h : l.length ≤ 50
  · rw [last50_short l h]
  · have e : (last50 l).length = 50 := by unfold last50; rw [List.length_drop]; omega
    have e1 : last50 (last50 l ++ [row]) = (last50 l ++ [row]).drop 1 := by
      show (last50 l ++ [row]).drop ((last50 l ++ [row]).length - 50) = _
      rw [List.length_append, List.length_singleton, e]
    rw [e1]
    unfold last50
    rw [List.drop_append_of_le_length (by rw [List.length_drop]; omega), List.drop_drop, List.length_append, List.length_singleton, List.drop_append_of_le_length (by omega)]
    congr 2
    omega
/-- What is gone behind k rows that moved up from the first one on. -/
theorem iterUp_gone (n bot : Nat) (x : Scr × List (List C)) (hb : bot < x.2.length) (hg : x.1.gone.length ≤ 50) : ∀ k, k ≤ bot + 1 → (iterN (rUp n 0 bot true) k x).1.gone = last50 (x.1.gone ++ x.2.take k)
  | 0, _ => by
    show x.1.gone = _
    rw [List.take_zero, List.append_nil, last50_short _ hg]
  | k + 1, hk => by
    have ih := iterUp_gone n bot x hb hg k (by omega)
    have hl := iterUp_len n 0 bot true (by omega) x hb k
    have hr : (iterN (rUp n 0 bot true) k x).2.getD 0 [] = x.2.getD k [] := by
      have := iterUp_in n 0 bot true (by omega) x hb k 0 (Nat.le_refl _) (by omega)
      rwa [Nat.zero_add] at this
    show (rUp n 0 bot true (iterN (rUp n 0 bot true) k x)).1.gone = _
    have e : (rUp n 0 bot true (iterN (rUp n 0 bot true) k x)).1.gone = keepG (iterN (rUp n 0 bot true) k x).1.gone ((iterN (rUp n 0 bot true) k x).2.getD 0 []) := by
      unfold rUp
      rw [if_pos ⟨rfl, rfl⟩]
    have e2 : x.2.take (k + 1) = x.2.take k ++ [x.2.getD k []] := by
      have hk' : k < x.2.length := by omega
      rw [List.take_succ_eq_append_getElem hk']
      simp [List.getD, hk']
    rw [e, hr, keepG_last _ _ (by rw [ih]; exact last50_len _), ih, last50_push, e2, List.append_assoc]
end Put
end Go.Proofs.YtnkeahfcpbepjaaGreatDoor

/- What is kept of rows that went. -/
namespace Go.Proofs.YtnkeahfcpbepjaaGreatDoor
open Go.ChangeShapes Go.WideShapes Go.ChangeAt Go.RowKit
namespace Put
open Grd (C)
theorem keepG_mem {g : List (List C)} {row r : List C} (h : r ∈ keepG g row) : r ∈ g ∨ r = row := by
  unfold keepG at h
  split at h
  · simpa using h
  · simpa using List.mem_of_mem_eraseIdx h
theorem keepG_rows {s : Scr} {n hh : Nat} (hR : RightS s n hh) (row : List C) (hr : row.length = n) : ∀ r, r ∈ keepG s.gone row → r.length ≤ 120 := by
  intro r hm
  rcases keepG_mem hm with h | h
  · have := (grid_size (hR.gr r h)).2.1
    omega
  · have := hR.n2
    rw [h, hr]
    omega
theorem rows_le {l : List (List C)} (h : ∀ r, r ∈ l → r.length ≤ 120) (i : Nat) (hi : i < l.length) : (l.getD i []).length ≤ 1048576 := by
  have e : l.getD i [] = l[i] := by simp [List.getD, hi]
  rw [e]
  have := h _ (List.getElem_mem hi)
  omega
theorem gone_le120 {s : Scr} {n hh : Nat} (hR : RightS s n hh) : ∀ r, r ∈ s.gone → r.length ≤ 120 := fun r hr => by
  have := (grid_size (hR.gr r hr)).2.1
  omega
end Put
end Go.Proofs.YtnkeahfcpbepjaaGreatDoor

/- Rows that move leave a right screen right. -/
namespace Go.Proofs.YtnkeahfcpbepjaaGreatDoor
open Go.ChangeShapes Go.WideShapes Go.ChangeAt Go.RowKit
namespace Put
open Grd (C SliceAt CellsAt gridErr z0 nilV flat rowsL RightRow wd32)
open Sty (isSt)
/-- Rows that are right ones, so wide. -/
def RowsRt (n : Nat) (rows : List (List C)) : Prop := ∀ i, i < rows.length → (rows.getD i []).length = n ∧ RightRow (rows.getD i [])
theorem rowsRt_of {s : Scr} {n hh : Nat} (h : RightS s n hh) : RowsRt n (rowsL n s.cs hh) := fun i hi => by
  rw [Grd.rowsL_len] at hi
  have e2 : (rowsL n s.cs hh).getD i [] = Grd.rowAt n s.cs i := by simp [rowsL, List.getD, hi]
  rw [e2]
  exact ⟨Grd.row_len n hh s.cs i h.cl hi, ((Grd.gridErr_zero n hh s.cs).1 h.gz).2.2 i hi⟩
theorem roll_style {s : Scr} {n hh : Nat} (h : RightS s n hh) : isSt (0, s.sb, 0) = true := by
  have h1 := h.looks
  simp only [looksOk, Bool.and_eq_true] at h1
  have h2 := h1.1
  simp only [isSt, decide_eq_true_eq] at h2 ⊢
  omega
theorem roll_ext {a b : List (List C)} (hl : a.length = b.length) (h : ∀ i, i < a.length → a.getD i [] = b.getD i []) : a = b := by
  apply List.ext_getElem hl
  intro i h1 h2
  have := h i h1
  simpa [List.getD, h1, h2] using this
theorem roll_one (n : Nat) (row : List C) (hn1 : 1 ≤ n) (hn2 : n ≤ 120) (hl : row.length = n) (hr : RightRow row) : gridErr n 1 row = 0 := by
  refine (Grd.gridErr_zero n 1 row).2 ⟨?_, by omega, fun y hy => ?_⟩
  · simp [Grd.isSize]
    omega
  · have e : y = 0 := by omega
    subst e
    have e2 : Grd.rowAt n row 0 = row := by
      unfold Grd.rowAt
      rw [Nat.zero_mul, List.drop_zero, List.take_of_length_le (by omega)]
    rw [e2]
    exact hr
theorem roll_rowAt (n : Nat) (rows : List (List C)) (hr : ∀ i, i < rows.length → (rows.getD i []).length = n) (i : Nat) (hi : i < rows.length) : Grd.rowAt n rows.flatten i = rows.getD i [] := by
  have h1 := Grd.flatten_len n rows hr i (by omega)
  have h2 : rows.flatten = (rows.take i).flatten ++ (rows.drop i).flatten := by rw [← List.flatten_append, List.take_append_drop]
  have h3 : rows.getD i [] = rows[i] := by simp [List.getD, hi]
  have h4 := hr i hi
  rw [h3] at h4
  unfold Grd.rowAt
  rw [h2, List.drop_left' h1, List.drop_eq_getElem_cons hi, List.flatten_cons, List.take_left' h4, h3]
theorem roll_blank (n : Nat) (bk : Int) (hs : isSt (0, bk, 0) = true) : RightRow (List.replicate n ((32, 0, bk, 0) : C)) := by
  have hg : ∀ x, x < n → (List.replicate n ((32, 0, bk, 0) : C)).getD x z0 = (32, 0, bk, 0) := fun x hx => by simp [List.getD, hx]
  refine ⟨fun x hx => ?_, fun x hx => ?_⟩
  · rw [List.length_replicate] at hx
    rw [hg x hx]
    exact ⟨fun _ => by dsimp only; rw [wd32]; decide, hs, fun h => absurd h (by simp)⟩
  · rw [List.length_replicate] at hx
    unfold Grd.loose
    rw [hg x hx, if_neg (by simp)]
    dsimp only
    rw [wd32]
    rfl
theorem RowsRt.up {n : Nat} {rows : List (List C)} (h : RowsRt n rows) (bk : Int) (hs : isSt (0, bk, 0) = true) (top bot : Nat) (htb : top ≤ bot) (hb : bot < rows.length) : RowsRt n (replR rows n bk top bot) := fun i hi => by
  rw [replR_len _ _ _ _ _ (by omega) hb] at hi
  rw [replR_up _ _ _ _ _ htb hb]
  split
  · exact h i hi
  · split
    · exact h (i + 1) (by omega)
    · split
      · exact ⟨List.length_replicate, roll_blank n bk hs⟩
      · exact h i hi
theorem RowsRt.down {n : Nat} {rows : List (List C)} (h : RowsRt n rows) (bk : Int) (hs : isSt (0, bk, 0) = true) (top bot : Nat) (htb : top ≤ bot) (hb : bot < rows.length) : RowsRt n (replR rows n bk bot top) := fun i hi => by
  rw [replR_len _ _ _ _ _ hb (by omega)] at hi
  rw [replR_down _ _ _ _ _ htb hb]
  split
  · exact h i hi
  · split
    · exact ⟨List.length_replicate, roll_blank n bk hs⟩
    · split
      · exact h (i - 1) (by omega)
      · exact h i hi
/-- A screen of other rows, and of what else is gone. -/
theorem right_new {s : Scr} {n hh : Nat} (h : RightS s n hh) (g : List (List C)) (rows' : List (List C)) (hl : rows'.length = hh) (hRR : RowsRt n rows') (hg1 : g.length ≤ 50) (hg2 : ∀ row, row ∈ g → gridErr row.length 1 row = 0) : RightS { s with gone := g, cs := rows'.flatten } n hh ∧ rowsL n rows'.flatten hh = rows' := by
  have hlen := Grd.flatten_len n rows' (fun i hi => (hRR i hi).1) hh (by omega)
  rw [← hl, List.take_length, hl, Nat.mul_comm] at hlen
  have hgz : gridErr n hh rows'.flatten = 0 := (Grd.gridErr_zero n hh _).2 ⟨((Grd.gridErr_zero n hh _).1 h.gz).1, hlen, fun y hy => by
    rw [roll_rowAt n rows' (fun i hi => (hRR i hi).1) y (by omega)]
    exact (hRR y (by omega)).2⟩
  refine ⟨⟨h.w, h.h, h.n1, h.n2, h.h1, h.h2, hlen, hgz, h.x0, h.x1, h.y0, h.y1, h.kx0, h.kx1, h.ky0, h.ky1, h.t0, h.t1, h.t2, h.t3, h.late, h.looks, h.tl, h.la, h.ti, hg1, hg2⟩, ?_⟩
  refine roll_ext (by rw [Grd.rowsL_len, hl]) fun i hi => ?_
  rw [Grd.rowsL_len] at hi
  have e2 : (rowsL n rows'.flatten hh).getD i [] = Grd.rowAt n rows'.flatten i := by simp [rowsL, List.getD, hi]
  rw [e2, roll_rowAt n rows' (fun i hi => (hRR i hi).1) i (by omega)]
/-- What stays right while rows move. -/
structure RollsR (s : Scr) (n hh : Nat) (x : Scr × List (List C)) : Prop where
  e : x.1 = { s with gone := x.1.gone }
  l : x.2.length = hh
  r : RowsRt n x.2
  g1 : x.1.gone.length ≤ 50
  g2 : ∀ row, row ∈ x.1.gone → gridErr row.length 1 row = 0
theorem RollsR.start {s : Scr} {n hh : Nat} (h : RightS s n hh) : RollsR s n hh (s, rowsL n s.cs hh) := ⟨rfl, Grd.rowsL_len _ _ _, rowsRt_of h, h.gl, h.gr⟩
theorem RollsR.sb {s : Scr} {n hh : Nat} {x : Scr × List (List C)} (h : RollsR s n hh x) : x.1.sb = s.sb := by rw [h.e]
theorem RollsR.up {s : Scr} {n hh : Nat} {x : Scr × List (List C)} (hR : RightS s n hh) (h : RollsR s n hh x) (top bot : Nat) (keep : Bool) (htb : top ≤ bot) (hb : bot < hh) : RollsR s n hh (rUp n top bot keep x) := by
  have hl := h.l
  have hs : isSt (0, x.1.sb, 0) = true := by rw [h.sb]; exact roll_style hR
  have e1 : (replR x.2 n x.1.sb top bot).length = hh := by rw [replR_len _ _ _ _ _ (by omega) (by omega), hl]
  have e2 := h.r.up x.1.sb hs top bot htb (by omega)
  unfold rUp
  split
  · refine ⟨?_, e1, e2, keepG_len _ _ h.g1, fun r hm => ?_⟩
    · show ({ x.1 with gone := keepG x.1.gone (x.2.getD 0 []) } : Scr) = { s with gone := keepG x.1.gone (x.2.getD 0 []) }
      generalize keepG x.1.gone (x.2.getD 0 []) = gg
      rw [h.e]
    rcases keepG_mem hm with q | q
    · exact h.g2 r q
    · have h0 := h.r 0 (by omega)
      rw [q, h0.1]
      exact roll_one n _ hR.n1 hR.n2 h0.1 h0.2
  · exact ⟨h.e, e1, e2, h.g1, h.g2⟩
theorem RollsR.dn {s : Scr} {n hh : Nat} {x : Scr × List (List C)} (hR : RightS s n hh) (h : RollsR s n hh x) (top bot : Nat) (htb : top ≤ bot) (hb : bot < hh) : RollsR s n hh (rDn n top bot x) := by
  have hl := h.l
  have hs : isSt (0, x.1.sb, 0) = true := by rw [h.sb]; exact roll_style hR
  exact ⟨h.e, by show (replR x.2 n x.1.sb bot top).length = hh; rw [replR_len _ _ _ _ _ (by omega) (by omega), hl], h.r.down x.1.sb hs top bot htb (by omega), h.g1, h.g2⟩
theorem RollsR.iter {s : Scr} {n hh : Nat} {f : Scr × List (List C) → Scr × List (List C)} (hf : ∀ x, RollsR s n hh x → RollsR s n hh (f x)) (x : Scr × List (List C)) (h : RollsR s n hh x) : ∀ j, RollsR s n hh (iterN f j x)
  | 0 => h
  | j + 1 => hf _ (RollsR.iter hf x h j)
theorem RollsR.right {s : Scr} {n hh : Nat} {x : Scr × List (List C)} (hR : RightS s n hh) (h : RollsR s n hh x) : RightS { x.1 with cs := x.2.flatten } n hh ∧ rowsL n x.2.flatten hh = x.2 := by
  have k := right_new hR x.1.gone x.2 h.l h.r h.g1 h.g2
  refine ⟨?_, k.2⟩
  have e : ({ x.1 with cs := x.2.flatten } : Scr) = { s with gone := x.1.gone, cs := x.2.flatten } := by
    have he := h.e
    generalize x.1 = a at he ⊢
    rw [he]
  rw [e]
  exact k.1
end Put
end Go.Proofs.YtnkeahfcpbepjaaGreatDoor

/- put.printRune: a rune that has no room is left out. -/
namespace Go.Proofs.YtnkeahfcpbepjaaGreatDoor
open Go.ChangeShapes Go.WideShapes Go.ChangeAt Go.RowKit
namespace Put
open Grd (C SliceAt CellsAt gridErr z0 nilV flat rowsL)
open Sty (isSt)
open Txt (wd)
set_option maxHeartbeats 8000000 in
set_option maxRecDepth 100000 in
theorem print_stay (W : World) (M N p : Nat) (s s1 : Scr) (rows rows1 : List (List C)) (r : Int) (hT : Txt.Tab W) (hS : ShAt 64 W M N p s rows) (hk0 : wd r ≠ 0) (hkw : wd r ≤ s.w) (h0 : 0 ≤ s.x) (h1 : s.x ≤ 120) (w1 : 1 ≤ s.w) (w2 : s.w ≤ 120)
    (hF : Fed W M N p (wd r) s s1 rows rows1) (hft : fitsB s1 (wd r) = false) :
    Calls Tryz.prog 36 #[.pointer (some ⟨p, 0, none⟩), .int .i32 r] W (Ran W M N p s1 rows1) := by
  have kb : Below W.heap.size W (W.alloc (.cells #[.pointer (some ⟨p, 0, none⟩)] 57)) := (Below.refl _ _).alloc (Nat.le_refl _) _
  have hx0 := heap_alloc_new W (.cells #[.pointer (some ⟨p, 0, none⟩)] 57)
  have HW := Txt.width_any r (W.alloc (.cells #[.pointer (some ⟨p, 0, none⟩)] 57)) (Grd.Tab.next hT kb)
  have HX0 : Hid _ := hx0
  have HKB : Hid _ := kb
  have HS : Hid (ShAt 64 W M N p s rows) := hS
  have hkr := Txt.wd_range r
  have HF : Hid (Fed W M N p (wd r) s s1 rows rows1) := hF
  have HFT : Hid (fitsB s1 (wd r) = false) := hft
  clear hx0 kb hS hT hF hft
  generalize wd r = k at *
  have q0 : (k == 0) = false := by rw [beq_eq_false_iff_ne]; exact hk0
  have q1 : ¬ s.w < k := by omega
  have hpf := plain_fits
  unfold Plain at hpf
  go_enter Tryz.func36, Tryz.ntmps36
  go_wp2_with fail
  refine HW.mono ?_
  rintro e W1 ⟨rfl, b1⟩
  have hw := way_start HS.out HKB.out HX0.out b1 (k := k)
  clear HW b1 HX0 HKB
  go_upto_region 2 with fail
  generalize hB : W1.heap.size = Bw at *
  clear hB
  generalize (W1.alloc (.cells #[.int .i64 k] 3)) = X at *
  have HWY : Hid (Way W X M N p W.heap.size Bw k s rows) := hw
  obtain ⟨cp, cw⟩ := hw.cells
  obtain ⟨c0, -⟩ := hw.s.words
  clear hw HS
  go_region
  have HW2 : Hid (Way W X.drew M N p W.heap.size Bw k s rows) := HWY.out.drew
  clear cp cw c0 HWY
  generalize X.drew = Y at *
  go_upto_region 4 with fail
  go_cut [34] from 6 to 34 (fun c wx => c = .bool (brkB s k) ∧ Way W wx M N p W.heap.size Bw k s rows)
  case first =>
    have hw := HW2.out
    obtain ⟨cp, cw⟩ := hw.cells
    obtain ⟨c0, -, c3, -, c5, -⟩ := hw.s.words
    have HH := has_any 4 Y hw.s
    have HFI := fits_any Y M N p Bw W.heap.size s rows k hw.s cw cp h0 h1 w1 w2
    clear hw
    cases hl : s.late with
    | true =>
      have HB : Hid (brkB s k = true) := by unfold Hid brkB; rw [hl]; rfl
      rw [hl] at c5
      go_wp2_with fail
      go_meet
      exact ⟨by rw [HB.out], HW2.out⟩
    | false =>
      rw [hl] at c5
      cases hb : hasB s.modes 4 with
      | false =>
        have HB : Hid (brkB s k = false) := by unfold Hid brkB; rw [hl, hb]; rfl
        rw [hb] at HH
        go_wp2_with fail
        refine HH.mono ?_
        rintro e V ⟨rfl, hv⟩
        subst hv
        go_wp2_with fail
        go_meet
        exact ⟨by rw [HB.out], HW2.out⟩
      | true =>
        have HB : Hid (brkB s k = !fitsB s k) := by unfold Hid brkB; rw [hl, hb]; rfl
        rw [hb] at HH
        generalize fitsB s k = fb at *
        go_wp2_with fail
        refine HH.mono ?_
        rintro e V ⟨rfl, hv⟩
        subst hv
        go_wp2_with fail
        refine HFI.mono ?_
        rintro e V ⟨rfl, hv⟩
        subst hv
        go_wp2_with fail
        go_meet
        exact ⟨by rw [HB.out], HW2.out.drew⟩
  case rest =>
    obtain ⟨rfl, hw3⟩ := hcut
    have HW3 : Hid (Way W wc M N p W.heap.size Bw k s rows) := hw3
    clear hw3 HW2
    go_upto_if 34 with fail
    go_cut [] from 6 to 40 (fun wx => Way W wx M N p W.heap.size Bw k s1 rows1)
    case first =>
      cases hb : brkB s k with
      | true =>
        obtain ⟨cp, cw⟩ := HW3.out.cells
        obtain ⟨-, -, c3, -, -, -, -, -, -, f⟩ := HW3.out.s.words
        have f3 := f 3
        obtain ⟨hS4, hB4, hF4⟩ := HW3.out.s.put 3 (.int .i64 0) (s' := { s with x := 0 }) (fun _ _ _ _ => rfl) rfl rfl
        have HW4 : Hid (Way W (wc.setCell ⟨p, 3, none⟩ (.int .i64 0)) M N p W.heap.size Bw k { s with x := 0 } rows) := HW3.out.ran (e := .returned (.tuple #[])) ⟨rfl, hS4, hB4, hF4⟩
        have HFE := HF.out.go hb _ HW4.out.b HW4.out.s
        have d1 := HW4.out.cells.1
        clear hS4 hB4 hF4 f cw
        go_wp2_with fail
        refine HFE.mono ?_
        rintro e V hran
        have hrn := hran
        obtain ⟨rfl, -⟩ := hrn
        have HW5 : Hid (Way W V M N p W.heap.size Bw k s1 rows1) := HW4.out.ran hran
        clear hran cp c3 f3 d1
        go_wp2_with fail
        go_meet
        exact HW5.out
      | false =>
        obtain ⟨e1, e2⟩ := HF.out.no hb
        go_wp2_with fail
        go_meet
        rw [e1, e2]
        exact HW3.out
    case rest =>
      have HW5 : Hid (Way W wc M N p W.heap.size Bw k s1 rows1) := hcut
      clear hcut HW3
      have hw5 := HW5.out
      obtain ⟨cp, cw⟩ := hw5.cells
      have x0 := HF.out.x0
      have x1 := HF.out.x1
      have ew := HF.out.w
      have HEW : Hid (s1.w = s.w) := ew
      have HFI := fits_any wc M N p Bw W.heap.size s1 rows1 k hw5.s cw cp x0 x1 (by omega) (by omega)
      rw [HFT.out] at HFI
      clear hw5 cp cw ew
      go_wp2_with fail
      refine HFI.mono ?_
      rintro e V ⟨rfl, hv⟩
      subst hv
      have HW6 : Hid (Way W wc.drew M N p W.heap.size Bw k s1 rows1) := HW5.out.drew
      clear HFI HW5
      go_wp2_with fail
      (try simp only [Exit.inBlock, Exit.then])
      exact bodyPost_ret (v := .tuple #[]) (results_none rfl _ _ _) rfl ⟨rfl, HW6.out.s, HW6.out.b, HW6.out.f⟩
end Put
end Go.Proofs.YtnkeahfcpbepjaaGreatDoor

/- put.printRune: any rune, on a sheet that is right. -/
namespace Go.Proofs.YtnkeahfcpbepjaaGreatDoor
open Go.ChangeShapes Go.WideShapes Go.ChangeAt Go.RowKit
namespace Put
open Grd (C SliceAt CellsAt gridErr z0 nilV flat rowsL RightRow mendL)
open Sty (isSt)
open Txt (wd)
/-- A sheet that is right, as far as printing goes. -/
structure PI (n hh : Nat) (s : Scr) (rows : List (List C)) : Prop where
  w : s.w = n
  h : s.h = hh
  n1 : 1 ≤ n
  n2 : n ≤ 120
  h1 : 1 ≤ hh
  h2 : hh ≤ 60
  x0 : 0 ≤ s.x
  x1 : s.x < n
  y0 : 0 ≤ s.y
  y1 : s.y < hh
  t0 : 0 ≤ s.top
  t1 : s.top ≤ s.bot
  t2 : s.bot < hh
  look : isSt (s.sf, s.sb, s.sx) = true
  rl : rows.length = hh
  rr : RowsRt n rows
  gl : s.gone.length ≤ 50
theorem PI.back {n hh : Nat} {s : Scr} {rows : List (List C)} (h : PI n hh s rows) : isSt (0, s.sb, 0) = true := by
  have h2 := h.look
  simp only [isSt, decide_eq_true_eq] at h2 ⊢
  omega
/-- To the next row, at its beginning. -/
def fedP (n : Nat) (s : Scr) (rows : List (List C)) : Scr × List (List C) :=
  if s.y = s.bot then (upS { s with x := 0, late := false } rows s.top.toNat, replR rows n s.sb s.top.toNat s.bot.toNat) else (feedS { s with x := 0 }, rows)
theorem upS_same (s : Scr) (rows : List (List C)) (top : Nat) : (upS s rows top) = { s with gone := (upS s rows top).gone } := by
  unfold upS
  split <;> rfl
theorem upS_gl (s : Scr) (rows : List (List C)) (top : Nat) (h : s.gone.length ≤ 50) : (upS s rows top).gone.length ≤ 50 := by
  unfold upS
  split
  · exact keepG_len _ _ h
  · exact h
theorem PI.fed {n hh : Nat} {s : Scr} {rows : List (List C)} (h : PI n hh s rows) : PI n hh (fedP n s rows).1 (fedP n s rows).2 := by
  have n1 := h.n1
  have y0 := h.y0
  have y1 := h.y1
  have t0 := h.t0
  have t1 := h.t1
  have t2 := h.t2
  have rl := h.rl
  have eh := h.h
  unfold fedP
  by_cases hq : s.y = s.bot
  · rw [if_pos hq]
    have e := upS_same { s with x := 0, late := false } rows s.top.toNat
    have g := upS_gl { s with x := 0, late := false } rows s.top.toNat h.gl
    have hr := RowsRt.up h.rr s.sb h.back s.top.toNat s.bot.toNat (by omega) (by omega)
    have hl : (replR rows n s.sb s.top.toNat s.bot.toNat).length = hh := by rw [replR_len _ _ _ _ _ (by omega) (by omega), rl]
    generalize upS { s with x := 0, late := false } rows s.top.toNat = u at *
    dsimp only
    rw [e]
    exact ⟨h.w, h.h, h.n1, h.n2, h.h1, h.h2, by show (0 : Int) ≤ 0; omega, by show (0 : Int) < n; omega, h.y0, h.y1, h.t0, h.t1, h.t2, h.look, hl, hr, g⟩
  · rw [if_neg hq]
    unfold feedS
    dsimp only
    split
    · rename_i hlt
      exact ⟨h.w, h.h, h.n1, h.n2, h.h1, h.h2, by show (0 : Int) ≤ 0; omega, by show (0 : Int) < n; omega, by show 0 ≤ s.y + 1; omega, by show s.y + 1 < hh; omega, h.t0, h.t1, h.t2, h.look, rl, h.rr, h.gl⟩
    · exact ⟨h.w, h.h, h.n1, h.n2, h.h1, h.h2, by show (0 : Int) ≤ 0; omega, by show (0 : Int) < n; omega, h.y0, h.y1, h.t0, h.t1, h.t2, h.look, rl, h.rr, h.gl⟩
theorem fedP_x (n : Nat) (s : Scr) (rows : List (List C)) : (fedP n s rows).1.x = 0 := by
  unfold fedP
  split
  · dsimp only
    rw [upS_same]
  · unfold feedS
    dsimp only
    split <;> rfl
theorem fed_any {n hh : Nat} {s : Scr} {rows : List (List C)} (h : PI n hh s rows) (X : World) (M N p : Nat) (hS : ShAt 64 X M N p { s with x := 0 } rows) :
    Calls Tryz.prog 83 #[.pointer (some ⟨p, 0, none⟩)] X (Ran X M N p (fedP n s rows).1 (fedP n s rows).2) := by
  have y0 := h.y0
  have y1 := h.y1
  have t0 := h.t0
  have t1 := h.t1
  have t2 := h.t2
  have rl := h.rl
  have eh := h.h
  have h1 := h.h1
  have h2 := h.h2
  unfold fedP
  by_cases hq : s.y = s.bot
  · rw [if_pos hq]
    exact feed_roll X M N p n { s with x := 0 } rows hS s.top.toNat s.bot.toNat (by show s.top = _; omega) (by show s.bot = _; omega) hq h.w h.n1 h.n2 (by omega) (by omega) (by omega) h.gl
  · rw [if_neg hq]
    exact feed_plain X M N p { s with x := 0 } rows hS y0 (by show s.y ≤ 60; omega) (by show 1 ≤ s.h; omega) (by show s.h ≤ 60; omega) hq
def turnP (n : Nat) (s : Scr) (rows : List (List C)) (r : Int) : Scr × List (List C) := if brkB s (wd r) = true then fedP n s rows else (s, rows)
theorem PI.turn {n hh : Nat} {s : Scr} {rows : List (List C)} (h : PI n hh s rows) (r : Int) : PI n hh (turnP n s rows r).1 (turnP n s rows r).2 := by
  unfold turnP
  split
  · exact h.fed
  · exact h
theorem turn_fed {n hh : Nat} {s : Scr} {rows : List (List C)} (h : PI n hh s rows) (r : Int) (W : World) (M N p : Nat) : Fed W M N p (wd r) s (turnP n s rows r).1 rows (turnP n s rows r).2 := by
  have ht := h.turn r
  have n2 := h.n2
  refine ⟨fun hb X _ hX => ?_, fun hb => ?_, ht.w.trans h.w.symm, ht.x0, by have := ht.x1; omega⟩
  · unfold turnP
    rw [if_pos hb]
    exact fed_any h X M N p hX
  · unfold turnP
    rw [if_neg (by rw [hb]; simp)]
    exact ⟨rfl, rfl⟩
/-- Blanks are put in, where the mode says so. -/
def roomP (s : Scr) (rows : List (List C)) (r : Int) : List (List C) := if hasB s.modes 1 = true then rows.set s.y.toNat (mendL (insR (rows.getD s.y.toNat []) s.x.toNat (wd r).toNat s.sb)) else rows
/-- A rune is printed. -/
def prnP (n : Nat) (s : Scr) (rows : List (List C)) (r : Int) : Scr × List (List C) :=
  if wd r = 0 ∨ s.w < wd r then (s, rows)
  else if fitsB (turnP n s rows r).1 (wd r) = false then turnP n s rows r
  else ({ advS (turnP n s rows r).1 (wd r) with last := r }, (roomP (turnP n s rows r).1 (turnP n s rows r).2 r).set (turnP n s rows r).1.y.toNat (putRune ((turnP n s rows r).1.sf, (turnP n s rows r).1.sb, (turnP n s rows r).1.sx) ((roomP (turnP n s rows r).1 (turnP n s rows r).2 r).getD (turnP n s rows r).1.y.toNat []) (turnP n s rows r).1.x.toNat r))
theorem rowsRt_set {n : Nat} {rows : List (List C)} (h : RowsRt n rows) (y : Nat) (row : List C) (hl : row.length = n) (hr : RightRow row) : RowsRt n (rows.set y row) := fun i hi => by
  rw [List.length_set] at hi
  by_cases e : y = i
  · subst e
    have e2 : (rows.set y row).getD y [] = row := by simp [List.getD, hi]
    rw [e2]
    exact ⟨hl, hr⟩
  · have e2 : (rows.set y row).getD i [] = rows.getD i [] := by simp [List.getD, List.getElem?_set_ne e]
    rw [e2]
    exact h i hi
theorem room_rt {n hh : Nat} {s : Scr} {rows : List (List C)} (h : PI n hh s rows) (r : Int) (hr : wd r ≠ 0) (hf : fitsB s (wd r) = true) : RowsRt n (roomP s rows r) ∧ (roomP s rows r).length = hh := by
  have hk := Txt.wd_range r
  have x0 := h.x0
  have y0 := h.y0
  have y1 := h.y1
  have rl := h.rl
  have ew := h.w
  have hf' : wd r ≤ s.w - s.x := by simpa [fitsB] using hf
  have hrow := h.rr s.y.toNat (by omega)
  unfold roomP
  split
  · have hm := ins_meant hrow.2.1 s.x.toNat (wd r).toNat s.sb (by omega) (by rw [hrow.1]; omega) h.back
    exact ⟨rowsRt_set h.rr _ _ (by rw [Grd.mendL_len, insR_len _ _ _ _ (by rw [hrow.1]; omega), hrow.1]) (Grd.mend_right _ hm), by rw [List.length_set, rl]⟩
  · exact ⟨h.rr, rl⟩
theorem advS_same (s : Scr) (k : Int) : (advS s k).w = s.w ∧ (advS s k).h = s.h ∧ (advS s k).y = s.y ∧ (advS s k).top = s.top ∧ (advS s k).bot = s.bot ∧ (advS s k).sf = s.sf ∧ (advS s k).sb = s.sb ∧ (advS s k).sx = s.sx ∧ (advS s k).gone = s.gone := by
  unfold advS
  split <;> exact ⟨rfl, rfl, rfl, rfl, rfl, rfl, rfl, rfl, rfl⟩
theorem PI.print {n hh : Nat} {s : Scr} {rows : List (List C)} (h0 : PI n hh s rows) (r : Int) : PI n hh (prnP n s rows r).1 (prnP n s rows r).2 := by
  unfold prnP
  split
  · exact h0
  · rename_i hsk
    have h := h0.turn r
    generalize turnP n s rows r = t at *
    obtain ⟨s1, rows1⟩ := t
    dsimp only at h ⊢
    split
    · exact h
    · rename_i hft
      have hf : fitsB s1 (wd r) = true := by simpa using hft
      have hf' : wd r ≤ s1.w - s1.x := by simpa [fitsB] using hf
      have hw0 : wd r ≠ 0 := fun e => hsk (.inl e)
      have hk := Txt.wd_range r
      have hq := room_rt h r hw0 hf
      have n1 := h.n1
      have x0 := h.x0
      have x1 := h.x1
      have y0 := h.y0
      have y1 := h.y1
      have ew := h.w
      have hrow := hq.1 s1.y.toNat (by rw [hq.2]; omega)
      obtain ⟨a1, a2, a3, a4, a5, a6, a7, a8, a9⟩ := advS_same s1 (wd r)
      have ax : 0 ≤ (advS s1 (wd r)).x ∧ (advS s1 (wd r)).x < n := by
        unfold advS
        split
        · exact ⟨by show 0 ≤ s1.w - 1; omega, by show s1.w - 1 < n; omega⟩
        · exact ⟨by show 0 ≤ s1.x + wd r; omega, by show s1.x + wd r < n; omega⟩
      have hmn := Grd.meant_one (s1.sf, s1.sb, s1.sx) ((roomP s1 rows1 r).getD s1.y.toNat []) s1.x.toNat r hrow.2.1 h.look (by rw [hrow.1]; omega)
      refine ⟨a1.trans h.w, a2.trans h.h, h.n1, h.n2, h.h1, h.h2, ax.1, ax.2, by rw [← a3] at y0; exact y0, by rw [← a3] at y1; exact y1, by have := h.t0; rw [← a4] at this; exact this, by have := h.t1; rw [← a4, ← a5] at this; exact this, by have := h.t2; rw [← a5] at this; exact this, by have := h.look; rw [← a6, ← a7, ← a8] at this; exact this, by rw [List.length_set, hq.2], ?_, by have := h.gl; rw [← a9] at this; exact this⟩
      exact rowsRt_set hq.1 _ _ (by rw [putRune_len, hrow.1]) (Grd.mend_right _ hmn)
theorem print_any {n hh : Nat} {s : Scr} {rows : List (List C)} (h0 : PI n hh s rows) (r : Int) (W : World) (M N p : Nat) (hT : Txt.Tab W) (hTN : 0 < N) (hS : ShAt 64 W M N p s rows) :
    Calls Tryz.prog 36 #[.pointer (some ⟨p, 0, none⟩), .int .i32 r] W (Ran W M N p (prnP n s rows r).1 (prnP n s rows r).2) := by
  have hx0 := h0.x0
  have hx1 := h0.x1
  have hn1 := h0.n1
  have hn2 := h0.n2
  have hew := h0.w
  unfold prnP
  by_cases hsk : wd r = 0 ∨ s.w < wd r
  · rw [if_pos hsk]
    exact print_skip W M N p s rows r hT hS hsk
  · rw [if_neg hsk]
    have h := h0.turn r
    have hF := turn_fed h0 r W M N p
    generalize turnP n s rows r = t at *
    obtain ⟨s1, rows1⟩ := t
    dsimp only at h hF ⊢
    have hw0 : wd r ≠ 0 := fun e => hsk (.inl e)
    have hww : wd r ≤ s.w := by
      have : ¬ s.w < wd r := fun e => hsk (.inr e)
      omega
    by_cases hft : fitsB s1 (wd r) = false
    · rw [if_pos hft]
      exact print_stay W M N p s s1 rows rows1 r hT hS hw0 hww hx0 (by omega) (by omega) (by omega) hF hft
    · rw [if_neg hft]
      have hf : fitsB s1 (wd r) = true := by simpa using hft
      have hf' : wd r ≤ s1.w - s1.x := by simpa [fitsB] using hf
      have hk := Txt.wd_range r
      have hq := room_rt h r hw0 hf
      have x0 := h.x0
      have x1 := h.x1
      have y0 := h.y0
      have y1 := h.y1
      have ew := h.w
      have rl := h.rl
      have hrow := h.rr s1.y.toNat (by omega)
      have hrow2 := hq.1 s1.y.toNat (by rw [hq.2]; omega)
      have htab : ∀ X, Below N W X → Txt.Tab X := fun X hb => hT.below hb hTN
      have ek : wd r = ((wd r).toNat : Int) := by omega
      refine print_main W M N p s s1 rows rows1 (roomP s1 rows1 r) _ r hT hS hw0 hww hx0 (by omega) (by omega) (by omega) hF hf (fun hi X hX hSX => ?_) (fun hi => ?_) (fun X hX hSX => ?_)
      · have := insert_any X M N p s1 rows1 hSX (htab X hX) s1.y.toNat s1.x.toNat (wd r).toNat (by omega) (by omega) (by omega) (by omega) (by rw [hrow.1]; omega) (by rw [hrow.1]; omega) hrow.2.1 h.back
        rw [← ek] at this
        unfold roomP
        rw [if_pos hi]
        exact this
      · unfold roomP
        rw [if_neg (by rw [hi]; simp)]
      · exact write_any X M N p s1 (roomP s1 rows1 r) (htab X hX) hSX r n s1.x.toNat s1.y.toNat (by rw [hq.2]; omega) _ rfl h.w (by omega) (by omega) (by omega) hrow2.1 (roll_one n _ h.n1 h.n2 hrow2.1 hrow2.2) h.look hw0 (by omega)
end Put
end Go.Proofs.YtnkeahfcpbepjaaGreatDoor

/- What the reference makes of a row where a rune is printed. No function is walked here. -/
namespace Go.Proofs.YtnkeahfcpbepjaaGreatDoor
namespace Put
open Grd (C z0 mendL mendM loose)
open Txt (wd)
theorem getD_appC (l l' : List C) (i : Nat) : (l ++ l').getD i z0 = if i < l.length then l.getD i z0 else l'.getD (i - l.length) z0 := by
  by_cases h : i < l.length
  · rw [if_pos h]
    simp [List.getD, List.getElem?_append_left h]
  · rw [if_neg h]
    simp [List.getD, List.getElem?_append_right (Nat.le_of_not_lt h)]
theorem getD_takeC (l : List C) (k i : Nat) (h : i < k) : (l.take k).getD i z0 = l.getD i z0 := by simp [List.getD, List.getElem?_take_of_lt h]
theorem getD_dropC (l : List C) (k i : Nat) : (l.drop k).getD i z0 = l.getD (k + i) z0 := by simp [List.getD]
theorem getD_setC (l : List C) (k i : Nat) (c : C) (hk : k < l.length) : (l.set k c).getD i z0 = if i = k then c else l.getD i z0 := by
  by_cases h : i = k
  · subst h
    rw [if_pos rfl]
    simp [List.getD, hk]
  · rw [if_neg h]
    simp [List.getD, List.getElem?_set_ne (fun e => h e.symm)]
theorem wd32 : wd 32 = 1 := by decide +kernel
theorem wd0 : wd 0 = 0 := by decide +kernel
theorem loose_mended (cs : List C) (x : Nat) (hx : x < cs.length) : loose (mendM cs) x = false := by
  have hl := Grd.mendM_len cs
  have hm := Grd.mendM_at cs x hx
  by_cases h : loose cs x = true
  · rw [if_pos h] at hm
    unfold loose
    rw [hm, if_neg (by decide : ¬ ((32 : Int) = 0))]
    show (decide (wd 32 = 2) && _) = false
    rw [wd32]
    rfl
  · rw [if_neg h] at hm
    have h' : loose cs x = false := by simpa using h
    unfold loose at h'
    unfold loose
    rw [hm, hl]
    by_cases h0 : (cs.getD x z0).1 = 0
    · rw [if_pos h0] at h' ⊢
      simp only [Bool.or_eq_false_iff, decide_eq_false_iff_not, Decidable.not_not] at h' ⊢
      have hx1 : x - 1 < cs.length := by omega
      have h1 : loose cs (x - 1) = false := by
        have hne : ¬ (cs.getD (x - 1) z0).1 = 0 := fun e => by
          have h2 := h'.2
          rw [e, wd0] at h2
          exact absurd h2 (by decide)
        unfold loose
        rw [if_neg hne]
        have e1 : x - 1 + 1 = x := by omega
        rw [e1, h0]
        have e2 : ¬ x = cs.length := by omega
        simp [e2]
      have hm1 := Grd.mendM_at cs (x - 1) hx1
      rw [if_neg (by rw [h1]; decide)] at hm1
      rw [hm1]
      exact h'
    · rw [if_neg h0] at h' ⊢
      by_cases h2 : wd (cs.getD x z0).1 = 2
      · simp only [h2, decide_true, Bool.true_and, Bool.or_eq_false_iff, decide_eq_false_iff_not, Decidable.not_not] at h' ⊢
        have hx1 : x + 1 < cs.length := by omega
        have h3 : loose cs (x + 1) = false := by
          unfold loose
          rw [if_pos h'.2, Nat.add_sub_cancel, h2]
          simp
        have hm1 := Grd.mendM_at cs (x + 1) hx1
        rw [if_neg (by rw [h3]; decide)] at hm1
        rw [hm1]
        exact h'
      · rw [decide_eq_false h2, Bool.false_and]
theorem mend_mend (cs : List C) : mendL (mendL cs) = mendL cs := by
  rw [Grd.mendL_eq, Grd.mendL_eq]
  refine Grd.ext_getD _ _ (by rw [Grd.mendM_len]) fun x hx => ?_
  rw [Grd.mendM_len, Grd.mendM_len] at hx
  rw [Grd.mendM_at _ x (by rw [Grd.mendM_len]; exact hx), if_neg (by rw [loose_mended cs x hx]; decide)]
/-- The cells of a rune. -/
def cells2 (st : Int × Int × Int) (r : Int) (w : Nat) : List C := [(r, st), (0, st)].take w
def tailR (ins : Bool) (row : List C) (x w : Nat) : List C := if ins then row.drop x else row.drop (x + w)
def rowY (ins : Bool) (st : Int × Int × Int) (row : List C) (x w : Nat) (r : Int) : List C := (row.take x ++ (cells2 st r w ++ tailR ins row x w)).take row.length
theorem rowY_len (ins : Bool) (st : Int × Int × Int) (row : List C) (x w : Nat) (r : Int) (hw : w = 1 ∨ w = 2) (hx : x + w ≤ row.length) : (rowY ins st row x w r).length = row.length := by
  unfold rowY
  have h1 : (cells2 st r w).length = w := by unfold cells2; rw [List.length_take]; simp; omega
  have h2 : row.length - (x + w) ≤ (tailR ins row x w).length := by
    unfold tailR
    split
    · rw [List.length_drop]; omega
    · rw [List.length_drop]; omega
  rw [List.length_take, List.length_append, List.length_append, List.length_take, h1]
  omega
theorem rowY_at (ins : Bool) (st : Int × Int × Int) (row : List C) (x w : Nat) (r : Int) (hw : w = 1 ∨ w = 2) (hx : x + w ≤ row.length) (i : Nat) (hi : i < row.length) :
    (rowY ins st row x w r).getD i z0 = if i < x then row.getD i z0 else if i < x + w then (if i = x then (r, st) else (0, st)) else row.getD (if ins then i - w else i) z0 := by
  unfold rowY
  have h1 : (cells2 st r w).length = w := by unfold cells2; rw [List.length_take]; simp; omega
  rw [getD_takeC _ _ _ hi, getD_appC, List.length_take]
  have hm : min x row.length = x := by omega
  rw [hm]
  by_cases a : i < x
  · rw [if_pos a, if_pos a, getD_takeC _ _ _ a]
  · rw [if_neg a, if_neg a, getD_appC, h1]
    by_cases b : i < x + w
    · rw [if_pos (by omega : i - x < w), if_pos b]
      unfold cells2
      rcases hw with rfl | rfl
      · have e : i = x := by omega
        subst e
        simp
      · by_cases e : i = x
        · subst e
          simp
        · have e1 : i - x = 1 := by omega
          rw [e1, if_neg e]
          rfl
    · rw [if_neg (by omega : ¬ i - x < w), if_neg b]
      unfold tailR
      cases ins
      · rw [if_neg (by decide), getD_dropC, if_neg (by decide)]
        congr 1
        omega
      · rw [if_pos rfl, getD_dropC, if_pos rfl]
        congr 1
        omega
theorem writeOne_at (st : Int × Int × Int) (row : List C) (x w : Nat) (r : Int) (hw : w = 1 ∨ w = 2) (hr : wd r = (w : Int)) (hx : x + w ≤ row.length) (i : Nat) :
    (Grd.writeOne st row x r).getD i z0 = if i < x then row.getD i z0 else if i < x + w then (if i = x then (r, st) else (0, st)) else row.getD i z0 := by
  unfold Grd.writeOne
  rw [hr, if_neg (by omega)]
  rcases hw with rfl | rfl
  · rw [if_neg (by decide), getD_setC _ _ _ _ (by omega)]
    by_cases e : i = x
    · subst e
      simp
    · rw [if_neg e]
      by_cases a : i < x
      · rw [if_pos a]
      · rw [if_neg a, if_neg (by omega)]
  · rw [if_pos (by decide), getD_setC _ _ _ _ (by rw [List.length_set]; omega), getD_setC _ _ _ _ (by omega)]
    by_cases e : i = x
    · subst e
      simp
    · by_cases e1 : i = x + 1
      · subst e1
        rw [if_pos rfl, if_neg (by omega), if_pos (by omega), if_neg e]
      · rw [if_neg e1, if_neg e]
        by_cases a : i < x
        · rw [if_pos a]
        · rw [if_neg a, if_neg (by omega)]
/-- Without Insert. -/
theorem rowY_plain (st : Int × Int × Int) (row : List C) (x w : Nat) (r : Int) (hw : w = 1 ∨ w = 2) (hr : wd r = (w : Int)) (hx : x + w ≤ row.length) : mendL (rowY false st row x w r) = putRune st row x r := by
  unfold putRune
  congr 1
  refine Grd.ext_getD _ _ (by rw [rowY_len _ _ _ _ _ _ hw hx, Grd.writeOne_len]) fun i hi => ?_
  rw [rowY_len _ _ _ _ _ _ hw hx] at hi
  rw [rowY_at _ _ _ _ _ _ hw hx i hi, writeOne_at _ _ _ _ _ hw hr hx i]
  rfl
theorem insR_get (row : List C) (x w : Nat) (bk : Int) (hx : x + w ≤ row.length) (i : Nat) (hi : i < row.length) :
    (insR row x w bk).getD i z0 = if i < x then row.getD i z0 else if i < x + w then (32, 0, bk, 0) else row.getD (i - w) z0 := by
  unfold insR
  rw [getD_appC, List.length_take]
  have hm : min x row.length = x := by omega
  rw [hm]
  by_cases a : i < x
  · rw [if_pos a, if_pos a, getD_takeC _ _ _ a]
  · rw [if_neg a, if_neg a, getD_appC, List.length_replicate]
    by_cases b : i < x + w
    · rw [if_pos (by omega : i - x < w), if_pos b]
      have : i - x < w := by omega
      simp [List.getD, this]
    · rw [if_neg (by omega : ¬ i - x < w), if_neg b, getD_takeC _ _ _ (by omega), getD_dropC]
      congr 1
      omega
/-- With Insert. -/
theorem rowY_ins (st : Int × Int × Int) (row : List C) (x w : Nat) (r bk : Int) (hw : w = 1 ∨ w = 2) (hr : wd r = (w : Int)) (hx : x + w ≤ row.length) : mendL (rowY true st row x w r) = putRune st (mendL (insR row x w bk)) x r := by
  have hr0 : r ≠ 0 := fun e => by
    rw [e, wd0] at hr
    omega
  have hIl := insR_len row x w bk hx
  have hYl := rowY_len true st row x w r hw hx
  have hI := insR_get row x w bk hx
  have hY := rowY_at true st row x w r hw hx
  have inY : ∀ i, x ≤ i → i < x + w → loose (rowY true st row x w r) i = false := fun i h1 h2 => by
    have y0 := hY i (by omega)
    rw [if_neg (by omega : ¬ i < x), if_pos h2] at y0
    unfold loose
    rw [y0, hYl]
    by_cases e : i = x
    · rw [if_pos e]
      show (if r = 0 then _ else _) = false
      rw [if_neg hr0]
      rcases hw with rfl | rfl
      · show (decide (wd r = 2) && _) = false
        rw [hr]
        rfl
      · have y1 := hY (i + 1) (by omega)
        rw [if_neg (by omega : ¬ i + 1 < x), if_pos (by omega : i + 1 < x + 2), if_neg (by omega : ¬ i + 1 = x)] at y1
        rw [y1]
        have e2 : ¬ i + 1 = row.length := by omega
        simp [e2]
    · have ew : w = 2 := by omega
      subst ew
      have y1 := hY (i - 1) (by omega)
      rw [if_neg (by omega : ¬ i - 1 < x), if_pos (by omega : i - 1 < x + 2), if_pos (by omega : i - 1 = x)] at y1
      rw [if_neg e]
      show (if (0 : Int) = 0 then _ else _) = false
      rw [if_pos rfl, y1]
      show (decide (i = 0) || decide (wd r ≠ 2)) = false
      rw [hr]
      have e3 : ¬ i = 0 := by omega
      simp [e3]
  have out : ∀ i, i < row.length → ¬ (x ≤ i ∧ i < x + w) → (insR row x w bk).getD i z0 = (rowY true st row x w r).getD i z0 := fun i hi ho => by
    rw [hI i hi, hY i hi]
    by_cases a : i < x
    · rw [if_pos a, if_pos a]
    · rw [if_neg a, if_neg a, if_neg (by omega), if_neg (by omega)]
      rfl
  have lo : ∀ i, i < row.length → ¬ (x ≤ i ∧ i < x + w) → loose (insR row x w bk) i = loose (rowY true st row x w r) i := fun i hi ho => by
    unfold loose
    rw [out i hi ho, hIl, hYl]
    by_cases h0 : ((rowY true st row x w r).getD i z0).1 = 0
    · rw [if_pos h0, if_pos h0]
      by_cases ei : i = 0
      · simp [ei]
      · congr 1
        by_cases hin : x ≤ i - 1 ∧ i - 1 < x + w
        · rw [hI (i - 1) (by omega), hY (i - 1) (by omega), if_neg (by omega), if_pos hin.2, if_neg (by omega), if_pos hin.2]
          show decide (wd 32 ≠ 2) = _
          rw [wd32]
          rcases hw with rfl | rfl
          · rw [if_pos (by omega), hr]
            rfl
          · rw [if_neg (by omega)]
            show _ = decide (wd 0 ≠ 2)
            rw [wd0]
            rfl
        · rw [out (i - 1) (by omega) hin]
    · rw [if_neg h0, if_neg h0]
      by_cases el : i + 1 = row.length
      · simp [el]
      · congr 1
        congr 1
        by_cases hin : x ≤ i + 1 ∧ i + 1 < x + w
        · have ex : i + 1 = x := by omega
          rw [hI (i + 1) (by omega), hY (i + 1) (by omega), if_neg (by omega), if_pos hin.2, if_neg (by omega), if_pos hin.2, if_pos ex]
          simp [hr0]
        · rw [out (i + 1) (by omega) hin]
  have key : Grd.writeOne st (mendL (insR row x w bk)) x r = mendL (rowY true st row x w r) := by
    rw [Grd.mendL_eq, Grd.mendL_eq]
    have hml : (mendM (insR row x w bk)).length = row.length := by rw [Grd.mendM_len, hIl]
    refine Grd.ext_getD _ _ (by rw [Grd.writeOne_len, Grd.mendM_len, Grd.mendM_len, hIl, hYl]) fun i hi => ?_
    rw [Grd.writeOne_len, hml] at hi
    rw [writeOne_at st _ x w r hw hr (by rw [hml]; exact hx) i, Grd.mendM_at (rowY true st row x w r) i (by rw [hYl]; exact hi), Grd.mendM_at (insR row x w bk) i (by rw [hIl]; exact hi)]
    by_cases hin : x ≤ i ∧ i < x + w
    · have hnx : ¬ i < x := by omega
      have hly : ¬ loose (rowY true st row x w r) i = true := by rw [inY i hin.1 hin.2]; decide
      rw [if_neg hnx, if_pos hin.2, if_neg hly, hY i hi, if_neg hnx, if_pos hin.2]
    · rw [out i hi hin, lo i hi hin]
      by_cases a : i < x
      · rw [if_pos a]
      · rw [if_neg a, if_neg (by omega)]
  unfold putRune
  rw [key, mend_mend]
end Put
end Go.Proofs.YtnkeahfcpbepjaaGreatDoor

/- put.Text's closure: rune by rune. -/
namespace Go.Proofs.YtnkeahfcpbepjaaGreatDoor
open Go.ChangeShapes Go.WideShapes Go.ChangeAt Go.RowKit
namespace Put
open Grd (C)
/-- A string's iterator goes on. -/
theorem ShAt.iter {t : TypeId} {W W' : World} {M N p k pos : Nat} {s : Scr} {rows : List (List C)} {str : ByteArray} (h : ShAt t W M N p s rows) (hk : W.heap[k]? = some (.stringIter str pos)) (hM : N ≤ k) (hoff : ∀ j, j ≠ k → W'.heap[j]? = W.heap[j]?) : ShAt t W' M N p s rows := by
  obtain ⟨cv, tv, gv, rv, gvs, vs, h⟩ := h
  have hne : ∀ {j : Nat} {A : Array Value} {u : TypeId} {f : Nat × Nat}, W.heap[j]? = some (.cells A u f) → W'.heap[j]? = W.heap[j]? := fun hj => hoff _ fun e => by
    rw [e, hk] at hj
    cases hj
  have how : ∀ {e : TypeId} {v : Value} {n : Nat} {xs : List Value}, W.ownsRow N e 1 v n xs → W'.ownsRow N e 1 v n xs := fun hw => owns_kept hw fun g hg => by
    obtain ⟨-, A, f, hA⟩ := owns_block hw g hg
    exact hne hA
  have hK : Kept M W W' := fun j _ hS => by
    rcases hS with hS | ⟨A, f, hS⟩
    · have := h.ml
      exact hoff j (by omega)
    · exact hne hS
  exact ⟨cv, tv, gv, rv, gvs, vs, (hne h.blk).trans h.blk, h.lo, h.ml, h.cvs, how h.tabs, how h.gone, h.gin.keep hK, how h.rws, h.rin.keep hK, h.two⟩
theorem iter_off (W : World) (k j : Nat) (t : ByteArray) (pos : Nat) (h : j ≠ k) : (W.iterAt k t pos).heap[j]? = W.heap[j]? := by
  unfold World.iterAt
  simp [Ne.symm h]
theorem other_iter (t : ByteArray) (pos : Nat) : OtherO (.stringIter t pos) := fun A u f e => by cases e
set_option maxHeartbeats 2000000 in
theorem text1_does (t : ByteArray) (B M : Nat) (w : World) (st : Nat → Scr × List (List C)) (hB : w.cell? ⟨B, 0, none⟩ = some (.string t))
    (hstep : ∀ i, i < (Txt.runes t).length → ∀ X p, Below w.heap.size w X → ShAt 64 X M w.heap.size p (st i).1 (st i).2 → Calls Tryz.prog 36 #[.pointer (some ⟨p, 0, none⟩), .int .i32 ((Txt.runes t).getD i (0, 0)).1] X (Ran X M w.heap.size p (st (i + 1)).1 (st (i + 1)).2)) :
    Does 152 #[.pointer (some ⟨B, 0, none⟩)] M w (st 0).1 (st (Txt.runes t).length).1 (st 0).2 (st (Txt.runes t).length).2 := by
  intro W p hb hS
  have q0 := cell_stay hb hB
  have HS : Hid (ShAt 64 W M w.heap.size p (st 0).1 (st 0).2) := hS
  have HB : Hid (Below w.heap.size w W) := hb
  have HST : Hid (∀ i, i < (Txt.runes t).length → ∀ X p, Below w.heap.size w X → ShAt 64 X M w.heap.size p (st i).1 (st i).2 → Calls Tryz.prog 36 #[.pointer (some ⟨p, 0, none⟩), .int .i32 ((Txt.runes t).getD i (0, 0)).1] X (Ran X M w.heap.size p (st (i + 1)).1 (st (i + 1)).2)) := hstep
  have hNW : w.heap.size ≤ W.heap.size := hb.size
  have HRL : Hid (Txt.runes t = Txt.rs t t.size 0) := rfl
  clear hS hb hB hstep
  go_enter Tryz.func152, Tryz.ntmps152
  go_wp2
  go_loopw [] (fun wr => ∃ (pos f i : Nat), wr.heap[W.heap.size]? = some (.stringIter t pos) ∧ Below w.heap.size W wr ∧ ShAt 64 wr M w.heap.size p (st i).1 (st i).2 ∧ (Txt.runes t).drop i = Txt.rs t f pos ∧ t.size ≤ pos + f ∧ pos ≤ t.size ∧ i ≤ (Txt.runes t).length) (fun wr => t.size - wr.iterPos W.heap.size)
  case atStart =>
    exact ⟨0, t.size, 0, World.iter_heap W t 0, ((Below.refl _ W).alloc (Nat.le_refl _) _).mono hNW, HS.out.next ((Below.refl _ W).alloc (Nat.le_refl _) _), HRL.out, by omega, by omega, by omega⟩
  case round =>
    obtain ⟨pos, f, i, hit, hbw, hSi, hdr, hf, hps, hil⟩ := hrel
    have HDR : Hid ((Txt.runes t).drop i = Txt.rs t f pos) := hdr
    have HSI : Hid (ShAt 64 wr M w.heap.size p (st i).1 (st i).2) := hSi
    have HBW : Hid (Below w.heap.size W wr) := hbw
    clear hdr hSi hbw
    by_cases hp : pos < t.size
    · have hnx : ∀ ty, (Instr.next (.pointer (some ⟨W.heap.size, 0, none⟩)) true ty).run Tryz.prog wr = _ := fun ty => Lib.run_next_any_at wr W.heap.size t pos ty hit hp
      have hwd := Txt.width_pos t pos hp
      have hfit := Txt.decode_fits t pos hp
      obtain ⟨f, rfl⟩ : ∃ g, f = g + 1 := ⟨f - 1, by omega⟩
      have HR : Hid (Txt.rs t (f + 1) pos = (((Utf8.decode t pos).1 : Int), (Utf8.decode t pos).2) :: Txt.rs t f (pos + (Utf8.decode t pos).2)) := Txt.rs_step t f pos hp
      have hlt : i < (Txt.runes t).length := by
        have h := HDR.out
        rw [HR.out] at h
        have h2 := congrArg List.length h
        rw [List.length_drop, List.length_cons] at h2
        omega
      have hget : ((Txt.runes t).getD i (0, 0)) = (((Utf8.decode t pos).1 : Int), (Utf8.decode t pos).2) := by
        have h := HDR.out
        rw [HR.out, List.drop_eq_getElem_cons hlt] at h
        injection h with h _
        simp [List.getD, hlt, h]
      have hdr2 : (Txt.runes t).drop (i + 1) = Txt.rs t f (pos + (Utf8.decode t pos).2) := by
        have h := HDR.out
        rw [HR.out, List.drop_eq_getElem_cons hlt] at h
        injection h
      have HDR2 : Hid _ := hdr2
      have hbit := Lib.below_iterAt (Below.refl W.heap.size wr) (k := W.heap.size) (Nat.le_refl _) t (pos + (Utf8.decode t pos).2)
      have hit2 := Lib.iterAt_heap wr W.heap.size t pos (pos + (Utf8.decode t pos).2) hit
      have hS2 : ShAt 64 (wr.iterAt W.heap.size t (pos + (Utf8.decode t pos).2)) M w.heap.size p (st i).1 (st i).2 := HSI.out.iter hit hNW (fun j hj => iter_off wr _ j t _ hj)
      have hB2 : Below w.heap.size W (wr.iterAt W.heap.size t (pos + (Utf8.decode t pos).2)) := HBW.out.trans (hbit.mono hNW)
      have HI : Hid (wr.iterPos W.heap.size = pos) := by simp only [Hid, World.iterPos, hit]
      have HP := HST.out i hlt _ p (HB.out.trans hB2) hS2
      rw [hget] at HP
      have HIT2 : Hid _ := hit2
      have HB2 : Hid _ := hB2
      clear hit hS2 hB2 hbit hit2 hget hdr2
      generalize Utf8.decode t pos = d at *
      generalize wr.iterAt W.heap.size t (pos + d.2) = Y at *
      go_wp2_with fail
      refine HP.mono ?_
      rintro e V hran
      have hrn := hran
      obtain ⟨rfl, hSV, hBV, hFV⟩ := hrn
      have HITV : Hid (V.heap[W.heap.size]? = some (.stringIter t (pos + d.2))) := hFV _ _ HIT2.out (other_iter _ _)
      have HSV : Hid _ := hSV
      have HBV : Hid (Below w.heap.size W V) := HB2.out.trans hBV
      clear hran hSV hBV hFV HP
      go_wp2_with fail
      go_roundw
      case rel => exact ⟨pos + d.2, f, i + 1, HITV.out, HBV.out, HSV.out, HDR2.out, by omega, by omega, by omega⟩
      case measure =>
        rw [HI.out]
        simp only [World.iterPos, HITV.out]
        omega
    · have hnx : ∀ ty, (Instr.next (.pointer (some ⟨W.heap.size, 0, none⟩)) true ty).run Tryz.prog wr = _ := fun ty => Lib.run_next_end_at wr W.heap.size t pos ty hit hp
      have hend : i = (Txt.runes t).length := by
        have h := HDR.out
        rw [Txt.rs_end t f pos hp] at h
        have h2 := congrArg List.length h
        rw [List.length_drop, List.length_nil] at h2
        omega
      go_wp2_with fail
      go_end0
      rw [← hend]
      exact ⟨rfl, HSI.out, HBW.out⟩
end Put
end Go.Proofs.YtnkeahfcpbepjaaGreatDoor

/- put.Text in general: what is printed, rune by rune; the screen stays right. -/
namespace Go.Proofs.YtnkeahfcpbepjaaGreatDoor
set_option linter.unusedVariables false
open Go.ChangeShapes Go.WideShapes Go.ChangeAt Go.RowKit
namespace Put
open Grd (C SliceAt CellsAt gridErr z0 nilV flat rowsL RightRow mendL)
open Sty (isSt)
open Txt (wd)
/-- A sheet whose screen is right. -/
structure PJ (n hh : Nat) (s : Scr) (rows : List (List C)) : Prop where
  r : RightS { s with cs := rows.flatten } n hh
  rl : rows.length = hh
  rr : RowsRt n rows
theorem PJ.start {s : Scr} {n hh : Nat} (h : RightS s n hh) : PJ n hh s (rowsL n s.cs hh) := by
  refine ⟨?_, Grd.rowsL_len _ _ _, rowsRt_of h⟩
  rw [h.flatten]
  exact h
theorem PJ.pi {n hh : Nat} {s : Scr} {rows : List (List C)} (h : PJ n hh s rows) : PI n hh s rows := by
  have hk := h.r.looks
  simp only [looksOk, Bool.and_eq_true] at hk
  exact ⟨h.r.w, h.r.h, h.r.n1, h.r.n2, h.r.h1, h.r.h2, h.r.x0, h.r.x1, h.r.y0, h.r.y1, h.r.t0, h.r.t1, h.r.t2, hk.1, h.rl, h.rr, h.r.gl⟩
/-- The cursor elsewhere, another last rune. -/
theorem RightS.at {s : Scr} {n hh : Nat} (h : RightS s n hh) (x y : Int) (late : Bool) (last : Int) (x0 : 0 ≤ x) (x1 : x < n) (y0 : 0 ≤ y) (y1 : y < hh) (hl : lateBad { s with x := x, y := y, late := late, last := last } = false) (ha : last = 0 ∨ wd last ≠ 0) : RightS { s with x := x, y := y, late := late, last := last } n hh :=
  ⟨h.w, h.h, h.n1, h.n2, h.h1, h.h2, h.cl, h.gz, x0, x1, y0, y1, h.kx0, h.kx1, h.ky0, h.ky1, h.t0, h.t1, h.t2, h.t3, hl, h.looks, h.tl, ha, h.ti, h.gl, h.gr⟩
theorem PJ.rows {n hh : Nat} {s : Scr} {rows rows' : List (List C)} (h : PJ n hh s rows) (hl : rows'.length = hh) (hr : RowsRt n rows') (g : List (List C)) (hg : g.length ≤ 50) (hg2 : ∀ row, row ∈ g → gridErr row.length 1 row = 0) : PJ n hh { s with gone := g } rows' :=
  ⟨(right_new h.r g rows' hl hr hg hg2).1, hl, hr⟩
theorem PJ.at {n hh : Nat} {s : Scr} {rows : List (List C)} (h : PJ n hh s rows) (x y : Int) (late : Bool) (last : Int) (x0 : 0 ≤ x) (x1 : x < n) (y0 : 0 ≤ y) (y1 : y < hh) (hl : lateBad { s with x := x, y := y, late := late, last := last } = false) (ha : last = 0 ∨ wd last ≠ 0) : PJ n hh { s with x := x, y := y, late := late, last := last } rows :=
  ⟨h.r.at x y late last x0 x1 y0 y1 hl ha, h.rl, h.rr⟩
theorem late_no (s : Scr) (h : s.late = false) : lateBad s = false := by
  unfold lateBad
  rw [h]
  rfl
theorem PJ.fed {n hh : Nat} {s : Scr} {rows : List (List C)} (h : PJ n hh s rows) : PJ n hh (fedP n s rows).1 (fedP n s rows).2 := by
  have hp := h.pi.fed
  have hi := h.pi
  have n1 := hi.n1
  have y0 := hi.y0
  have y1 := hi.y1
  have t0 := hi.t0
  have t1 := hi.t1
  have t2 := hi.t2
  have rl := hi.rl
  have eh := hi.h
  have hla := h.r.la
  unfold fedP at hp ⊢
  by_cases hq : s.y = s.bot
  · rw [if_pos hq] at hp ⊢
    have hgr : ∀ row, row ∈ (upS { s with x := 0, late := false } rows s.top.toNat).gone → gridErr row.length 1 row = 0 := fun row hrow => by
      unfold upS at hrow
      split at hrow
      · rcases keepG_mem hrow with q | q
        · exact h.r.gr row q
        · have h0 := h.rr 0 (by omega)
          rw [q, h0.1]
          exact roll_one n _ hi.n1 hi.n2 h0.1 h0.2
      · exact h.r.gr row hrow
    have hu := upS_same { s with x := 0, late := false } rows s.top.toNat
    have k := h.rows hp.rl hp.rr _ hp.gl hgr
    have k2 := k.at 0 s.y false s.last (by omega) (by omega) y0 y1 (late_no _ rfl) hla
    dsimp only at k2 ⊢
    rw [hu]
    exact k2
  · rw [if_neg hq]
    unfold feedS
    dsimp only
    split
    · exact h.at 0 (s.y + 1) false s.last (by omega) (by omega) (by omega) (by omega) (late_no _ rfl) hla
    · exact h.at 0 s.y false s.last (by omega) (by omega) y0 y1 (late_no _ rfl) hla
theorem PJ.turn {n hh : Nat} {s : Scr} {rows : List (List C)} (h : PJ n hh s rows) (r : Int) : PJ n hh (turnP n s rows r).1 (turnP n s rows r).2 := by
  unfold turnP
  split
  · exact h.fed
  · exact h
theorem fedP_late (n : Nat) (s : Scr) (rows : List (List C)) : (fedP n s rows).1.late = false := by
  unfold fedP
  split
  · dsimp only
    rw [upS_same]
  · unfold feedS
    dsimp only
    split <;> rfl
theorem turn_late (n : Nat) (s : Scr) (rows : List (List C)) (r : Int) : (turnP n s rows r).1.late = false := by
  unfold turnP
  by_cases hb : brkB s (wd r) = true
  · rw [if_pos hb]
    exact fedP_late n s rows
  · rw [if_neg hb]
    have h2 : brkB s (wd r) = false := by simpa using hb
    unfold brkB at h2
    simp only [Bool.or_eq_false_iff] at h2
    exact h2.1
theorem late_adv {s1 : Scr} {x : Int} {r : Int} (e : x = s1.w - 1) : lateBad { s1 with x := x, late := hasB s1.modes 4, last := r } = false := by
  unfold lateBad
  dsimp only
  cases hb : hasB s1.modes 4 with
  | false => rfl
  | true =>
    have h4 : bits .and .i64 s1.modes 4 = 4 := by simpa [hasB] using hb
    rw [h4]
    simp [e]
theorem PJ.print {n hh : Nat} {s : Scr} {rows : List (List C)} (h0 : PJ n hh s rows) (r : Int) : PJ n hh (prnP n s rows r).1 (prnP n s rows r).2 := by
  have hp := h0.pi.print r
  unfold prnP at hp ⊢
  by_cases hsk : wd r = 0 ∨ s.w < wd r
  · rw [if_pos hsk]
    exact h0
  · rw [if_neg hsk] at hp ⊢
    have h := h0.turn r
    have hlt := turn_late n s rows r
    generalize turnP n s rows r = t at *
    obtain ⟨s1, rows1⟩ := t
    dsimp only at h hlt hp ⊢
    by_cases hft : fitsB s1 (wd r) = false
    · rw [if_pos hft]
      exact h
    · rw [if_neg hft] at hp ⊢
      have hf : fitsB s1 (wd r) = true := by simpa using hft
      have hf' : wd r ≤ s1.w - s1.x := by simpa [fitsB] using hf
      have hw0 : wd r ≠ 0 := fun e => hsk (.inl e)
      have hk := Txt.wd_range r
      have n1 := h.pi.n1
      have x0 := h.pi.x0
      have ew := h.pi.w
      have k := h.rows hp.rl hp.rr s1.gone h.r.gl h.r.gr
      dsimp only at k ⊢
      by_cases hq : s1.x + wd r = s1.w
      · have ea : advS s1 (wd r) = { s1 with x := s1.w - 1, late := hasB s1.modes 4 } := by unfold advS; rw [if_pos hq]
        rw [ea]
        exact k.at (s1.w - 1) s1.y (hasB s1.modes 4) r (by omega) (by omega) h.pi.y0 h.pi.y1 (late_adv (s1 := s1) rfl) (.inr hw0)
      · have ea : advS s1 (wd r) = { s1 with x := s1.x + wd r } := by unfold advS; rw [if_neg hq]
        rw [ea]
        exact k.at (s1.x + wd r) s1.y s1.late r (by omega) (by omega) h.pi.y0 h.pi.y1 (late_no _ hlt) (.inr hw0)
/-- What printing leaves as it is. -/
def Held (a b : Scr) : Prop := a.w = b.w ∧ a.h = b.h ∧ a.sf = b.sf ∧ a.sb = b.sb ∧ a.sx = b.sx ∧ a.top = b.top ∧ a.bot = b.bot ∧ a.modes = b.modes ∧ a.tabs = b.tabs ∧ a.kx = b.kx ∧ a.ky = b.ky ∧ a.kf = b.kf ∧ a.kb = b.kb ∧ a.kbits = b.kbits ∧ a.km = b.km ∧ a.title = b.title
theorem Held.refl (a : Scr) : Held a a := ⟨rfl, rfl, rfl, rfl, rfl, rfl, rfl, rfl, rfl, rfl, rfl, rfl, rfl, rfl, rfl, rfl⟩
theorem Held.trans {a b c : Scr} (h : Held a b) (k : Held b c) : Held a c := by
  obtain ⟨h1, h2, h3, h4, h5, h6, h7, h8, h9, h10, h11, h12, h13, h14, h15, h16⟩ := h
  obtain ⟨k1, k2, k3, k4, k5, k6, k7, k8, k9, k10, k11, k12, k13, k14, k15, k16⟩ := k
  exact ⟨h1.trans k1, h2.trans k2, h3.trans k3, h4.trans k4, h5.trans k5, h6.trans k6, h7.trans k7, h8.trans k8, h9.trans k9, h10.trans k10, h11.trans k11, h12.trans k12, h13.trans k13, h14.trans k14, h15.trans k15, h16.trans k16⟩
theorem turn_held (n : Nat) (s : Scr) (rows : List (List C)) (r : Int) : Held (turnP n s rows r).1 s := by
  unfold turnP
  split
  · unfold fedP
    split
    · dsimp only
      rw [upS_same]
      exact Held.refl s
    · unfold feedS
      dsimp only
      split
      · exact Held.refl s
      · exact Held.refl s
  · exact Held.refl s
theorem prnP_held (n : Nat) (s : Scr) (rows : List (List C)) (r : Int) : Held (prnP n s rows r).1 s := by
  have h := turn_held n s rows r
  unfold prnP
  split
  · exact Held.refl s
  · split
    · exact h
    · refine Held.trans ?_ h
      generalize (turnP n s rows r).1 = s1
      unfold advS
      dsimp only
      split
      · exact Held.refl s1
      · exact Held.refl s1
/-- What is printed of a text, so many runes of it. -/
def stP (n : Nat) (t : ByteArray) (s : Scr) (rows : List (List C)) : Nat → Scr × List (List C)
  | 0 => (s, rows)
  | i + 1 => prnP n (stP n t s rows i).1 (stP n t s rows i).2 ((Txt.runes t).getD i (0, 0)).1
theorem PJ.text {n hh : Nat} {s : Scr} {rows : List (List C)} (h : PJ n hh s rows) (t : ByteArray) : ∀ i, PJ n hh (stP n t s rows i).1 (stP n t s rows i).2
  | 0 => h
  | i + 1 => (PJ.text h t i).print _
theorem stP_held (n : Nat) (t : ByteArray) (s : Scr) (rows : List (List C)) : ∀ i, Held (stP n t s rows i).1 s
  | 0 => Held.refl s
  | i + 1 => (prnP_held n _ _ _).trans (stP_held n t s rows i)
theorem text_does {n hh : Nat} {s : Scr} {rows : List (List C)} (h : PJ n hh s rows) (t : ByteArray) (B M : Nat) (w : World) (hT : Txt.Tab w) (hB : w.cell? ⟨B, 0, none⟩ = some (.string t)) :
    Does 152 #[.pointer (some ⟨B, 0, none⟩)] M w s (stP n t s rows (Txt.runes t).length).1 rows (stP n t s rows (Txt.runes t).length).2 :=
  text1_does t B M w (stP n t s rows) hB fun i _ X p hX hS => print_any (PJ.text h t i).pi _ X M w.heap.size p (Grd.Tab.next hT hX) hT.pos hS
theorem plain_textT : Plain 152 := by
  intro args W
  kernel_rfl
/-- Text, on a right screen. -/
theorem ptext_any {w0 w : World} {s : Scr} {cv tv gv : Value} {n hh : Nat} (h : Met w0 w s cv tv gv) (hR : RightS s n hh) (t : ByteArray) (ht : t.size ≤ 4000) :
    Calls Tryz.prog 117 #[.agg (scrA s cv tv gv), .string t] w (Made w0 w { (stP n t s (rowsL n s.cs hh) (Txt.runes t).length).1 with cs := (stP n t s (rowsL n s.cs hh) (Txt.runes t).length).2.flatten } 0) ∧ RightS { (stP n t s (rowsL n s.cs hh) (Txt.runes t).length).1 with cs := (stP n t s (rowsL n s.cs hh) (Txt.runes t).length).2.flatten } n hh := by
  have hj := PJ.start hR
  have he := hj.text t (Txt.runes t).length
  refine ⟨?_, he.r⟩
  have hz := rightErr hR
  have key := putText_any s { (stP n t s (rowsL n s.cs hh) (Txt.runes t).length).1 with cs := (stP n t s (rowsL n s.cs hh) (Txt.runes t).length).2.flatten } cv tv gv t ht w0 w h.t h.v h.b h.f
  rw [hz] at key
  refine key fun W B hW hB => ?_
  exact change_good n hh s _ _ cv tv gv _ plain_textT _ w0 W h.v (h.b.trans (hW.mono h.b.size)) h.f hR.w hR.h hR.gz (fun w1 hw1 => text_does hj t B _ w1 (Grd.Tab.next (Grd.Tab.next h.t hW) hw1) (cell_stay hw1 hB)) (rowsOk hR _ _ he.rl (fun i hi => (he.rr i hi).1) (by have := he.r.gl; show (stP n t s (rowsL n s.cs hh) (Txt.runes t).length).1.gone.length ≤ 51; exact Nat.le_succ_of_le this) (fun i hi => by have := he.r.gone_le i hi; exact Nat.le_trans this (by omega))) _ rfl
end Put
end Go.Proofs.YtnkeahfcpbepjaaGreatDoor
