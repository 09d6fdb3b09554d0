/- put.New. -/
import Derived.Test.YthokeflechajlaaDoorPartH
import Derived.Test.YthokeflechajlaaDoorPartE
import Derived.BigRegion
import Derived.Deep.Cut
import Derived.Deep.CutRange
import Derived.Test.YthokeflechajlaaDoorPartL
import Derived.Maps.AppendAt
import Derived.Test.YthokeflechajlaaDoorPartG
import Derived.Test.YthokeflechajlaaDoorPartJ
namespace Go.Proofs.YthokeflechajlaaDoor
open Go.ChangeShapes Go.WideShapes Go.ChangeAt Go.RowKit
namespace Put
open Grd (C SliceAt CellsAt gridErr z0 nilV flat rowsL OwnG isSize)
/-- The tabs of a new screen. -/
def newTabs (n : Nat) : List Bool := (List.range n).map fun x => decide (0 < x ∧ x % 8 = 0)
/-- A new screen. -/
def newScr (n hh : Nat) : Scr := ⟨n, hh, List.replicate (n * hh) (32, 0, 0, 0), 0, 0, false, 0, 0, 0, 0, (hh : Int) - 1, 4, newTabs n, 0, 0, 0, 0, 0, 4, 0, ⟨#[]⟩, []⟩
def preScr (a b y : Int) : Scr := ⟨a, b, [], 0, 0, false, 0, 0, 0, 0, y, 4, [], 0, 0, 0, 0, 0, 4, 0, ⟨#[]⟩, []⟩
def IsGridV (v : Value) : Prop := ∃ a b q l c, v = .agg #[.int .i64 a, .int .i64 b, .slice q l c]
theorem isGridV (a b : Int) (q : Option Addr) (l c : Nat) : IsGridV (.agg #[.int .i64 a, .int .i64 b, .slice q l c]) := ⟨a, b, q, l, c, rfl⟩
def IsIntV (v : Value) : Prop := ∃ a, v = .int .i64 a
theorem isIntV (a : Int) : IsIntV (.int .i64 a) := ⟨a, rfl⟩
def IsKeptV (v : Value) : Prop := v = .agg #[.int .i64 0, .int .i64 0, .int .i64 0, .int .i64 0, .int .i64 0, .int .i64 4]
theorem isKeptV : IsKeptV (.agg #[.int .i64 0, .int .i64 0, .int .i64 0, .int .i64 0, .int .i64 0, .int .i64 4]) := rfl
def newArr (x y u : Value) : Array Value := #[(aggOf x).getD 0 undef, (aggOf x).getD 1 undef, (aggOf x).getD 2 undef, .int .i64 0, .int .i64 0, .bool false, .int .i64 0, .int .i64 0, .int .i64 0, .int .i64 0, y, .int .i64 4, u, .int .i64 0, .int .i64 0, .int .i64 0, .int .i64 0, .int .i64 0, .int .i64 4, .int .i32 0, .string ⟨#[]⟩, .slice none 0 0]
theorem newArr_scr (a b y : Int) (cv tv : Value) : newArr (.agg #[.int .i64 a, .int .i64 b, cv]) (.int .i64 y) tv = scrA (preScr a b y) cv tv (.slice none 0 0) := rfl
theorem build_new_run (W : World) (a b y : Int) (q : Option Addr) (l c : Nat) (q' : Option Addr) (l' c' : Nat) : (Instr.build 32 #[(0, .agg #[.int .i64 a, .int .i64 b, .slice q l c]), (6, .int .i64 y), (7, .int .i64 4), (9, .agg #[.int .i64 0, .int .i64 0, .int .i64 0, .int .i64 0, .int .i64 0, .int .i64 4]), (8, .slice q' l' c')]).run Tryd.prog W = .ok (.agg (scrA (preScr a b y) (.slice q l c) (.slice q' l' c') (.slice none 0 0))) W := by kernel_rfl
theorem build_new (a : Act) (dst : Option Tmp) (x y z u : Operand) (ty : TypeId) (pos : String) (after : Array Edge) (guard : Option (Nat × Bool)) (W : World) (hx : IsGridV (a.eval x)) (hy : IsIntV (a.eval y)) (hz : IsKeptV (a.eval z)) (hu : IsSliceV (a.eval u)) :
    (execOp a.eval { dst, op := .build 32 #[(0, x), (6, y), (7, Operand.const (.int .i64 4)), (9, z), (8, u)], type := ty, pos, after, guard }).run Tryd.prog W = .ok (.value (.agg (newArr (a.eval x) (a.eval y) (a.eval u)))) W := by
  obtain ⟨a1, b1, q, l, c, hx⟩ := hx
  obtain ⟨y1, hy⟩ := hy
  unfold IsKeptV at hz
  obtain ⟨q', l', c', hu⟩ := hu
  have e4 : a.eval (Operand.const (.int .i64 4)) = .int .i64 4 := rfl
  unfold execOp
  simp only [List.map_toArray, List.map_cons, List.map_nil, hx, hy, hz, hu, e4, newArr_scr, Sem.run_bind, build_new_run, Sem.run_pure, Result.andThen_ok]
/-- The tabs that are set up to x. -/
def tabsL (n x : Nat) : List Bool := (List.range n).map fun j => decide (0 < j ∧ j % 8 = 0 ∧ j < x)
def tabsA (n x : Nat) : Array Value := ((tabsL n x).map Value.bool).toArray
theorem tabsL_all (n x : Nat) (h : n ≤ x) : tabsL n x = newTabs n := by
  unfold tabsL newTabs
  apply List.map_congr_left
  intro j hj
  rw [List.mem_range] at hj
  rw [decide_eq_decide]
  omega
theorem tabsA_cell {W : World} {T n x : Nat} (h : W.heap[T]? = some (.cells (tabsA n x) 4 (0, 0))) (hx : x < n) : W.cell? ⟨T, x, none⟩ = some (.bool false) := by
  simp [World.cell?, h, tabsA, tabsL, hx]
theorem tabsA_set (n x : Nat) (h8 : x % 8 = 0) (h0 : 0 < x) : (tabsA n x).setIfInBounds x (.bool true) = tabsA n (x + 8) := by
  unfold tabsA tabsL
  apply Array.ext
  · simp
  · intro i h1 h2
    simp only [Array.size_setIfInBounds, List.size_toArray, List.length_map, List.length_range] at h1
    rw [Array.getElem_setIfInBounds (by simpa using h1)]
    by_cases e : x = i
    · subst e
      simp [h8]
      omega
    · have h3 : decide (0 < i ∧ i % 8 = 0 ∧ i < x) = decide (0 < i ∧ i % 8 = 0 ∧ i < x + 8) := by rw [decide_eq_decide]; omega
      simp only [if_neg e, List.getElem_toArray, List.getElem_map, List.getElem_range, h3]
/-- Tabs, none set. -/
def falses (n : Nat) : Array Value := (List.replicate n (Value.bool false)).toArray
theorem tabsA_start (n : Nat) : tabsA n 8 = falses n := by
  unfold tabsA tabsL falses
  apply Array.ext
  · simp
  · intro i h1 h2
    simp
    omega
theorem made_falses (n : Nat) : madeCells (Value.bool false).cells (n * 1) = falses n := by
  unfold madeCells falses
  apply Array.ext
  · simp
  · intro i h1 h2
    have e : i % 1 = 0 := by omega
    simp [Value.cells, e]
theorem makeTabs (n : Nat) (hn : n ≤ 120) (W : World) : (Instr.makeSlice 27 (.int .i64 (n : Int)) (.int .i64 (n : Int))).run Tryd.prog W = .ok (.slice (some ⟨W.heap.size, 0, none⟩) n n) (W.alloc (.cells (falses n) 4)) := by
  obtain ⟨i0, hi, hzz⟩ := Option.map_eq_some_iff.1 info_bool
  simp only [Prod.mk.injEq] at hzz
  obtain ⟨hz0, hz1, hz2⟩ := hzz
  have h := run_makeSlice (P := Tryd.prog) (w := W) 27 4 i0 (.bool false) und_bools hi hz0 .i64 .i64 (n : Int) (n : Int) (by omega) (by omega) (by rw [hz1]; simp; omega) (by rw [hz2]; simp; omega) (by omega)
  rw [h, hz1, Int.toNat_natCast, made_falses]
section
attribute [local go_sem ↓] build_new store_scr
attribute [local go_sem] isGridV isIntV isKeptV isSliceV isScrS newArr_scr ptrBlk_at aggOf_agg
set_option maxHeartbeats 4000000 in
set_option maxRecDepth 100000 in
theorem new_good' (n hh : Nat) (w : World) (hs : isSize n hh = true) : Calls Tryd.prog 19 #[.int .i64 (n : Int), .int .i64 (hh : Int)] w (Made w w (newScr n hh) 0) := by
  have hsz : 1 ≤ (n : Int) ∧ (n : Int) ≤ 120 ∧ 1 ≤ (hh : Int) ∧ (hh : Int) ≤ 60 := by simpa [Grd.isSize] using hs
  obtain ⟨w1, w2, w3, w4⟩ := hsz
  have HN : Hid (∀ W, Calls Tryd.prog 47 #[.int .i64 (n : Int), .int .i64 (hh : Int)] W fun e w' => ∃ v, e = .returned (.tuple #[.agg #[.int .i64 (n : Int), .int .i64 (hh : Int), v], .int .i64 0]) ∧ OwnG w' W.heap.size v (List.replicate (n * hh) (32, 0, 0, 0)) ∧ Below W.heap.size W w') := fun W => by
    have h := Grd.new_good (n : Int) (hh : Int) W hs
    have e : ((n : Int) * (hh : Int)).toNat = n * hh := by rw [← Int.natCast_mul, Int.toNat_natCast]
    rw [e] at h
    exact h
  have hx0 := heap_alloc_new w (.cells #[.int .i64 0, .int .i64 0, .slice none 0 0, .int .i64 0, .int .i64 0, .bool false, .int .i64 0, .int .i64 0, .int .i64 0, .int .i64 0, .int .i64 0, .int .i64 0, .slice none 0 0, .int .i64 0, .int .i64 0, .int .i64 0, .int .i64 0, .int .i64 0, .int .i64 0, .int .i32 0, .string ⟨#[]⟩, .slice none 0 0] 32)
  have kb : Below w.heap.size w (w.alloc (.cells #[.int .i64 0, .int .i64 0, .slice none 0 0, .int .i64 0, .int .i64 0, .bool false, .int .i64 0, .int .i64 0, .int .i64 0, .int .i64 0, .int .i64 0, .int .i64 0, .slice none 0 0, .int .i64 0, .int .i64 0, .int .i64 0, .int .i64 0, .int .i64 0, .int .i64 0, .int .i32 0, .string ⟨#[]⟩, .slice none 0 0] 32)) := (Below.refl _ _).alloc (Nat.le_refl _) _
  have HX0 : Hid _ := hx0
  have HKB : Hid _ := kb
  clear hs hx0 kb
  go_enter Tryd.func19, Tryd.ntmps19
  go_wp2_with fail
  refine (HN.out _).mono ?_
  rintro e W1 ⟨v, rfl, ho, b1⟩
  have HO : Hid (OwnG W1 _ v (List.replicate (n * hh) (32, 0, 0, 0))) := ho
  obtain ⟨g, cap, rest, t, hv, -, -, -, -⟩ := ho
  rw [List.length_replicate] at hv
  subst hv
  go_upto_region 4 with fail
  have hL : n * hh ≤ 7200 := by have := Nat.mul_le_mul (show n ≤ 120 by omega) (show hh ≤ 60 by omega); omega
  generalize hLL : n * hh = L at *
  have HLL : Hid (n * hh = L) := hLL
  clear hLL
  have HX1 : Hid (W1.heap[w.heap.size]? = _) := Grd.carry HX0.out b1
  have hb1 : Below w.heap.size w W1 := HKB.out.trans (b1.mono HKB.out.size)
  have xg := heap_alloc_new W1 (.cells #[.int .i64 (n : Int), .int .i64 (hh : Int), .slice (some ⟨g, 0, none⟩) L cap] 24)
  have bg : Below W1.heap.size W1 (W1.alloc (.cells #[.int .i64 (n : Int), .int .i64 (hh : Int), .slice (some ⟨g, 0, none⟩) L cap] 24)) := (Below.refl _ _).alloc (Nat.le_refl _) _
  obtain ⟨g0, g1, g2, -⟩ := Grd.cells3 xg
  have HX2 : Hid _ := Grd.carry HX1.out bg
  have HBG : Hid _ := bg
  clear HX0 HKB b1 bg
  generalize (W1.alloc (.cells #[.int .i64 (n : Int), .int .i64 (hh : Int), .slice (some ⟨g, 0, none⟩) L cap] 24)) = X at *
  have hwr : IntKind.i64.wrap ((hh : Int) - 1) = (hh : Int) - 1 := by rw [IntKind.wrap_i64]; omega
  have hms := makeTabs n (by omega)
  have p1 : ScrPtr0 ((X.alloc (.cells (falses n) 4)).alloc (.cells #[.int .i64 0, .int .i64 0, .slice none 0 0, .int .i64 0, .int .i64 0, .bool false, .int .i64 0, .int .i64 0, .int .i64 0, .int .i64 0, .int .i64 0, .int .i64 0, .slice none 0 0, .int .i64 0, .int .i64 0, .int .i64 0, .int .i64 0, .int .i64 0, .int .i64 0, .int .i32 0, .string ⟨#[]⟩, .slice none 0 0] 32)).drew (.pointer (some ⟨X.heap.size + 1, 0, none⟩)) := scrPtr0_of (show ((X.alloc (.cells (falses n) 4)).alloc (.cells #[.int .i64 0, .int .i64 0, .slice none 0 0, .int .i64 0, .int .i64 0, .bool false, .int .i64 0, .int .i64 0, .int .i64 0, .int .i64 0, .int .i64 0, .int .i64 0, .slice none 0 0, .int .i64 0, .int .i64 0, .int .i64 0, .int .i64 0, .int .i64 0, .int .i64 0, .int .i32 0, .string ⟨#[]⟩, .slice none 0 0] 32)).heap[X.heap.size + 1]? = _ from heap_alloc2_new X _ _) rfl
  have p2 : ScrPtr0 ((X.alloc (.cells #[.int .i64 0, .int .i64 0, .slice none 0 0, .int .i64 0, .int .i64 0, .bool false, .int .i64 0, .int .i64 0, .int .i64 0, .int .i64 0, .int .i64 0, .int .i64 0, .slice none 0 0, .int .i64 0, .int .i64 0, .int .i64 0, .int .i64 0, .int .i64 0, .int .i64 0, .int .i32 0, .string ⟨#[]⟩, .slice none 0 0] 32)).alloc (.cells (falses n) 4)).drew (.pointer (some ⟨X.heap.size, 0, none⟩)) := scrPtr0_of (show ((X.alloc (.cells #[.int .i64 0, .int .i64 0, .slice none 0 0, .int .i64 0, .int .i64 0, .bool false, .int .i64 0, .int .i64 0, .int .i64 0, .int .i64 0, .int .i64 0, .int .i64 0, .slice none 0 0, .int .i64 0, .int .i64 0, .int .i64 0, .int .i64 0, .int .i64 0, .int .i64 0, .int .i32 0, .string ⟨#[]⟩, .slice none 0 0] 32)).alloc (.cells (falses n) 4)).heap[X.heap.size]? = _ from (Below.heap_alloc _ _ _ (by simp)).trans (heap_alloc_new _ _)) rfl
  have SK : Hid (∀ w', Below X.heap.size X w' → w'.cell? ⟨W1.heap.size, 0, none⟩ = some (.int .i64 (n : Int)) ∧ w'.cell? ⟨W1.heap.size, 1, none⟩ = some (.int .i64 (hh : Int)) ∧ w'.cell? ⟨W1.heap.size, 2, none⟩ = some (.slice (some ⟨g, 0, none⟩) L cap)) := fun w' h => ⟨cell_stay h g0, cell_stay h g1, cell_stay h g2⟩
  have b0 : Below X.heap.size X X.drew := (Below.refl _ _).drew
  have bF : Below X.heap.size X (X.alloc (.cells (falses n) 4)).drew := ((Below.refl _ _).alloc (Nat.le_refl _) _).drew
  have bZ : Below X.heap.size X (X.alloc (.cells #[.int .i64 0, .int .i64 0, .slice none 0 0, .int .i64 0, .int .i64 0, .bool false, .int .i64 0, .int .i64 0, .int .i64 0, .int .i64 0, .int .i64 0, .int .i64 0, .slice none 0 0, .int .i64 0, .int .i64 0, .int .i64 0, .int .i64 0, .int .i64 0, .int .i64 0, .int .i32 0, .string ⟨#[]⟩, .slice none 0 0] 32)).drew := ((Below.refl _ _).alloc (Nat.le_refl _) _).drew
  have bFZ : Below X.heap.size X ((X.alloc (.cells (falses n) 4)).alloc (.cells #[.int .i64 0, .int .i64 0, .slice none 0 0, .int .i64 0, .int .i64 0, .bool false, .int .i64 0, .int .i64 0, .int .i64 0, .int .i64 0, .int .i64 0, .int .i64 0, .slice none 0 0, .int .i64 0, .int .i64 0, .int .i64 0, .int .i64 0, .int .i64 0, .int .i64 0, .int .i32 0, .string ⟨#[]⟩, .slice none 0 0] 32)).drew := (((Below.refl _ _).alloc (Nat.le_refl _) _).alloc (by simp) _).drew
  have bZF : Below X.heap.size X ((X.alloc (.cells #[.int .i64 0, .int .i64 0, .slice none 0 0, .int .i64 0, .int .i64 0, .bool false, .int .i64 0, .int .i64 0, .int .i64 0, .int .i64 0, .int .i64 0, .int .i64 0, .slice none 0 0, .int .i64 0, .int .i64 0, .int .i64 0, .int .i64 0, .int .i64 0, .int .i64 0, .int .i32 0, .string ⟨#[]⟩, .slice none 0 0] 32)).alloc (.cells (falses n) 4)).drew := (((Below.refl _ _).alloc (Nat.le_refl _) _).alloc (by simp) _).drew
  go_cut [8] from 20 to 26 (fun c wx => ∃ R T, c = .pointer (some ⟨R, 0, none⟩) ∧ X.heap.size ≤ R ∧ X.heap.size ≤ T ∧ R ≠ T ∧ wx.heap[R]? = some (.cells (scrA (preScr (n : Int) (hh : Int) ((hh : Int) - 1)) (.slice (some ⟨g, 0, none⟩) L cap) (.slice (some ⟨T, 0, none⟩) n n) (.slice none 0 0)) 32 (0, 0)) ∧ wx.heap[T]? = some (.cells (falses n) 4 (0, 0)) ∧ Below X.heap.size X wx)
  case first =>
    go_region_held3 (fun w' => w'.cell? ⟨W1.heap.size, 0, none⟩ = some (.int .i64 (n : Int)) ∧ w'.cell? ⟨W1.heap.size, 1, none⟩ = some (.int .i64 (hh : Int)) ∧ w'.cell? ⟨W1.heap.size, 2, none⟩ = some (.slice (some ⟨g, 0, none⟩) L cap))
      (first | exact SK.out _ b0 | exact SK.out _ bF | exact SK.out _ bZ | exact SK.out _ bFZ | exact SK.out _ bZF | exact SK.out _ (below_setRow bFZ (Nat.le_succ _) _) | exact SK.out _ (below_setRow bZF (Nat.le_refl _) _)) (fail)
    all_goals go_wp2_with fail
    all_goals go_meet
    all_goals first
      | exact ⟨X.heap.size + 1, X.heap.size, rfl, Nat.le_succ _, Nat.le_refl _, Nat.succ_ne_self _, setRow_heap _ _ _ _ _ _ (show ((X.alloc (.cells (falses n) 4)).alloc (.cells #[.int .i64 0, .int .i64 0, .slice none 0 0, .int .i64 0, .int .i64 0, .bool false, .int .i64 0, .int .i64 0, .int .i64 0, .int .i64 0, .int .i64 0, .int .i64 0, .slice none 0 0, .int .i64 0, .int .i64 0, .int .i64 0, .int .i64 0, .int .i64 0, .int .i64 0, .int .i32 0, .string ⟨#[]⟩, .slice none 0 0] 32)).heap[X.heap.size + 1]? = _ from heap_alloc2_new X _ _), (setRow_other _ _ _ _ (Nat.ne_of_lt (Nat.lt_succ_self _))).trans (show ((X.alloc (.cells (falses n) 4)).alloc (.cells #[.int .i64 0, .int .i64 0, .slice none 0 0, .int .i64 0, .int .i64 0, .bool false, .int .i64 0, .int .i64 0, .int .i64 0, .int .i64 0, .int .i64 0, .int .i64 0, .slice none 0 0, .int .i64 0, .int .i64 0, .int .i64 0, .int .i64 0, .int .i64 0, .int .i64 0, .int .i32 0, .string ⟨#[]⟩, .slice none 0 0] 32)).heap[X.heap.size]? = _ from (Below.heap_alloc _ _ _ (by simp)).trans (heap_alloc_new _ _)), below_setRow bFZ (Nat.le_succ _) _⟩
      | exact ⟨X.heap.size, X.heap.size + 1, rfl, Nat.le_refl _, Nat.le_succ _, Nat.ne_of_lt (Nat.lt_succ_self _), setRow_heap _ _ _ _ _ _ (show ((X.alloc (.cells #[.int .i64 0, .int .i64 0, .slice none 0 0, .int .i64 0, .int .i64 0, .bool false, .int .i64 0, .int .i64 0, .int .i64 0, .int .i64 0, .int .i64 0, .int .i64 0, .slice none 0 0, .int .i64 0, .int .i64 0, .int .i64 0, .int .i64 0, .int .i64 0, .int .i64 0, .int .i32 0, .string ⟨#[]⟩, .slice none 0 0] 32)).alloc (.cells (falses n) 4)).heap[X.heap.size]? = _ from (Below.heap_alloc _ _ _ (by simp)).trans (heap_alloc_new _ _)), (setRow_other _ _ _ _ (Nat.succ_ne_self _)).trans (show ((X.alloc (.cells #[.int .i64 0, .int .i64 0, .slice none 0 0, .int .i64 0, .int .i64 0, .bool false, .int .i64 0, .int .i64 0, .int .i64 0, .int .i64 0, .int .i64 0, .int .i64 0, .slice none 0 0, .int .i64 0, .int .i64 0, .int .i64 0, .int .i64 0, .int .i64 0, .int .i64 0, .int .i32 0, .string ⟨#[]⟩, .slice none 0 0] 32)).alloc (.cells (falses n) 4)).heap[X.heap.size + 1]? = _ from heap_alloc2_new X _ _), below_setRow bZF (Nat.le_refl _) _⟩
  case rest =>
    obtain ⟨R, T, rfl, hR, hTT, hne, hxR, hxT, hbx⟩ := hcut
    have HXR : Hid _ := hxR
    have HXT : Hid (wc.heap[T]? = some (.cells (falses n) 4 (0, 0))) := hxT
    have HBX : Hid (Below X.heap.size X wc) := hbx
    clear p1 p2 b0 bF bZ bFZ bZF SK g0 g1 g2 hxR hxT hbx hms
    go_wp2_with fail
    go_loopg [9] (n + 8) (fun q i wr => ∃ x : Nat, i = .int .i64 (x : Int) ∧ x % 8 = 0 ∧ 8 ≤ x ∧ x ≤ n + 8 ∧ n + 8 - x ≤ q ∧ wr.heap[R]? = some (.cells (scrA (preScr (n : Int) (hh : Int) ((hh : Int) - 1)) (.slice (some ⟨g, 0, none⟩) L cap) (.slice (some ⟨T, 0, none⟩) n n) (.slice none 0 0)) 32 (0, 0)) ∧ wr.heap[T]? = some (.cells (tabsA n x) 4 (0, 0)) ∧ Below X.heap.size X wr)
    case atStart => exact ⟨8, rfl, by omega, by omega, by omega, by omega, HXR.out, by rw [tabsA_start]; exact HXT.out, HBX.out⟩
    case round =>
      obtain ⟨x, rfl, hx8, hx9, hx10, hq, hyR, hyT, hby⟩ := hrel
      have HYR : Hid (wr.heap[R]? = _) := hyR
      have HYT : Hid (wr.heap[T]? = some (.cells (tabsA n x) 4 (0, 0))) := hyT
      have HBY : Hid (Below X.heap.size X wr) := hby
      clear HXR HXT HBX
      by_cases hlt : x < n
      · have lt1 : ((x : Int) < (n : Int)) := by omega
        have c12 := (scr_cells hyR).2.1.2.1
        have d1 := tabsA_cell hyT hlt
        have f1 := frozen_cells hyT x
        clear hyR hyT hby
        go_wp2_with fail
        go_roundg (n + 8 - (x + 8))
        case measure => omega
        case rel => exact ⟨x + 8, by go_num, by omega, by omega, by omega, by omega, (store_off hne).trans HYR.out, store_at HYT.out (tabsA_set n x hx8 (by omega)), HBY.out.setCell hTT _⟩
      · have lt1 : ¬ ((x : Int) < (n : Int)) := by omega
        clear hyR hyT hby
        have hyZ : wr.heap[w.heap.size]? = _ := Grd.carry HX2.out HBY.out
        have HYZ : Hid _ := hyZ
        clear hyZ
        go_wp2_with (first
          | (refine wpList_load_row rfl 32 (.tmp 8) rfl R rfl _ _ _ _ HYR.out Tryd.underlying32 rfl (by kernel_rfl) ?_)
          | (refine wpList_store_row rfl 32 (.tmp 4) _ rfl w.heap.size (scrA (preScr (n : Int) (hh : Int) ((hh : Int) - 1)) (.slice (some ⟨g, 0, none⟩) L cap) (.slice (some ⟨T, 0, none⟩) n n) (.slice none 0 0)) rfl rfl _ _ HYZ.out (by kernel_rfl) rfl (scr_one _ _ _ _ _ _ _ _ _ _) ?_))
        (try simp only [Exit.inBlock, Exit.then])
        refine bodyPost_ret (v := .tuple #[.agg (scrA (preScr (n : Int) (hh : Int) ((hh : Int) - 1)) (.slice (some ⟨g, 0, none⟩) L cap) (.slice (some ⟨T, 0, none⟩) n n) (.slice none 0 0)), .int .i64 0]) ?_ rfl ⟨.slice (some ⟨g, 0, none⟩) L cap, .slice (some ⟨T, 0, none⟩) n n, .slice none 0 0, rfl, ?_, ?_⟩
        · exact Grd.results_row_tmp rfl _ _ w.heap.size _ _ _ _ rfl (setRow_heap _ _ _ _ _ _ HYZ.out) Tryd.underlying32 rfl (by kernel_rfl) _ rfl
        · have hw1 := hb1.size
          have hw2 := HBG.out.size
          have hw3 := heap_lt HX2.out
          have hbA : Below W1.heap.size W1 wr := HBG.out.trans (HBY.out.mono hw2)
          obtain ⟨g', cap', rest', t', hv', hg', hl', hm', hh'⟩ := HO.out
          injection hv' with hv1 hv2 hv3
          injection hv1 with hv1
          injection hv1 with hv1
          subst hv1 hv3
          have hg2 : w.heap.size < g := by simp at hg'; omega
          refine ⟨.inr ⟨g, cap, rest', t', ?_, by omega, ?_, hm', ?_⟩, ?_, [], World.ownsRow_nil _ _ _ _, rfl, fun i hi => absurd hi (by simp [newScr])⟩
          · show _ = Value.slice _ (List.replicate (n * hh) _).length _
            rw [List.length_replicate, HLL.out]
          · show (List.replicate (n * hh) _).length ≤ _
            rw [HLL.out]
            exact hl'
          · show _ = some (Obj.cells (flat (List.replicate (n * hh) _) ++ rest').toArray _ _)
            rw [HLL.out, setRow_other _ _ _ _ (by omega)]
            exact Grd.carry hh' hbA
          · show (wr.setRow _ _).ownsRow _ _ _ _ (newTabs n).length ((newTabs n).map Value.bool)
            have e := tabsL_all n x (by omega)
            have hlen : (newTabs n).length = n := by simp [newTabs]
            rw [hlen]
            refine ⟨by rw [List.length_map, hlen, Nat.mul_one], .inr ⟨T, n, tabsA n x, rfl, by omega, ?_, Nat.le_refl _, by unfold maxLen; omega, by simp [tabsA, tabsL], ?_⟩⟩
            · rw [setRow_other _ _ _ _ (by omega)]
              exact HYT.out
            · unfold tabsA
              rw [e]
              show List.take (n * 1) ((newTabs n).map Value.bool) = _
              rw [List.take_of_length_le (by rw [List.length_map, hlen, Nat.mul_one]; exact Nat.le_refl _)]
        · exact below_setRow (hb1.trans ((HBG.out.trans (HBY.out.mono HBG.out.size)).mono hb1.size)) (Nat.le_refl _) _
end
end Put
end Go.Proofs.YthokeflechajlaaDoor

/- One rune, where nothing rolls and nothing is moved to make room. -/
namespace Go.Proofs.YthokeflechajlaaDoor
open Go.ChangeShapes Go.WideShapes Go.ChangeAt Go.RowKit
namespace Put
open Grd (C SliceAt CellsAt gridErr z0 nilV flat rowsL)
open Sty (isSt)
open Txt (wd)
/-- Where a rune of k cells begins. -/
def startS (s : Scr) (k : Int) : Scr := if brkB s k then feedS { s with x := 0 } else s
def printP (q : Scr × List (List C)) (r : Int) : Scr × List (List C) :=
  ({ advS (startS q.1 (wd r)) (wd r) with last := r }, q.2.set (startS q.1 (wd r)).y.toNat (putRune ((startS q.1 (wd r)).sf, (startS q.1 (wd r)).sb, (startS q.1 (wd r)).sx) (q.2.getD (startS q.1 (wd r)).y.toNat []) (startS q.1 (wd r)).x.toNat r))
def stepOk (q : Scr × List (List C)) (r : Int) : Bool :=
  decide (wd r ≠ 0 ∧ wd r ≤ q.1.w ∧ 0 ≤ q.1.x ∧ q.1.x ≤ 120 ∧ 1 ≤ q.1.w ∧ q.1.w ≤ 120 ∧ 1 ≤ q.1.h ∧ q.1.h ≤ 60 ∧ 0 ≤ q.1.y ∧ q.1.y ≤ 60 ∧ (brkB q.1 (wd r) = true → q.1.y ≠ q.1.bot)) &&
  decide ((startS q.1 (wd r)).w = q.1.w ∧ 0 ≤ (startS q.1 (wd r)).x ∧ (startS q.1 (wd r)).x < q.1.w ∧ 0 ≤ (startS q.1 (wd r)).y ∧ (startS q.1 (wd r)).y.toNat < q.2.length ∧ fitsB (startS q.1 (wd r)) (wd r) = true ∧ hasB (startS q.1 (wd r)).modes 1 = false ∧
    ((q.2.getD (startS q.1 (wd r)).y.toNat []).length : Int) = q.1.w ∧ gridErr q.1.w 1 (q.2.getD (startS q.1 (wd r)).y.toNat []) = 0 ∧ isSt ((startS q.1 (wd r)).sf, (startS q.1 (wd r)).sb, (startS q.1 (wd r)).sx) = true)
theorem print_step (W : World) (M N p : Nat) (q : Scr × List (List C)) (r : Int) (hT : Txt.Tab W) (hN : ∀ X, Below N W X → Txt.Tab X) (hS : ShAt 63 W M N p q.1 q.2) (hok : stepOk q r = true) :
    Calls Tryd.prog 39 #[.pointer (some ⟨p, 0, none⟩), .int .i32 r] W (Ran W M N p (printP q r).1 (printP q r).2) := by
  unfold stepOk at hok
  rw [Bool.and_eq_true, decide_eq_true_eq, decide_eq_true_eq] at hok
  obtain ⟨⟨a1, a2, a3, a4, a5, a6, a7, a8, a9, a10, a11⟩, b1, b2, b3, b4, b5, b6, b7, b8, b9, b10⟩ := hok
  unfold printP
  obtain ⟨s1, hs1⟩ : ∃ s1, s1 = startS q.1 (wd r) := ⟨_, rfl⟩
  rw [← hs1] at b1 b2 b3 b4 b5 b6 b7 b8 b9 b10 ⊢
  refine print_main W M N p q.1 s1 q.2 q.2 q.2 _ r hT hS a1 a2 a3 a4 a5 a6 ⟨?_, ?_, b1, b2, by omega⟩ b6 (fun h => by rw [b7] at h; cases h) (fun _ => rfl) ?_
  · intro hb X _ hX
    have h := feed_plain X M N p { q.1 with x := 0 } q.2 hX a9 a10 a7 a8 (a11 hb)
    rw [hs1]
    unfold startS
    rw [hb]
    exact h
  · intro hb
    rw [hs1]
    unfold startS
    rw [hb]
    exact ⟨rfl, rfl⟩
  · intro X hX hSX
    exact write_any X M N p s1 q.2 (hN X hX) hSX r q.1.w.toNat s1.x.toNat s1.y.toNat b5 _ rfl (by omega) (by omega) (by omega) (by omega) (by omega) (by rw [Int.toNat_of_nonneg (by omega)]; exact b9) b10 a1 (by
      have h : wd r ≤ s1.w - s1.x := by simpa [fitsB] using b6
      omega)
end Put
end Go.Proofs.YthokeflechajlaaDoor

/- Package sheet: relay, Insert. -/
namespace Go.Proofs.YthokeflechajlaaDoor
open Go.ChangeShapes Go.WideShapes Go.ChangeAt Go.RowKit
namespace Put
open Grd (C SliceAt CellsAt gridErr z0 nilV flat rowsL RowB OwnG mendL)
/-- What a function makes of a row: new cells. -/
def Relays (hf : FuncId) (caps : Array Value) (W : World) (v : Value) (row' : List C) : Prop :=
  ∀ W1, Below W.heap.size W W1 → Calls Tryd.prog hf (#[v] ++ caps) W1 fun e W2 => ∃ g cap rest, e = .returned (.slice (some ⟨g, 0, none⟩) row'.length cap) ∧ W1.heap.size ≤ g ∧ row'.length ≤ cap ∧ cap ≤ 9223372036854775807 ∧ W2.heap[g]? = some (.cells (flat row' ++ rest).toArray 41 (0, 0)) ∧ Below W1.heap.size W1 W2
set_option maxHeartbeats 8000000 in
set_option maxRecDepth 100000 in
theorem relay_any (W : World) (M N p : Nat) (s : Scr) (rows : List (List C)) (cv tv gv rv : Value) (gvs vs : List Value) (hS : ShA 63 W M N p s rows cv tv gv rv gvs vs) (hT : Txt.Tab W) (y : Nat) (hsy : s.y = y) (hy : y < rows.length) (hf : FuncId) (hpl : Plain hf) (caps : Array Value) (row' : List C) (hR : Relays hf caps W (vs.getD y nilV) row') (hAl : Grd.Alike row') (hl : row'.length ≤ 1000000) :
    Calls Tryd.prog 85 #[.pointer (some ⟨p, 0, none⟩), .func (.func hf) #[] caps] W (Ran W M N p s (rows.set y (mendL row'))) := by
  obtain ⟨rb, rc, hrv, hrb, hrc1, hrc2, hvl, hrcell, A, hrA⟩ := own_cells hS.rws (by omega)
  obtain ⟨va, vc, hsh⟩ := (hS.rin.2 y hy).shape
  have hyI : (0 : Int) ≤ (y : Int) := by omega
  have hyI2 : (y : Int) < (rows.length : Int) := by omega
  have d1 := hrcell y hy
  have HW : Hid (ShA 63 W M N p s rows cv tv gv rv gvs vs) := hS
  rw [hsh] at d1 hR
  have HR : Hid (Relays hf caps W (.slice va (rows.getD y []).length vc) row') := hR
  have HRA : Hid (W.heap[rb]? = some (.cells A 22 (0, 0))) := hrA
  have HRV : Hid (rv = .slice (some ⟨rb, 0, none⟩) rows.length rc) := hrv
  have HT : Hid (Txt.Tab W) := hT
  have HAL : Hid (Grd.Alike row') := hAl
  have hml := hS.ml
  have hNW : N ≤ W.heap.size := Nat.le_trans hS.lo (Nat.le_of_lt (heap_lt hS.blk))
  obtain ⟨row, hrow⟩ : ∃ row, row = rows.getD y [] := ⟨_, rfl⟩
  rw [← hrow] at d1 HR
  have SK : Hid (∀ V, Below W.heap.size W V → V.cell? ⟨p, 22, none⟩ = some (.slice (some ⟨rb, 0, none⟩) rows.length rc) ∧ V.cell? ⟨p, 4, none⟩ = some (.int .i64 (y : Int)) ∧ V.cell? ⟨rb, y, none⟩ = some (.slice va row.length vc) ∧ V.frozen? ⟨rb, y, none⟩ = false) := fun V h => by
    have hblk := Grd.carry HW.out.blk h
    obtain ⟨⟨-, -, -, -, c4, -⟩, ⟨-, -, -, -, -, -, -, -, -, -, -, c22⟩, -⟩ := sh_cells hblk
    rw [HRV.out] at c22
    rw [hsy] at c4
    exact ⟨c22, c4, cell_stay h d1, Grd.frozen_of (Grd.carry HRA.out h) _⟩
  unfold Plain at hpl
  have b0 : Below W.heap.size W W.drew := (Below.refl _ _).drew
  have e0 : (fun w' => w'.cell? ⟨p, 22, none⟩ = some (.slice (some ⟨rb, 0, none⟩) rows.length rc) ∧ w'.cell? ⟨p, 4, none⟩ = some (.int .i64 (y : Int)) ∧ w'.cell? ⟨rb, y, none⟩ = some (.slice va row.length vc)) W.drew := ⟨(SK.out _ b0).1, (SK.out _ b0).2.1, (SK.out _ b0).2.2.1⟩
  clear hS hR hrA hrcell hsh hrow hrv d1 hT hAl hsy
  go_enter Tryd.func85, Tryd.ntmps85
  go_upto_region 0 with fail
  go_region_held3 (fun w' => w'.cell? ⟨p, 22, none⟩ = some (.slice (some ⟨rb, 0, none⟩) rows.length rc) ∧ w'.cell? ⟨p, 4, none⟩ = some (.int .i64 (y : Int)) ∧ w'.cell? ⟨rb, y, none⟩ = some (.slice va row.length vc))
    (first | exact e1 | exact e0)
    (first | (refine (HR.out W.drew b0).mono ?_; rintro e V ⟨g, cap, rest, rfl, hg, hcap1, hcap2, hgh, b1⟩; have q1 : Below W.heap.size W V := b0.trans (b1.mono b0.size); have e1 : (fun w' => w'.cell? ⟨p, 22, none⟩ = some (.slice (some ⟨rb, 0, none⟩) rows.length rc) ∧ w'.cell? ⟨p, 4, none⟩ = some (.int .i64 (y : Int)) ∧ w'.cell? ⟨rb, y, none⟩ = some (.slice va row.length vc)) V := ⟨(SK.out _ q1).1, (SK.out _ q1).2.1, (SK.out _ q1).2.2.1⟩))
  have hgW : W.heap.size ≤ g := Nat.le_trans b0.size hg
  have hTV : Txt.Tab V := Grd.Tab.next HT.out q1
  have HMD := Grd.mend_any g cap row' [] rest _ V hgh hl hTV (Nat.lt_of_lt_of_le (Txt.Tab.pos HT.out) hgW) HAL.out
  have HQ1 : Hid (Below W.heap.size W V) := q1
  clear e0 e1 q1 b1 b0 hgh hTV HR HAL
  go_wp2_with fail
  refine HMD.mono ?_
  rintro e V2 ⟨rfl, hg2, ap⟩
  have q2 : Below W.heap.size W V2 := HQ1.out.trans (ap.1.mono hgW)
  obtain ⟨c22, c4, dy, fy⟩ := SK.out _ q2
  have HQ2 : Hid (Below W.heap.size W V2) := q2
  have hri : RowIn V2 M (.slice (some ⟨g, 0, none⟩) row'.length cap) (mendL row') := rowIn_rowB (g := g) ⟨cap, rest, by rw [Grd.mendL_len], by rw [Grd.mendL_len]; exact hcap1, hcap2, hg2⟩
  have HRI : Hid (RowIn V2 M (.slice (some ⟨g, 0, none⟩) row'.length cap) (mendL row')) := hri
  clear hri ap hg2 q2 HMD SK HQ1
  go_upto_region 2 with fail
  go_region
  all_goals go_end0
  all_goals exact ⟨rfl, ⟨_, _, _, _, _, _, ShA.next ((ShA.next HW.out HQ2.out).storeRow HRV.out HRI.out) ((Below.refl _ _).drew)⟩, ((HQ2.out.mono hNW).setCell hrb _).drew, ((Framed.of_below HQ2.out).trans (Framed.store (Grd.carry HRA.out HQ2.out) not_other_rows)).trans (Framed.of_below ((Below.refl _ _).drew))⟩
theorem insR_at (row : List C) (x n : Nat) (bk : Int) (h : x + n ≤ row.length) (i : Nat) (hi : i < row.length) : (insR row x n bk).getD i z0 = if i < x then row.getD i z0 else if i < x + n then (32, 0, bk, 0) else row.getD (i - n) z0 := by
  have e1 : (row.take x).length = x := by rw [List.length_take]; omega
  unfold insR
  by_cases h1 : i < x
  · rw [if_pos h1]
    simp only [List.getD]
    rw [List.getElem?_append_left (by omega), List.getElem?_take_of_lt h1]
  · rw [if_neg h1]
    simp only [List.getD]
    rw [List.getElem?_append_right (by omega), e1]
    by_cases h2 : i < x + n
    · rw [if_pos h2, List.getElem?_append_left (by rw [List.length_replicate]; omega), List.getElem?_replicate, if_pos (by omega)]
      rfl
    · rw [if_neg h2, List.getElem?_append_right (by rw [List.length_replicate]; omega), List.length_replicate, List.getElem?_take_of_lt (by omega), List.getElem?_drop, show x + (i - x - n) = i - n by omega]
theorem ins_meant {row : List C} (hr : Grd.Meant row) (x n : Nat) (bk : Int) (hn : 1 ≤ n) (hx : x + n ≤ row.length) (hs : Sty.isSt (0, bk, 0) = true) : Grd.Meant (insR row x n bk) := fun i hi => by
  rw [insR_len _ _ _ _ hx] at hi
  rw [insR_at _ _ _ _ hx i hi]
  by_cases h1 : i < x
  · rw [if_pos h1]
    refine ⟨(hr i hi).1, (hr i hi).2.1, fun h0 hp hw => ?_⟩
    rw [insR_at _ _ _ _ hx (i - 1) (by omega), if_pos (by omega)] at hw ⊢
    exact (hr i hi).2.2 h0 hp hw
  · rw [if_neg h1]
    by_cases h2 : i < x + n
    · rw [if_pos h2]
      exact ⟨fun _ => by dsimp only; rw [Grd.wd32]; decide, hs, fun h => absurd h (by simp)⟩
    · rw [if_neg h2]
      have hi2 : i - n < row.length := by omega
      refine ⟨(hr _ hi2).1, (hr _ hi2).2.1, fun h0 hp hw => ?_⟩
      rw [insR_at _ _ _ _ hx (i - 1) (by omega), if_neg (by omega)] at hw ⊢
      by_cases h3 : i - 1 < x + n
      · rw [if_pos h3] at hw
        dsimp only at hw
        rw [Grd.wd32] at hw
        exact absurd hw (by decide)
      · rw [if_neg h3] at hw ⊢
        rw [show i - 1 - n = i - n - 1 by omega] at hw ⊢
        exact (hr _ hi2).2.2 h0 (by omega) hw
theorem plain_ins : Plain 86 := by
  intro args W
  kernel_rfl
set_option maxHeartbeats 4000000 in
set_option maxRecDepth 100000 in
theorem insert_any (X : World) (M N p : Nat) (s : Scr) (rows : List (List C)) (hS : ShAt 63 X M N p s rows) (hT : Txt.Tab X) (y x n : Nat) (hsy : s.y = y) (hsx : s.x = x) (hy : y < rows.length) (hn1 : 1 ≤ n) (hxn : x + n ≤ (rows.getD y []).length) (hl : (rows.getD y []).length ≤ 120) (hm : Grd.Meant (rows.getD y [])) (hst : Sty.isSt (0, s.sb, 0) = true) :
    Calls Tryd.prog 63 #[.pointer (some ⟨p, 0, none⟩), .int .i64 (n : Int)] X (Ran X M N p s (rows.set y (mendL (insR (rows.getD y []) x n s.sb)))) := by
  have kb : Below X.heap.size X ((X.alloc (.cells #[.pointer (some ⟨p, 0, none⟩)] 60)).alloc (.cells #[.int .i64 (n : Int)] 3)) := ((Below.refl _ _).alloc (Nat.le_refl _) _).alloc (by simp) _
  have h0 : (X.alloc (.cells #[.pointer (some ⟨p, 0, none⟩)] 60)).heap[X.heap.size]? = some (.cells #[.pointer (some ⟨p, 0, none⟩)] 60 (0, 0)) := heap_alloc_new X _
  have h0 := (Below.heap_alloc (X.alloc (.cells #[.pointer (some ⟨p, 0, none⟩)] 60)) (.cells #[.int .i64 (n : Int)] 3) _ (heap_lt h0)).trans h0
  have h1 : ((X.alloc (.cells #[.pointer (some ⟨p, 0, none⟩)] 60)).alloc (.cells #[.int .i64 (n : Int)] 3)).heap[X.heap.size + 1]? = some (.cells #[.int .i64 (n : Int)] 3 (0, 0)) := by
    have h := heap_alloc_new (X.alloc (.cells #[.pointer (some ⟨p, 0, none⟩)] 60)) (.cells #[.int .i64 (n : Int)] 3)
    have e : (X.alloc (.cells #[.pointer (some ⟨p, 0, none⟩)] 60)).heap.size = X.heap.size + 1 := by simp
    rw [e] at h
    exact h
  have q0 : ((X.alloc (.cells #[.pointer (some ⟨p, 0, none⟩)] 60)).alloc (.cells #[.int .i64 (n : Int)] 3)).cell? ⟨X.heap.size, 0, none⟩ = some (.pointer (some ⟨p, 0, none⟩)) := by
    unfold World.cell?
    rw [h0]
    rfl
  have q1 : ((X.alloc (.cells #[.pointer (some ⟨p, 0, none⟩)] 60)).alloc (.cells #[.int .i64 (n : Int)] 3)).cell? ⟨X.heap.size + 1, 0, none⟩ = some (.int .i64 (n : Int)) := by
    unfold World.cell?
    rw [h1]
    rfl
  obtain ⟨cv, tv, gv, rv, gvs, vs, hA⟩ := hS
  have hA2 := ShA.next hA kb
  have hlen := insR_len (rows.getD y []) x n s.sb hxn
  have HRL := relay_any _ M N p s rows cv tv gv rv gvs vs hA2 (Grd.Tab.next hT kb) y hsy hy 86 plain_ins #[.pointer (some ⟨X.heap.size, 0, none⟩), .pointer (some ⟨X.heap.size + 1, 0, none⟩)] (insR (rows.getD y []) x n s.sb) (fun W1 hW1 => by
    have hri := (ShA.next hA2 hW1).rin.2 y hy
    obtain ⟨⟨-, -, -, c3, -, -, -, c7, -⟩, -, -⟩ := sh_cells (ShA.next hA2 hW1).blk
    rw [hsx] at c3
    rcases hri with ⟨he, -⟩ | ⟨hne, b, o, c, hv, hc1, hc2, hC, -⟩
    · have h5 := congrArg List.length he
      rw [List.length_nil] at h5
      omega
    · rw [hv]
      refine (ins1_any W1 p X.heap.size (X.heap.size + 1) b o c x n s.sb (rows.getD y []) (cell_stay hW1 q0) (cell_stay hW1 q1) c3 c7 hC hc1 hn1 hxn hl).mono ?_
      rintro e W2 ⟨v', rfl, hO, b2⟩
      have hO2 : W2.ownsRow W1.heap.size 41 4 v' (insR (rows.getD y []) x n s.sb).length (flat (insR (rows.getD y []) x n s.sb)) := by rw [hlen]; exact hO
      rcases OwnC.of hO2 with ⟨he, -⟩ | ⟨g, cap, rest, ⟨t, ht⟩, hv', hg1, hg2, hg3, hg4⟩
      · have h5 := congrArg List.length he
        rw [hlen, List.length_nil] at h5
        omega
      · subst ht
        rw [hv']
        exact ⟨g, cap, rest, rfl, hg1, hg2, hg3, hg4, b2⟩) (ins_meant hm x n s.sb hn1 hxn hst).alike (by rw [hlen]; omega)
  have HKB : Hid (Below X.heap.size X ((X.alloc (.cells #[.pointer (some ⟨p, 0, none⟩)] 60)).alloc (.cells #[.int .i64 (n : Int)] 3))) := kb
  have hNX : N ≤ X.heap.size := Nat.le_trans hA.lo (Nat.le_of_lt (heap_lt hA.blk))
  clear hA hA2 h0 h1 kb hm hst hsy hsx hlen hT
  generalize mendL (insR (rows.getD y []) x n s.sb) = row2 at *
  go_enter Tryd.func63, Tryd.ntmps63
  go_upto_region 1 with fail
  generalize ((X.alloc (.cells #[.pointer (some ⟨p, 0, none⟩)] 60)).alloc (.cells #[.int .i64 (n : Int)] 3)) = Z at *
  clear q1
  go_wp2_with fail
  refine HRL.mono ?_
  rintro e V ⟨rfl, hV, bV, fV⟩
  have HV : Hid _ := hV
  have HBV : Hid (Below N X V) := (HKB.out.mono hNX).trans bV
  have HFV : Hid (Framed X V) := (Framed.of_below HKB.out).trans fV
  clear hV bV fV HRL q0
  go_wp2_with fail
  go_end0
  exact ⟨rfl, HV.out, HBV.out, HFV.out⟩
end Put
end Go.Proofs.YthokeflechajlaaDoor

/- (*sheet.Sheet).keep, Up: a row goes behind all that is gone. -/
namespace Go.Proofs.YthokeflechajlaaDoor
open Go.ChangeShapes Go.WideShapes Go.ChangeAt Go.RowKit
namespace Put
open Grd (C SliceAt CellsAt gridErr z0 nilV flat rowsL OwnG RowB)
/-- What is gone, and one row more. -/
def keepG (g : List (List C)) (row : List C) : List (List C) := if g.length < 50 then g ++ [row] else (g ++ [row]).eraseIdx 0
theorem keepG_len (g : List (List C)) (row : List C) (h : g.length ≤ 50) : (keepG g row).length ≤ 50 := by
  unfold keepG
  split
  · rw [List.length_append, List.length_singleton]
    omega
  · rw [List.length_eraseIdx_of_lt (by simp), List.length_append, List.length_singleton]
    omega
theorem RowsIn.push {W : World} {N : Nat} {vs : List Value} {rows : List (List C)} (h : RowsIn W N vs rows) (v : Value) (row : List C) (hr : RowIn W N v row) : RowsIn W N (vs ++ [v]) (rows ++ [row]) := by
  have hl := h.1
  refine ⟨by simp [hl], fun i hi => ?_⟩
  rw [List.length_append, List.length_singleton] at hi
  simp only [List.getD]
  by_cases e : i < rows.length
  · rw [List.getElem?_append_left (by omega), List.getElem?_append_left e]
    exact h.2 i e
  · have e2 : i = rows.length := by omega
    subst e2
    rw [List.getElem?_append_right (by omega), List.getElem?_append_right (Nat.le_refl _), hl]
    simpa using hr
theorem cell_news (W : World) (v : Value) (t : TypeId) : ∀ j u, [v][j]? = some u → (W.alloc (.cells #[v] t)).cell? ((⟨W.heap.size, 0, none⟩ : Addr).add j) = some u := fun j u hj => by
  have h := heap_alloc_new W (.cells #[v] t)
  generalize W.alloc (.cells #[v] t) = X at *
  rw [Addr.add_lit]
  match j, hj with
  | 0, hj =>
    rw [← Option.some.inj hj]
    simp [World.cell?, h]
/-- Another list of what is gone. -/
theorem ShA.goneNew {W V : World} {M N p : Nat} {s s' : Scr} {rows : List (List C)} {cv tv gv gv' rv : Value} {gvs vs gvs' : List Value} (h : ShA 63 W M N p s rows cv tv gv rv gvs vs) (hs' : { s with gone := s'.gone } = s')
    (ho : ∀ k, k < W.heap.size → some k ≠ gv.ownBlock → V.heap[k]? = W.heap[k]?) (hw : V.ownsRow N 22 1 gv' s'.gone.length gvs') (hr : RowsIn V M gvs' s'.gone) (hat : gv'.ownBlock = gv.ownBlock ∨ ∃ k, gv'.ownBlock = some k ∧ W.heap.size ≤ k) :
    ShA 63 (V.setCell ⟨p, 21, none⟩ gv') M N p s' rows cv tv gv' rv gvs' vs := by
  have hgb : ∀ k A t, W.heap[k]? = some (.cells A t (0, 0)) → t ≠ 22 → some k ≠ gv.ownBlock := fun k A t hk ht e => by
    obtain ⟨-, B, f, hB⟩ := owns_block h.gone k e.symm
    rw [hk] at hB
    injection hB with hB
    injection hB with _ hB _
    exact ht hB
  have hp : V.heap[p]? = some (.cells (shA s cv tv gv rv) 63 (0, 0)) := (ho p (heap_lt h.blk) (hgb p _ _ h.blk (by decide))).trans h.blk
  have hk1 : Kept M W V := fun k hk hS => ho k hk fun e => by
    obtain ⟨hlo, B, f, hB⟩ := owns_block h.gone k e.symm
    rcases hS with hS | ⟨A, f', hS⟩
    · have := h.ml
      omega
    · rw [hB] at hS
      injection hS with hS
      injection hS with _ hS _
      exact absurd hS (by decide)
  have hk2 : Kept M V (V.setCell ⟨p, 21, none⟩ gv') := Kept.store hp (by decide) (Nat.le_trans h.ml h.lo)
  have hof : ∀ {e : TypeId} {v : Value} {n : Nat} {xs : List Value}, e ≠ 63 → (∀ k, v.ownBlock = some k → some k ≠ gv.ownBlock) → W.ownsRow N e 1 v n xs → (V.setCell ⟨p, 21, none⟩ gv').ownsRow N e 1 v n xs := fun hte hn hw => by
    refine own_off (owns_kept hw fun g hg => ?_) hp (Ne.symm hte)
    obtain ⟨-, B, f', hB⟩ := owns_block hw g hg
    exact ho g (heap_lt hB) (hn g hg)
  have htb : s'.tabs = s.tabs := by rw [← hs']
  refine ⟨store_at hp ?_, h.lo, h.ml, h.cvs, ?_, own_off hw hp (by decide), hr.keep hk2, hof (by decide) (fun k hk e => h.two k hk e.symm) h.rws, (h.rin.keep hk1).keep hk2, fun k hk e => ?_⟩
  · rw [← hs']
    rfl
  · rw [htb]
    refine hof (by decide) (fun k hk e => ?_) h.tabs
    obtain ⟨-, B, f, hB⟩ := owns_block h.tabs k hk
    obtain ⟨-, A, f', hA⟩ := owns_block h.gone k e.symm
    rw [hA] at hB
    injection hB with hB
    injection hB with _ hB _
    exact absurd hB (by decide)
  · rcases hat with hat | ⟨q, hq, hlt⟩
    · rw [hat] at e
      exact h.two k hk e
    · rw [hq] at e
      obtain ⟨-, B, f, hB⟩ := owns_block h.rws k hk
      have := heap_lt hB
      have := Option.some.inj e
      omega
theorem ShA.keptG {W V : World} {M N p : Nat} {s : Scr} {rows : List (List C)} {cv tv gv rv : Value} {gvs vs : List Value} (h : ShA 63 W M N p s rows cv tv gv rv gvs vs) (ho : ∀ k, k < W.heap.size → some k ≠ gv.ownBlock → V.heap[k]? = W.heap[k]?) : Kept M W V := fun k hk hS => ho k hk fun e => by
  obtain ⟨hlo, B, f, hB⟩ := owns_block h.gone k e.symm
  rcases hS with hS | ⟨A, f', hS⟩
  · have := h.ml
    omega
  · rw [hB] at hS
    injection hS with hS
    injection hS with _ hS _
    exact absurd hS (by decide)
theorem ShA.framedG {W V : World} {M N p : Nat} {s : Scr} {rows : List (List C)} {cv tv gv rv gv' : Value} {gvs vs : List Value} (h : ShA 63 W M N p s rows cv tv gv rv gvs vs) (ho : ∀ k, k < W.heap.size → some k ≠ gv.ownBlock → V.heap[k]? = W.heap[k]?) (hp : V.heap[p]? = some (.cells (shA s cv tv gv rv) 63 (0, 0))) : Framed W (V.setCell ⟨p, 21, none⟩ gv') := fun k o hk hO => by
  refine Framed.store hp not_other_sheet k o ((ho k (heap_lt hk) fun e => ?_).trans hk) hO
  obtain ⟨-, B, f, hB⟩ := owns_block h.gone k e.symm
  rw [hk] at hB
  injection hB with hB
  exact not_other_rows (hO B _ _ hB)
theorem grown_below {W V : World} {N : Nat} {row : Option Nat} (h : W.grownBy V row) (hr : ∀ k, row = some k → N ≤ k) (hN : N ≤ W.heap.size) : Below N W V :=
  ⟨h.os, h.tape, h.output, h.size, fun k hk => h.block k (by omega) fun e => by have := hr k e.symm; omega⟩
set_option maxHeartbeats 4000000 in
set_option maxRecDepth 100000 in
theorem keep_any (W : World) (M N p : Nat) (s : Scr) (rows : List (List C)) (hS : ShAt 63 W M N p s rows) (v : Value) (row : List C) (hv : RowIn W M v row) (hgl : s.gone.length ≤ 50) :
    Calls Tryd.prog 55 #[.pointer (some ⟨p, 0, none⟩), v] W (Ran W M N p { s with gone := keepG s.gone row } rows) := by
  obtain ⟨cv, tv, gv, rv, gvs, vs, hS⟩ := hS
  obtain ⟨va, vc, rfl⟩ := hv.shape
  obtain ⟨ga, gc, rfl⟩ := own_slice hS.gone
  obtain ⟨i0, hi, hzz⟩ := Option.map_eq_some_iff.1 info_rows
  simp only [Prod.mk.injEq] at hzz
  obtain ⟨hz0, hz1, hz2⟩ := hzz
  have hlo := hS.lo
  have hNW : N ≤ W.heap.size := Nat.le_trans hlo (Nat.le_of_lt (heap_lt hS.blk))
  have c21 := (sh_cells hS.blk).2.1.2.2.2.2.2.2.2.2.2.2.1
  have k0 : Below W.heap.size W (W.alloc (.cells #[.slice va row.length vc] 22)) := (Below.refl _ _).alloc (Nat.le_refl _) _
  have hown : (W.alloc (.cells #[.slice va row.length vc] 22)).ownsRow N 22 1 (.slice ga s.gone.length gc) s.gone.length gvs := hS.gone.alloc _
  have HNW : Hid (∀ j u, [Value.slice va row.length vc][j]? = some u → (W.alloc (.cells #[.slice va row.length vc] 22)).cell? ((⟨W.heap.size, 0, none⟩ : Addr).add j) = some u) := cell_news W _ _
  have hal := heap_alloc_new W (.cells #[.slice va row.length vc] 22)
  have HS0 : Hid (ShA 63 (W.alloc (.cells #[.slice va row.length vc] 22)) M N p s rows cv tv (.slice ga s.gone.length gc) rv gvs vs) := hS.next k0
  have HRI : Hid (RowIn (W.alloc (.cells #[.slice va row.length vc] 22)) M (.slice va row.length vc) row) := hv.keep (Kept.of_below k0)
  have HK0 : Hid _ := k0
  have c21a := cell_stay k0 c21
  have hszW : (W.alloc (.cells #[.slice va row.length vc] 22)).heap.size = W.heap.size + 1 := by simp
  clear hS hv k0 hal
  go_enter Tryd.func55, Tryd.ntmps55
  go_upto_region 1 with (at_builtin; refine wpList_append_own_at _ rfl _ _ 30 rfl N 22 i0 (.slice none 0 0) 1 24 und_rows hi hz0 hz1 hz2 rfl (by decide) (.slice ga s.gone.length gc) s.gone.length gvs rfl hown ⟨W.heap.size, 0, none⟩ 1 1 [.slice va row.length vc] rfl rfl HNW.out (by intro u hu; simp at hu; rw [hu]; rfl) (by unfold maxLen; omega) (by omega) (by omega) ?_; intro gv' W2 hown' hgr hnil hat; obtain ⟨ga', gc', rfl⟩ := own_slice hown'; have hp2 := (hgr.block p (heap_lt HS0.out.blk) (fun e => (by obtain ⟨-, B, f, hB⟩ := owns_block HS0.out.gone p e.symm; rw [HS0.out.blk] at hB; injection hB with hB; injection hB with _ hB _; exact absurd hB (by decide)))).trans HS0.out.blk; have z21 := (sh_cells hp2).2.1.2.2.2.2.2.2.2.2.2.2.1; have f21 := (sh_cells hp2).2.2 21; clear hnil)
  have hho : ∀ k, k < (W.alloc (.cells #[.slice va row.length vc] 22)).heap.size → some k ≠ (Value.slice ga s.gone.length gc).ownBlock → W2.heap[k]? = (W.alloc (.cells #[.slice va row.length vc] 22)).heap[k]? := fun k hk hne => hgr.block k hk hne
  have hS2 : ShA 63 (W2.setCell ⟨p, 21, none⟩ (.slice ga' (s.gone.length + 1) gc')) M N p { s with gone := s.gone ++ [row] } rows cv tv (.slice ga' (s.gone.length + 1) gc') rv (gvs ++ [.slice va row.length vc]) vs :=
    HS0.out.goneNew (s' := { s with gone := s.gone ++ [row] }) rfl hho (by simpa using hown') ((HS0.out.gin.push _ _ HRI.out).keep (HS0.out.keptG hho)) (hat.imp id fun h => ⟨_, h, Nat.le_refl _⟩)
  have hB2 : Below N W (W2.setCell ⟨p, 21, none⟩ (.slice ga' (s.gone.length + 1) gc')) := ((HK0.out.mono hNW).trans (grown_below hgr (fun k e => (owns_block HS0.out.gone k e).1) (by omega))).setCell hlo _
  have hF2 : Framed W (W2.setCell ⟨p, 21, none⟩ (.slice ga' (s.gone.length + 1) gc')) := (Framed.of_below HK0.out).trans (HS0.out.framedG hho hp2)
  have HS2 : Hid _ := hS2
  have HB2 : Hid _ := hB2
  have HF2 : Hid (Framed W (W2.setCell ⟨p, 21, none⟩ (.slice ga' (s.gone.length + 1) gc'))) := hF2
  have d21 := (sh_cells hS2.blk).2.1.2.2.2.2.2.2.2.2.2.2.1
  clear hS2 hB2 hF2 hho hat hown' hgr hp2 z21 f21 HS0 HK0 HRI HNW hown c21 c21a hszW hi hz0 hz1 hz2
  generalize W2.setCell ⟨p, 21, none⟩ (.slice ga' (s.gone.length + 1) gc') = X at *
  by_cases hlt : s.gone.length < 50
  · have HE : Hid (keepG s.gone row = s.gone ++ [row]) := by unfold Hid keepG; rw [if_pos hlt]
    have hl1 : ¬ ((50 : Int) < (s.gone.length : Int) + 1) := by omega
    go_wp2_with fail
    go_end0
    refine ⟨rfl, ?_, HB2.out, HF2.out⟩
    rw [HE.out]
    exact ⟨_, _, _, _, _, _, HS2.out⟩
  · have HE : Hid (keepG s.gone row = (s.gone ++ [row]).eraseIdx 0) := by unfold Hid keepG; rw [if_neg hlt]
    have hl1 : (50 : Int) < (s.gone.length : Int) + 1 := by omega
    have hX := HS2.out
    have hgo := hX.gone
    have hlen : (s.gone ++ [row]).length = s.gone.length + 1 := by simp
    rw [hlen] at hgo
    obtain ⟨g, cap, hgv, hgN, -, -, -, -, A, hA⟩ := own_cells hgo (by omega)
    injection hgv with e1 _ e3
    subst e1 e3
    have HDel := delete_own N g (s.gone.length + 1) gc' 0 _ X hgo hX.gin.sls (by omega)
    have hpg : p ≠ g := by
      intro e
      rw [← e, hX.blk] at hA
      injection hA with hA
      injection hA with _ hA _
      exact absurd hA (by decide)
    have HEND : Hid (∀ V3 : World, V3.ownsRow N 22 1 (.slice (some ⟨g, 0, none⟩) (s.gone.length + 1 - 1) gc') (s.gone.length + 1 - 1) ((gvs ++ [Value.slice va row.length vc]).eraseIdx 0) → (∀ k, k ≠ g → V3.heap[k]? = X.heap[k]?) → Below g X V3 → V3.cell? ⟨p, 21, none⟩ = some (.slice (some ⟨g, 0, none⟩) (s.gone.length + 1) gc') ∧ V3.frozen? ⟨p, 21, none⟩ = false ∧ Hid (Ran W M N p { s with gone := keepG s.gone row } rows (.returned (.tuple #[])) (V3.setCell ⟨p, 21, none⟩ (.slice (some ⟨g, 0, none⟩) (s.gone.length + 1 - 1) gc')))) := fun V3 hO3 hk3 hb3 => by
      have hho : ∀ k, k < X.heap.size → some k ≠ (Value.slice (some ⟨g, 0, none⟩) (s.gone.length + 1) gc').ownBlock → V3.heap[k]? = X.heap[k]? := fun k _ hne => hk3 k fun e => hne (by rw [e]; rfl)
      have hp3 := (hk3 p hpg).trans hX.blk
      have hl2 : (keepG s.gone row).length = s.gone.length + 1 - 1 := by rw [HE.out, List.length_eraseIdx_of_lt (by omega), hlen]
      have hS3 := hX.goneNew (V := V3) (s' := { s with gone := keepG s.gone row }) (gv' := .slice (some ⟨g, 0, none⟩) (s.gone.length + 1 - 1) gc') (gvs' := (gvs ++ [Value.slice va row.length vc]).eraseIdx 0) rfl hho (by show V3.ownsRow N _ 1 _ (keepG s.gone row).length _; rw [hl2]; exact hO3) (by show RowsIn V3 M _ (keepG s.gone row); rw [HE.out]; exact (hX.gin.keep (hX.keptG hho)).erase 0 (by simp)) (.inl rfl)
      exact ⟨(sh_cells hp3).2.1.2.2.2.2.2.2.2.2.2.2.1, (sh_cells hp3).2.2 21, rfl, ⟨_, _, _, _, _, _, hS3⟩, (HB2.out.trans (hb3.mono hgN)).setCell hlo _, HF2.out.trans (hX.framedG hho hp3)⟩
    clear hX hgo hlen hA HS2 HB2 HF2 HE
    go_wp2_with fail
    refine HDel.mono ?_
    rintro e V3 ⟨rfl, hO3, hk3, hb3⟩
    obtain ⟨z21, f21, HR⟩ := HEND.out V3 hO3 hk3 hb3
    clear HEND HDel hO3 hk3 hb3
    go_wp2_with fail
    go_end0
    exact HR.out
set_option maxHeartbeats 1000000 in
theorem drop_any (W : World) (M N p n : Nat) (s : Scr) (rows : List (List C)) (hS : ShAt 63 W M N p s rows) (top bot : Nat) (hb : s.bot = bot) (hw : s.w = n) (hn1 : 1 ≤ n) (hn2 : n ≤ 120) (hg : top < rows.length) (hf : bot < rows.length) (hrl : rows.length ≤ 60) :
    Calls Tryd.prog 56 #[.pointer (some ⟨p, 0, none⟩), .int .i64 (top : Int)] W (Ran W M N p s (replR rows n s.sb top bot)) := by
  have H := replace_any W M N p n s rows hS top bot hw hn1 hn2 hg hf hrl
  obtain ⟨c0, c1, c3, c4, c5, c9, c10, c11, c19, f⟩ := hS.words
  rw [hb] at c10
  clear hS c0 c1 c3 c4 c5 c9 c11 c19 f
  go_enter Tryd.func56, Tryd.ntmps56
  go_wp2_with fail
  refine H.mono ?_
  rintro e V ⟨rfl, hS1, hB1, hF1⟩
  go_wp2_with fail
  go_end0
  exact ⟨rfl, hS1, hB1, hF1⟩
set_option maxHeartbeats 1000000 in
theorem down_any' (W : World) (M N p n : Nat) (s : Scr) (rows : List (List C)) (hS : ShAt 63 W M N p s rows) (top bot : Nat) (hb : s.bot = bot) (hw : s.w = n) (hn1 : 1 ≤ n) (hn2 : n ≤ 120) (hg : top < rows.length) (hf : bot < rows.length) (hrl : rows.length ≤ 60) :
    Calls Tryd.prog 32 #[.pointer (some ⟨p, 0, none⟩), .int .i64 (top : Int)] W (Ran W M N p s (replR rows n s.sb bot top)) := by
  have H := replace_any W M N p n s rows hS bot top hw hn1 hn2 hf hg hrl
  obtain ⟨c0, c1, c3, c4, c5, c9, c10, c11, c19, f⟩ := hS.words
  rw [hb] at c10
  clear hS c0 c1 c3 c4 c5 c9 c11 c19 f
  go_enter Tryd.func32, Tryd.ntmps32
  go_wp2_with fail
  refine H.mono ?_
  rintro e V ⟨rfl, hS1, hB1, hF1⟩
  go_wp2_with fail
  go_end0
  exact ⟨rfl, hS1, hB1, hF1⟩
/-- Rows move up, once. -/
def upS (s : Scr) (rows : List (List C)) (top : Nat) : Scr := if top = 0 then { s with gone := keepG s.gone (rows.getD 0 []) } else s
set_option maxHeartbeats 2000000 in
theorem up_any' (W : World) (M N p n : Nat) (s : Scr) (rows : List (List C)) (hS : ShAt 63 W M N p s rows) (top bot : Nat) (hb : s.bot = bot) (hw : s.w = n) (hn1 : 1 ≤ n) (hn2 : n ≤ 120) (hg : top < rows.length) (hf : bot < rows.length) (hrl : rows.length ≤ 60) (hgl : s.gone.length ≤ 50) :
    Calls Tryd.prog 30 #[.pointer (some ⟨p, 0, none⟩), .int .i64 (top : Int)] W (Ran W M N p (upS s rows top) (replR rows n s.sb top bot)) := by
  by_cases h0 : top = 0
  · subst h0
    have HU : Hid (upS s rows 0 = { s with gone := keepG s.gone (rows.getD 0 []) }) := rfl
    obtain ⟨cv, tv, gv, rv, gvs, vs, hA⟩ := hS
    obtain ⟨rb, rc, hrv, hrb, hrc1, hrc2, hvl, hrcell, A, hrA⟩ := own_cells hA.rws (by omega)
    subst hrv
    have c22 := (sh_cells hA.blk).2.1.2.2.2.2.2.2.2.2.2.2.2
    have d0 := hrcell 0 (by omega)
    have hri := hA.rin.2 0 (by omega)
    obtain ⟨va, vc, hsh⟩ := hri.shape
    rw [hsh] at d0 hri
    have HK := keep_any W M N p s rows ⟨_, _, _, _, _, _, hA⟩ _ _ hri hgl
    have HDR : Hid (∀ V, ShAt 63 V M N p { s with gone := keepG s.gone (rows.getD 0 []) } rows → Calls Tryd.prog 56 #[.pointer (some ⟨p, 0, none⟩), .int .i64 ((0 : Nat) : Int)] V (Ran V M N p { s with gone := keepG s.gone (rows.getD 0 []) } (replR rows n s.sb 0 bot))) := fun V h => drop_any V M N p n _ rows h 0 bot hb hw hn1 hn2 hg hf hrl
    have hl0 : (0 : Int) < (rows.length : Int) := by omega
    clear hA hrA hrcell hvl hsh hri
    generalize rows.getD 0 [] = row at *
    generalize replR rows n s.sb 0 bot = rows' at *
    go_enter Tryd.func30, Tryd.ntmps30
    go_wp2_with fail
    refine HK.mono ?_
    rintro e V ⟨rfl, hS1, hB1, hF1⟩
    have HD2 := HDR.out V hS1
    clear HK HDR c22 d0
    go_wp2_with fail
    refine HD2.mono ?_
    rintro e V2 ⟨rfl, hS2, hB2, hF2⟩
    go_wp2_with fail
    go_end0
    rw [HU.out]
    exact ⟨rfl, hS2, hB1.trans hB2, hF1.trans hF2⟩
  · have HU : Hid (upS s rows top = s) := by unfold Hid upS; rw [if_neg h0]
    have HD2 := drop_any W M N p n s rows hS top bot hb hw hn1 hn2 hg hf hrl
    have hz : ((top : Int) == 0) = false := by simp only [beq_eq_false_iff_ne, ne_eq]; omega
    clear hS
    go_enter Tryd.func30, Tryd.ntmps30
    go_wp2_with fail
    refine HD2.mono ?_
    rintro e V2 ⟨rfl, hS2, hB2, hF2⟩
    go_wp2_with fail
    go_end0
    rw [HU.out]
    exact ⟨rfl, hS2, hB2, hF2⟩
end Put
end Go.Proofs.YthokeflechajlaaDoor

/- shift.change: a screen is checked, and changed. -/
namespace Go.Proofs.YthokeflechajlaaDoor
open Go.ChangeShapes Go.WideShapes Go.ChangeAt Go.RowKit
namespace Put
open Grd (C SliceAt CellsAt gridErr z0 nilV flat rowsL)
theorem kf_ofs {w V : World} {s : Scr} {cv tv gv : Value} {A : Array Value} {t t' : TypeId} (hb : Below w.heap.size w V) (h0 : V.heap[w.heap.size]? = some (.cells (scrA s cv tv gv) t (0, 0))) (h1 : V.heap[w.heap.size + 1]? = some (.cells A t' (0, 0))) {s' : Scr} {cv' tv' gv' : Value} :
    Below w.heap.size w (V.setRow (w.heap.size + 1) (scrA s' cv' tv' gv')) ∧ ScrPtr (V.setRow (w.heap.size + 1) (scrA s' cv' tv' gv')) (.pointer (some ⟨w.heap.size, 0, none⟩)) ∧ blkAt (V.setRow (w.heap.size + 1) (scrA s' cv' tv' gv')) (.pointer (some ⟨w.heap.size, 0, none⟩)) = scrA s cv tv gv ∧ ScrPtr0 (V.setRow (w.heap.size + 1) (scrA s' cv' tv' gv')) (.pointer (some ⟨w.heap.size + 1, 0, none⟩)) := by
  have h2 : (V.setRow (w.heap.size + 1) (scrA s' cv' tv' gv')).heap[w.heap.size]? = _ := (setRow_other _ _ _ _ (by omega)).trans h0
  have h3 := setRow_heap V (w.heap.size + 1) A (scrA s' cv' tv' gv') t' _ h1
  exact ⟨below_setRow hb (by omega) _, (scrPtr_of h2).1, (scrPtr_of h2).2, scrPtr0_of h3 rfl⟩
section
attribute [local go_sem ↓] load_scr store_scr
attribute [local go_sem] isScrS ptrBlk_at aggOf_agg
set_option maxHeartbeats 4000000 in
set_option maxRecDepth 100000 in
theorem schange_any (s s' : Scr) (cv tv gv : Value) (df : FuncId) (caps : Array Value) (w0 w : World) (hT : Txt.Tab w) (hV : ScrV w0 s cv tv gv) (hb0 : Below w0.heap.size w0 w) (hF : Fits s)
    (hCH : ∀ W, Below w.heap.size w W → Calls Tryd.prog 37 #[.agg (scrA s cv tv gv), .int .i64 (scrErr s), .func (.func df) #[] caps] W (Made w0 W s' (scrErr s))) :
    Calls Tryd.prog 27 #[.agg (scrA s cv tv gv), .func (.func df) #[] caps] w (Made w0 w s' (scrErr s)) := by
  obtain ⟨ca, cc, rfl⟩ := hV.c.shape
  obtain ⟨ta, tc, rfl⟩ := hV.t.slice
  obtain ⟨ga, gc, rfl⟩ := hV.g.slice
  have hx0 : ((w.alloc (.cells (scrA s (.slice ca s.cs.length cc) (.slice ta s.tabs.length tc) (.slice ga s.gone.length gc)) 32)).alloc (.cells #[.int .i64 0, .int .i64 0, .slice none 0 0, .int .i64 0, .int .i64 0, .bool false, .int .i64 0, .int .i64 0, .int .i64 0, .int .i64 0, .int .i64 0, .int .i64 0, .slice none 0 0, .int .i64 0, .int .i64 0, .int .i64 0, .int .i64 0, .int .i64 0, .int .i64 0, .int .i32 0, .string ⟨#[]⟩, .slice none 0 0] 32)).heap[w.heap.size]? = some (.cells (scrA s (.slice ca s.cs.length cc) (.slice ta s.tabs.length tc) (.slice ga s.gone.length gc)) 32 (0, 0)) := (Below.heap_alloc _ _ _ (by simp)).trans (heap_alloc_new _ _)
  have hx1 : ((w.alloc (.cells (scrA s (.slice ca s.cs.length cc) (.slice ta s.tabs.length tc) (.slice ga s.gone.length gc)) 32)).alloc (.cells #[.int .i64 0, .int .i64 0, .slice none 0 0, .int .i64 0, .int .i64 0, .bool false, .int .i64 0, .int .i64 0, .int .i64 0, .int .i64 0, .int .i64 0, .int .i64 0, .slice none 0 0, .int .i64 0, .int .i64 0, .int .i64 0, .int .i64 0, .int .i64 0, .int .i64 0, .int .i32 0, .string ⟨#[]⟩, .slice none 0 0] 32)).heap[w.heap.size + 1]? = some (.cells #[.int .i64 0, .int .i64 0, .slice none 0 0, .int .i64 0, .int .i64 0, .bool false, .int .i64 0, .int .i64 0, .int .i64 0, .int .i64 0, .int .i64 0, .int .i64 0, .slice none 0 0, .int .i64 0, .int .i64 0, .int .i64 0, .int .i64 0, .int .i64 0, .int .i64 0, .int .i32 0, .string ⟨#[]⟩, .slice none 0 0] 32 (0, 0)) := heap_alloc2_new w _ _
  have hkb : Below w.heap.size w ((w.alloc (.cells (scrA s (.slice ca s.cs.length cc) (.slice ta s.tabs.length tc) (.slice ga s.gone.length gc)) 32)).alloc (.cells #[.int .i64 0, .int .i64 0, .slice none 0 0, .int .i64 0, .int .i64 0, .bool false, .int .i64 0, .int .i64 0, .int .i64 0, .int .i64 0, .int .i64 0, .int .i64 0, .slice none 0 0, .int .i64 0, .int .i64 0, .int .i64 0, .int .i64 0, .int .i64 0, .int .i64 0, .int .i32 0, .string ⟨#[]⟩, .slice none 0 0] 32)) := ((Below.refl _ _).alloc (Nat.le_refl _) _).alloc (by simp) _
  have hsz : ((w.alloc (.cells (scrA s (.slice ca s.cs.length cc) (.slice ta s.tabs.length tc) (.slice ga s.gone.length gc)) 32)).alloc (.cells #[.int .i64 0, .int .i64 0, .slice none 0 0, .int .i64 0, .int .i64 0, .bool false, .int .i64 0, .int .i64 0, .int .i64 0, .int .i64 0, .int .i64 0, .int .i64 0, .slice none 0 0, .int .i64 0, .int .i64 0, .int .i64 0, .int .i64 0, .int .i64 0, .int .i64 0, .int .i32 0, .string ⟨#[]⟩, .slice none 0 0] 32)).heap.size = w.heap.size + 2 := by simp
  have HX0 : Hid _ := hx0
  have HX1 : Hid _ := hx1
  have HKB : Hid _ := hkb
  have HSZ : Hid _ := hsz
  have HCK : Hid (∀ W, Below w.heap.size w W → Calls Tryd.prog 7 #[.agg (scrA s (.slice ca s.cs.length cc) (.slice ta s.tabs.length tc) (.slice ga s.gone.length gc))] W fun e w' => e = .returned (.int .i64 (scrErr s)) ∧ Below W.heap.size W w') := fun W hW => putCheck_any s _ _ _ W (Grd.Tab.next hT hW) (hV.next (hb0.trans (hW.mono hb0.size))) hF
  have HCH : Hid (∀ W, Below w.heap.size w W → Calls Tryd.prog 37 #[.agg (scrA s (.slice ca s.cs.length cc) (.slice ta s.tabs.length tc) (.slice ga s.gone.length gc)), .int .i64 (scrErr s), .func (.func df) #[] caps] W (Made w0 W s' (scrErr s))) := hCH
  have hM := hb0.size
  clear hx0 hx1 hkb hV hF hT hCH hb0 hsz
  generalize scrErr s = er at *
  go_enter Tryd.func27, Tryd.ntmps27
  go_upto_region 1 with fail
  generalize ((w.alloc (.cells (scrA s (.slice ca s.cs.length cc) (.slice ta s.tabs.length tc) (.slice ga s.gone.length gc)) 32)).alloc (.cells #[.int .i64 0, .int .i64 0, .slice none 0 0, .int .i64 0, .int .i64 0, .bool false, .int .i64 0, .int .i64 0, .int .i64 0, .int .i64 0, .int .i64 0, .int .i64 0, .slice none 0 0, .int .i64 0, .int .i64 0, .int .i64 0, .int .i64 0, .int .i64 0, .int .i64 0, .int .i32 0, .string ⟨#[]⟩, .slice none 0 0] 32)) = X at *
  have SK : Hid (∀ w', Below X.heap.size X w' → Below w.heap.size w w' ∧ ScrPtr w' (.pointer (some ⟨w.heap.size, 0, none⟩)) ∧ blkAt w' (.pointer (some ⟨w.heap.size, 0, none⟩)) = (scrA s (.slice ca s.cs.length cc) (.slice ta s.tabs.length tc) (.slice ga s.gone.length gc)) ∧ ScrPtr0 w' (.pointer (some ⟨w.heap.size + 1, 0, none⟩))) := fun w' hb => by
    have h0 := Grd.carry HX0.out hb
    exact ⟨HKB.out.trans (hb.mono HKB.out.size), (scrPtr_of h0).1, (scrPtr_of h0).2, scrPtr0_of (Grd.carry HX1.out hb) rfl⟩
  have b0 : Below X.heap.size X X.drew := (Below.refl _ _).drew
  go_region_held3 (fun w' => Below w.heap.size w w' ∧ ScrPtr w' (.pointer (some ⟨w.heap.size, 0, none⟩)) ∧ blkAt w' (.pointer (some ⟨w.heap.size, 0, none⟩)) = (scrA s (.slice ca s.cs.length cc) (.slice ta s.tabs.length tc) (.slice ga s.gone.length gc)) ∧ ScrPtr0 w' (.pointer (some ⟨w.heap.size + 1, 0, none⟩)))
    (first | exact KF.out | exact SK.out _ b2 | exact SK.out _ b1 | exact SK.out _ b0)
    (first | (go_at_call 7; refine (HCK.out _ (SK.out _ b0).1).mono ?_; rintro e V1 ⟨rfl, c1⟩; have b1 := b0.trans (c1.mono b0.size); clear c1) | (go_at_call 37; refine (HCH.out _ (SK.out _ b1).1).mono ?_; rintro e V2 ⟨cv', tv', gv', rfl, hO, c2⟩; have b2 := b1.trans (c2.mono b1.size); obtain ⟨a1, n1, c1, a2, n2, c2', a3, n3, c3, rfl, rfl, rfl⟩ := hO.shapes; have HO : Hid (ScrO V2 w0.heap.size _ s' _ _ _) := hO; clear c2 hO; have HR : Hid (V2.heap[w.heap.size + 1]? = _) := Grd.carry HX1.out b2; have KF : Hid (Below w.heap.size w (V2.setRow (w.heap.size + 1) (scrA s' (.slice a1 n1 c1) (.slice a2 n2 c2') (.slice a3 n3 c3))) ∧ ScrPtr (V2.setRow (w.heap.size + 1) (scrA s' (.slice a1 n1 c1) (.slice a2 n2 c2') (.slice a3 n3 c3))) (.pointer (some ⟨w.heap.size, 0, none⟩)) ∧ blkAt (V2.setRow (w.heap.size + 1) (scrA s' (.slice a1 n1 c1) (.slice a2 n2 c2') (.slice a3 n3 c3))) (.pointer (some ⟨w.heap.size, 0, none⟩)) = (scrA s (.slice ca s.cs.length cc) (.slice ta s.tabs.length tc) (.slice ga s.gone.length gc)) ∧ ScrPtr0 (V2.setRow (w.heap.size + 1) (scrA s' (.slice a1 n1 c1) (.slice a2 n2 c2') (.slice a3 n3 c3))) (.pointer (some ⟨w.heap.size + 1, 0, none⟩))) := kf_ofs (SK.out _ b2).1 (Grd.carry HX0.out b2) HR.out))
  go_wp2_with fail
  (try simp only [Exit.inBlock, Exit.then])
  refine bodyPost_ret (v := .tuple #[.agg (scrA s' (.slice a1 n1 c1) (.slice a2 n2 c2') (.slice a3 n3 c3)), .int .i64 er]) ?_ rfl ⟨_, _, _, rfl, ?_, KF.out.1⟩
  · exact Grd.results_row_tmp rfl _ _ (w.heap.size + 1) _ _ _ _ rfl (setRow_heap _ _ _ _ _ _ HR.out) Tryd.underlying32 rfl (by kernel_rfl) _ rfl
  · exact (ScrO.off HO.out HR.out screen_is (by omega) fun k hk => setRow_other _ _ _ _ hk).mono (SK.out _ b1).1.size
end
end Put
end Go.Proofs.YthokeflechajlaaDoor

/- Package shift: the calls that hand a closure on. (Written by gen_call.py.) -/
namespace Go.Proofs.YthokeflechajlaaDoor
open Go.ChangeShapes Go.WideShapes Go.ChangeAt Go.RowKit
namespace Put
open Grd (C)
theorem cell_ones {W : World} {R : Nat} {v : Value} {t : TypeId} (h : W.heap[R]? = some (.cells #[v] t (0, 0))) : W.cell? ⟨R, 0, none⟩ = some v := by simp [World.cell?, h]
set_option maxHeartbeats 2000000 in
set_option maxRecDepth 100000 in
theorem shiftUp_calls (s s' : Scr) (cv tv gv : Value) (n : Int) (er : Int) (w0 w : World) (hV : ScrV w0 s cv tv gv) (hM : w0.heap.size ≤ w.heap.size)
    (hC : ∀ (W : World) (B1 : Nat), Below w.heap.size w W → W.cell? ⟨B1, 0, none⟩ = some (.int .i64 n) → Calls Tryd.prog 27 #[.agg (scrA s cv tv gv), .func (.func 28) #[] #[.pointer (some ⟨B1, 0, none⟩)]] W (Made w0 W s' er)) :
    Calls Tryd.prog 8 #[.agg (scrA s cv tv gv), .int .i64 n] w (Made w0 w s' er) := by
  obtain ⟨ca, cc, rfl⟩ := hV.c.shape
  obtain ⟨ta, tc, rfl⟩ := hV.t.slice
  obtain ⟨ga, gc, rfl⟩ := hV.g.slice
  have hkb : Below w.heap.size w (((w.alloc (.cells (scrA s (.slice ca s.cs.length cc) (.slice ta s.tabs.length tc) (.slice ga s.gone.length gc)) 32)).alloc (.cells #[.int .i64 n] 3)).alloc (.cells #[.int .i64 0, .int .i64 0, .slice none 0 0, .int .i64 0, .int .i64 0, .bool false, .int .i64 0, .int .i64 0, .int .i64 0, .int .i64 0, .int .i64 0, .int .i64 0, .slice none 0 0, .int .i64 0, .int .i64 0, .int .i64 0, .int .i64 0, .int .i64 0, .int .i64 0, .int .i32 0, .string ⟨#[]⟩, .slice none 0 0] 32)) := ((((Below.refl _ _).alloc (by simp) _).alloc (by simp) _).alloc (by simp; omega) _)
  have hx0 : (w.alloc (.cells (scrA s (.slice ca s.cs.length cc) (.slice ta s.tabs.length tc) (.slice ga s.gone.length gc)) 32)).heap[w.heap.size]? = some (.cells (scrA s (.slice ca s.cs.length cc) (.slice ta s.tabs.length tc) (.slice ga s.gone.length gc)) 32 (0, 0)) := by
    have h := heap_alloc_new w (.cells (scrA s (.slice ca s.cs.length cc) (.slice ta s.tabs.length tc) (.slice ga s.gone.length gc)) 32)
    have e : w.heap.size = w.heap.size := by simp
    rw [e] at h
    exact h
  have hx0 := (Below.heap_alloc (w.alloc (.cells (scrA s (.slice ca s.cs.length cc) (.slice ta s.tabs.length tc) (.slice ga s.gone.length gc)) 32)) (.cells #[.int .i64 n] 3) _ (heap_lt hx0)).trans hx0
  have hx0 := (Below.heap_alloc ((w.alloc (.cells (scrA s (.slice ca s.cs.length cc) (.slice ta s.tabs.length tc) (.slice ga s.gone.length gc)) 32)).alloc (.cells #[.int .i64 n] 3)) (.cells #[.int .i64 0, .int .i64 0, .slice none 0 0, .int .i64 0, .int .i64 0, .bool false, .int .i64 0, .int .i64 0, .int .i64 0, .int .i64 0, .int .i64 0, .int .i64 0, .slice none 0 0, .int .i64 0, .int .i64 0, .int .i64 0, .int .i64 0, .int .i64 0, .int .i64 0, .int .i32 0, .string ⟨#[]⟩, .slice none 0 0] 32) _ (heap_lt hx0)).trans hx0
  have hx1 : ((w.alloc (.cells (scrA s (.slice ca s.cs.length cc) (.slice ta s.tabs.length tc) (.slice ga s.gone.length gc)) 32)).alloc (.cells #[.int .i64 n] 3)).heap[w.heap.size + 1]? = some (.cells #[.int .i64 n] 3 (0, 0)) := by
    have h := heap_alloc_new (w.alloc (.cells (scrA s (.slice ca s.cs.length cc) (.slice ta s.tabs.length tc) (.slice ga s.gone.length gc)) 32)) (.cells #[.int .i64 n] 3)
    have e : (w.alloc (.cells (scrA s (.slice ca s.cs.length cc) (.slice ta s.tabs.length tc) (.slice ga s.gone.length gc)) 32)).heap.size = w.heap.size + 1 := by simp
    rw [e] at h
    exact h
  have hx1 := (Below.heap_alloc ((w.alloc (.cells (scrA s (.slice ca s.cs.length cc) (.slice ta s.tabs.length tc) (.slice ga s.gone.length gc)) 32)).alloc (.cells #[.int .i64 n] 3)) (.cells #[.int .i64 0, .int .i64 0, .slice none 0 0, .int .i64 0, .int .i64 0, .bool false, .int .i64 0, .int .i64 0, .int .i64 0, .int .i64 0, .int .i64 0, .int .i64 0, .slice none 0 0, .int .i64 0, .int .i64 0, .int .i64 0, .int .i64 0, .int .i64 0, .int .i64 0, .int .i32 0, .string ⟨#[]⟩, .slice none 0 0] 32) _ (heap_lt hx1)).trans hx1
  have hx2 : (((w.alloc (.cells (scrA s (.slice ca s.cs.length cc) (.slice ta s.tabs.length tc) (.slice ga s.gone.length gc)) 32)).alloc (.cells #[.int .i64 n] 3)).alloc (.cells #[.int .i64 0, .int .i64 0, .slice none 0 0, .int .i64 0, .int .i64 0, .bool false, .int .i64 0, .int .i64 0, .int .i64 0, .int .i64 0, .int .i64 0, .int .i64 0, .slice none 0 0, .int .i64 0, .int .i64 0, .int .i64 0, .int .i64 0, .int .i64 0, .int .i64 0, .int .i32 0, .string ⟨#[]⟩, .slice none 0 0] 32)).heap[w.heap.size + 2]? = some (.cells #[.int .i64 0, .int .i64 0, .slice none 0 0, .int .i64 0, .int .i64 0, .bool false, .int .i64 0, .int .i64 0, .int .i64 0, .int .i64 0, .int .i64 0, .int .i64 0, .slice none 0 0, .int .i64 0, .int .i64 0, .int .i64 0, .int .i64 0, .int .i64 0, .int .i64 0, .int .i32 0, .string ⟨#[]⟩, .slice none 0 0] 32 (0, 0)) := by
    have h := heap_alloc_new ((w.alloc (.cells (scrA s (.slice ca s.cs.length cc) (.slice ta s.tabs.length tc) (.slice ga s.gone.length gc)) 32)).alloc (.cells #[.int .i64 n] 3)) (.cells #[.int .i64 0, .int .i64 0, .slice none 0 0, .int .i64 0, .int .i64 0, .bool false, .int .i64 0, .int .i64 0, .int .i64 0, .int .i64 0, .int .i64 0, .int .i64 0, .slice none 0 0, .int .i64 0, .int .i64 0, .int .i64 0, .int .i64 0, .int .i64 0, .int .i64 0, .int .i32 0, .string ⟨#[]⟩, .slice none 0 0] 32)
    have e : ((w.alloc (.cells (scrA s (.slice ca s.cs.length cc) (.slice ta s.tabs.length tc) (.slice ga s.gone.length gc)) 32)).alloc (.cells #[.int .i64 n] 3)).heap.size = w.heap.size + 2 := by simp
    rw [e] at h
    exact h
  have HX0 : Hid _ := hx0
  have HXR : Hid _ := hx2
  have HKB : Hid _ := hkb
  have HC := hC _ (w.heap.size + 1) hkb (cell_ones hx1)
  have hsz : w.heap.size ≤ (((w.alloc (.cells (scrA s (.slice ca s.cs.length cc) (.slice ta s.tabs.length tc) (.slice ga s.gone.length gc)) 32)).alloc (.cells #[.int .i64 n] 3)).alloc (.cells #[.int .i64 0, .int .i64 0, .slice none 0 0, .int .i64 0, .int .i64 0, .bool false, .int .i64 0, .int .i64 0, .int .i64 0, .int .i64 0, .int .i64 0, .int .i64 0, .slice none 0 0, .int .i64 0, .int .i64 0, .int .i64 0, .int .i64 0, .int .i64 0, .int .i64 0, .int .i32 0, .string ⟨#[]⟩, .slice none 0 0] 32)).heap.size := hkb.size
  clear hkb hV hC hx0 hx1 hx2
  go_enter Tryd.func8, Tryd.ntmps8
  go_upto_region 1 with fail
  generalize (((w.alloc (.cells (scrA s (.slice ca s.cs.length cc) (.slice ta s.tabs.length tc) (.slice ga s.gone.length gc)) 32)).alloc (.cells #[.int .i64 n] 3)).alloc (.cells #[.int .i64 0, .int .i64 0, .slice none 0 0, .int .i64 0, .int .i64 0, .bool false, .int .i64 0, .int .i64 0, .int .i64 0, .int .i64 0, .int .i64 0, .int .i64 0, .slice none 0 0, .int .i64 0, .int .i64 0, .int .i64 0, .int .i64 0, .int .i64 0, .int .i64 0, .int .i32 0, .string ⟨#[]⟩, .slice none 0 0] 32)) = X at *
  go_wp2_with (refine wpList_load_row rfl 32 (.tmp 2) rfl w.heap.size rfl _ _ _ _ HX0.out Tryd.underlying32 rfl (by kernel_rfl) ?_)
  refine HC.mono ?_
  rintro e V ⟨cv', tv', gv', rfl, hO, c2⟩
  obtain ⟨a1, n1, c1, a2, n2, c2', a3, n3, c3, rfl, rfl, rfl⟩ := hO.shapes
  have HO : Hid (ScrO V w0.heap.size _ s' _ _ _) := hO
  have HR : Hid (V.heap[w.heap.size + 2]? = _) := Grd.carry HXR.out c2
  have HB : Hid (Below w.heap.size w V) := HKB.out.trans (c2.mono HKB.out.size)
  clear hO c2 HC
  go_wp2_with (refine wpList_store_row rfl 32 (.tmp 4) (.tmp 9) rfl (w.heap.size + 2) (scrA s' (.slice a1 n1 c1) (.slice a2 n2 c2') (.slice a3 n3 c3)) rfl rfl _ _ HR.out (by kernel_rfl) rfl (scr_one _ _ _ _ _ _ _ _ _ _) ?_)
  (try simp only [Exit.inBlock, Exit.then])
  refine bodyPost_ret (v := .tuple #[.agg (scrA s' (.slice a1 n1 c1) (.slice a2 n2 c2') (.slice a3 n3 c3)), .int .i64 er]) ?_ rfl ⟨_, _, _, rfl, ?_, below_setRow HB.out (by omega) _⟩
  · exact Grd.results_row_tmp rfl _ _ (w.heap.size + 2) _ _ _ _ rfl (setRow_heap _ _ _ _ _ _ HR.out) Tryd.underlying32 rfl (by kernel_rfl) _ rfl
  · exact (ScrO.off HO.out HR.out screen_is (by omega) fun k hk => setRow_other _ _ _ _ hk).mono hsz
set_option maxHeartbeats 2000000 in
set_option maxRecDepth 100000 in
theorem shiftDown_calls (s s' : Scr) (cv tv gv : Value) (n : Int) (er : Int) (w0 w : World) (hV : ScrV w0 s cv tv gv) (hM : w0.heap.size ≤ w.heap.size)
    (hC : ∀ (W : World) (B1 : Nat), Below w.heap.size w W → W.cell? ⟨B1, 0, none⟩ = some (.int .i64 n) → Calls Tryd.prog 27 #[.agg (scrA s cv tv gv), .func (.func 31) #[] #[.pointer (some ⟨B1, 0, none⟩)]] W (Made w0 W s' er)) :
    Calls Tryd.prog 9 #[.agg (scrA s cv tv gv), .int .i64 n] w (Made w0 w s' er) := by
  obtain ⟨ca, cc, rfl⟩ := hV.c.shape
  obtain ⟨ta, tc, rfl⟩ := hV.t.slice
  obtain ⟨ga, gc, rfl⟩ := hV.g.slice
  have hkb : Below w.heap.size w (((w.alloc (.cells (scrA s (.slice ca s.cs.length cc) (.slice ta s.tabs.length tc) (.slice ga s.gone.length gc)) 32)).alloc (.cells #[.int .i64 n] 3)).alloc (.cells #[.int .i64 0, .int .i64 0, .slice none 0 0, .int .i64 0, .int .i64 0, .bool false, .int .i64 0, .int .i64 0, .int .i64 0, .int .i64 0, .int .i64 0, .int .i64 0, .slice none 0 0, .int .i64 0, .int .i64 0, .int .i64 0, .int .i64 0, .int .i64 0, .int .i64 0, .int .i32 0, .string ⟨#[]⟩, .slice none 0 0] 32)) := ((((Below.refl _ _).alloc (by simp) _).alloc (by simp) _).alloc (by simp; omega) _)
  have hx0 : (w.alloc (.cells (scrA s (.slice ca s.cs.length cc) (.slice ta s.tabs.length tc) (.slice ga s.gone.length gc)) 32)).heap[w.heap.size]? = some (.cells (scrA s (.slice ca s.cs.length cc) (.slice ta s.tabs.length tc) (.slice ga s.gone.length gc)) 32 (0, 0)) := by
    have h := heap_alloc_new w (.cells (scrA s (.slice ca s.cs.length cc) (.slice ta s.tabs.length tc) (.slice ga s.gone.length gc)) 32)
    have e : w.heap.size = w.heap.size := by simp
    rw [e] at h
    exact h
  have hx0 := (Below.heap_alloc (w.alloc (.cells (scrA s (.slice ca s.cs.length cc) (.slice ta s.tabs.length tc) (.slice ga s.gone.length gc)) 32)) (.cells #[.int .i64 n] 3) _ (heap_lt hx0)).trans hx0
  have hx0 := (Below.heap_alloc ((w.alloc (.cells (scrA s (.slice ca s.cs.length cc) (.slice ta s.tabs.length tc) (.slice ga s.gone.length gc)) 32)).alloc (.cells #[.int .i64 n] 3)) (.cells #[.int .i64 0, .int .i64 0, .slice none 0 0, .int .i64 0, .int .i64 0, .bool false, .int .i64 0, .int .i64 0, .int .i64 0, .int .i64 0, .int .i64 0, .int .i64 0, .slice none 0 0, .int .i64 0, .int .i64 0, .int .i64 0, .int .i64 0, .int .i64 0, .int .i64 0, .int .i32 0, .string ⟨#[]⟩, .slice none 0 0] 32) _ (heap_lt hx0)).trans hx0
  have hx1 : ((w.alloc (.cells (scrA s (.slice ca s.cs.length cc) (.slice ta s.tabs.length tc) (.slice ga s.gone.length gc)) 32)).alloc (.cells #[.int .i64 n] 3)).heap[w.heap.size + 1]? = some (.cells #[.int .i64 n] 3 (0, 0)) := by
    have h := heap_alloc_new (w.alloc (.cells (scrA s (.slice ca s.cs.length cc) (.slice ta s.tabs.length tc) (.slice ga s.gone.length gc)) 32)) (.cells #[.int .i64 n] 3)
    have e : (w.alloc (.cells (scrA s (.slice ca s.cs.length cc) (.slice ta s.tabs.length tc) (.slice ga s.gone.length gc)) 32)).heap.size = w.heap.size + 1 := by simp
    rw [e] at h
    exact h
  have hx1 := (Below.heap_alloc ((w.alloc (.cells (scrA s (.slice ca s.cs.length cc) (.slice ta s.tabs.length tc) (.slice ga s.gone.length gc)) 32)).alloc (.cells #[.int .i64 n] 3)) (.cells #[.int .i64 0, .int .i64 0, .slice none 0 0, .int .i64 0, .int .i64 0, .bool false, .int .i64 0, .int .i64 0, .int .i64 0, .int .i64 0, .int .i64 0, .int .i64 0, .slice none 0 0, .int .i64 0, .int .i64 0, .int .i64 0, .int .i64 0, .int .i64 0, .int .i64 0, .int .i32 0, .string ⟨#[]⟩, .slice none 0 0] 32) _ (heap_lt hx1)).trans hx1
  have hx2 : (((w.alloc (.cells (scrA s (.slice ca s.cs.length cc) (.slice ta s.tabs.length tc) (.slice ga s.gone.length gc)) 32)).alloc (.cells #[.int .i64 n] 3)).alloc (.cells #[.int .i64 0, .int .i64 0, .slice none 0 0, .int .i64 0, .int .i64 0, .bool false, .int .i64 0, .int .i64 0, .int .i64 0, .int .i64 0, .int .i64 0, .int .i64 0, .slice none 0 0, .int .i64 0, .int .i64 0, .int .i64 0, .int .i64 0, .int .i64 0, .int .i64 0, .int .i32 0, .string ⟨#[]⟩, .slice none 0 0] 32)).heap[w.heap.size + 2]? = some (.cells #[.int .i64 0, .int .i64 0, .slice none 0 0, .int .i64 0, .int .i64 0, .bool false, .int .i64 0, .int .i64 0, .int .i64 0, .int .i64 0, .int .i64 0, .int .i64 0, .slice none 0 0, .int .i64 0, .int .i64 0, .int .i64 0, .int .i64 0, .int .i64 0, .int .i64 0, .int .i32 0, .string ⟨#[]⟩, .slice none 0 0] 32 (0, 0)) := by
    have h := heap_alloc_new ((w.alloc (.cells (scrA s (.slice ca s.cs.length cc) (.slice ta s.tabs.length tc) (.slice ga s.gone.length gc)) 32)).alloc (.cells #[.int .i64 n] 3)) (.cells #[.int .i64 0, .int .i64 0, .slice none 0 0, .int .i64 0, .int .i64 0, .bool false, .int .i64 0, .int .i64 0, .int .i64 0, .int .i64 0, .int .i64 0, .int .i64 0, .slice none 0 0, .int .i64 0, .int .i64 0, .int .i64 0, .int .i64 0, .int .i64 0, .int .i64 0, .int .i32 0, .string ⟨#[]⟩, .slice none 0 0] 32)
    have e : ((w.alloc (.cells (scrA s (.slice ca s.cs.length cc) (.slice ta s.tabs.length tc) (.slice ga s.gone.length gc)) 32)).alloc (.cells #[.int .i64 n] 3)).heap.size = w.heap.size + 2 := by simp
    rw [e] at h
    exact h
  have HX0 : Hid _ := hx0
  have HXR : Hid _ := hx2
  have HKB : Hid _ := hkb
  have HC := hC _ (w.heap.size + 1) hkb (cell_ones hx1)
  have hsz : w.heap.size ≤ (((w.alloc (.cells (scrA s (.slice ca s.cs.length cc) (.slice ta s.tabs.length tc) (.slice ga s.gone.length gc)) 32)).alloc (.cells #[.int .i64 n] 3)).alloc (.cells #[.int .i64 0, .int .i64 0, .slice none 0 0, .int .i64 0, .int .i64 0, .bool false, .int .i64 0, .int .i64 0, .int .i64 0, .int .i64 0, .int .i64 0, .int .i64 0, .slice none 0 0, .int .i64 0, .int .i64 0, .int .i64 0, .int .i64 0, .int .i64 0, .int .i64 0, .int .i32 0, .string ⟨#[]⟩, .slice none 0 0] 32)).heap.size := hkb.size
  clear hkb hV hC hx0 hx1 hx2
  go_enter Tryd.func9, Tryd.ntmps9
  go_upto_region 1 with fail
  generalize (((w.alloc (.cells (scrA s (.slice ca s.cs.length cc) (.slice ta s.tabs.length tc) (.slice ga s.gone.length gc)) 32)).alloc (.cells #[.int .i64 n] 3)).alloc (.cells #[.int .i64 0, .int .i64 0, .slice none 0 0, .int .i64 0, .int .i64 0, .bool false, .int .i64 0, .int .i64 0, .int .i64 0, .int .i64 0, .int .i64 0, .int .i64 0, .slice none 0 0, .int .i64 0, .int .i64 0, .int .i64 0, .int .i64 0, .int .i64 0, .int .i64 0, .int .i32 0, .string ⟨#[]⟩, .slice none 0 0] 32)) = X at *
  go_wp2_with (refine wpList_load_row rfl 32 (.tmp 2) rfl w.heap.size rfl _ _ _ _ HX0.out Tryd.underlying32 rfl (by kernel_rfl) ?_)
  refine HC.mono ?_
  rintro e V ⟨cv', tv', gv', rfl, hO, c2⟩
  obtain ⟨a1, n1, c1, a2, n2, c2', a3, n3, c3, rfl, rfl, rfl⟩ := hO.shapes
  have HO : Hid (ScrO V w0.heap.size _ s' _ _ _) := hO
  have HR : Hid (V.heap[w.heap.size + 2]? = _) := Grd.carry HXR.out c2
  have HB : Hid (Below w.heap.size w V) := HKB.out.trans (c2.mono HKB.out.size)
  clear hO c2 HC
  go_wp2_with (refine wpList_store_row rfl 32 (.tmp 4) (.tmp 9) rfl (w.heap.size + 2) (scrA s' (.slice a1 n1 c1) (.slice a2 n2 c2') (.slice a3 n3 c3)) rfl rfl _ _ HR.out (by kernel_rfl) rfl (scr_one _ _ _ _ _ _ _ _ _ _) ?_)
  (try simp only [Exit.inBlock, Exit.then])
  refine bodyPost_ret (v := .tuple #[.agg (scrA s' (.slice a1 n1 c1) (.slice a2 n2 c2') (.slice a3 n3 c3)), .int .i64 er]) ?_ rfl ⟨_, _, _, rfl, ?_, below_setRow HB.out (by omega) _⟩
  · exact Grd.results_row_tmp rfl _ _ (w.heap.size + 2) _ _ _ _ rfl (setRow_heap _ _ _ _ _ _ HR.out) Tryd.underlying32 rfl (by kernel_rfl) _ rfl
  · exact (ScrO.off HO.out HR.out screen_is (by omega) fun k hk => setRow_other _ _ _ _ hk).mono hsz
end Put
end Go.Proofs.YthokeflechajlaaDoor

/- Package shift: a screen is changed, or its error told. -/
namespace Go.Proofs.YthokeflechajlaaDoor
open Go.ChangeShapes Go.WideShapes Go.ChangeAt Go.RowKit
namespace Put
open Grd (C SliceAt CellsAt gridErr z0 nilV flat rowsL RightRow)
theorem sc_bad {w0 w : World} {s : Scr} {cv tv gv : Value} (h : Met w0 w s cv tv gv) (hz : scrErr s ≠ 0) (df : FuncId) (caps : Array Value) : Calls Tryd.prog 27 #[.agg (scrA s cv tv gv), .func (.func df) #[] caps] w (Made w0 w zScr (scrErr s)) :=
  schange_any s zScr cv tv gv df caps w0 w h.t h.v h.b h.f fun W _ => made_bad s cv tv gv (scrErr s) hz _ w0 W h.v
theorem sc_good {w0 w : World} {s s' : Scr} {cv tv gv : Value} {n hh : Nat} (h : Met w0 w s cv tv gv) (hR : RightS s n hh) (df : FuncId) (hpl : Plain df) (caps : Array Value) (rows' : List (List C)) (cs' : List C)
    (hM : ∀ w1, Below w.heap.size w w1 → Does df caps w0.heap.size w1 s s' (rowsL n s.cs hh) rows') (hO : RowsOk s' rows') (hcs : rows'.flatten = cs') :
    Calls Tryd.prog 27 #[.agg (scrA s cv tv gv), .func (.func df) #[] caps] w (Made w0 w { s' with cs := cs' } 0) := by
  have hz := rightErr hR
  have key := schange_any s { s' with cs := cs' } cv tv gv df caps w0 w h.t h.v h.b h.f fun W hW => by
    rw [hz]
    exact change_good n hh s s' rows' cv tv gv df hpl caps w0 W h.v (h.b.trans (hW.mono h.b.size)) h.f hR.w hR.h hR.gz (fun w1 hw1 => hM w1 (hW.trans (hw1.mono hW.size))) hO cs' hcs
  rwa [hz] at key
end Put
end Go.Proofs.YthokeflechajlaaDoor

/- Rows that move, as values. -/
namespace Go.Proofs.YthokeflechajlaaDoor
open Go.ChangeShapes Go.WideShapes Go.ChangeAt Go.RowKit
namespace Put
open Grd (C)
def iterN {α : Type} (f : α → α) : Nat → α → α
  | 0, x => x
  | k + 1, x => f (iterN f k x)
/-- Rows move up, once; what leaves at the top may be kept. -/
def rUp (n top bot : Nat) (keep : Bool) (x : Scr × List (List C)) : Scr × List (List C) := (if top = 0 ∧ keep = true then { x.1 with gone := keepG x.1.gone (x.2.getD 0 []) } else x.1, replR x.2 n x.1.sb top bot)
/-- Rows move down, once. -/
def rDn (n top bot : Nat) (x : Scr × List (List C)) : Scr × List (List C) := (x.1, replR x.2 n x.1.sb bot top)
/-- What stays while rows move. -/
structure Rolls (n bot hh : Nat) (bk : Int) (x : Scr × List (List C)) : Prop where
  w : x.1.w = n
  b : x.1.bot = bot
  k : x.1.sb = bk
  r : x.2.length = hh
  g : x.1.gone.length ≤ 50
theorem Rolls.up {n bot hh : Nat} {bk : Int} {x : Scr × List (List C)} (h : Rolls n bot hh bk x) (top : Nat) (keep : Bool) (ht : top < hh) (hb : bot < hh) : Rolls n bot hh bk (rUp n top bot keep x) := by
  have hr : (replR x.2 n x.1.sb top bot).length = hh := by rw [replR_len _ _ _ _ _ (by rw [h.r]; exact ht) (by rw [h.r]; exact hb), h.r]
  unfold rUp
  split
  · exact ⟨h.w, h.b, h.k, hr, keepG_len _ _ h.g⟩
  · exact ⟨h.w, h.b, h.k, hr, h.g⟩
theorem Rolls.dn {n bot hh : Nat} {bk : Int} {x : Scr × List (List C)} (h : Rolls n bot hh bk x) (top : Nat) (ht : top < hh) (hb : bot < hh) : Rolls n bot hh bk (rDn n top bot x) :=
  ⟨h.w, h.b, h.k, by show (replR x.2 n x.1.sb bot top).length = hh; rw [replR_len _ _ _ _ _ (by rw [h.r]; exact hb) (by rw [h.r]; exact ht), h.r], h.g⟩
end Put
end Go.Proofs.YthokeflechajlaaDoor

/- (*sheet.Sheet).Feed at Bottom; shift's Back, moveRows. -/
namespace Go.Proofs.YthokeflechajlaaDoor
open Go.ChangeShapes Go.WideShapes Go.ChangeAt Go.RowKit
namespace Put
open Grd (C SliceAt CellsAt gridErr z0 nilV flat rowsL)
set_option maxHeartbeats 2000000 in
set_option maxRecDepth 100000 in
theorem feed_roll (W : World) (M N p n : Nat) (s : Scr) (rows : List (List C)) (hS : ShAt 63 W M N p s rows) (top bot : Nat) (ht : s.top = top) (hb : s.bot = bot) (hy : s.y = s.bot) (hw : s.w = n) (hn1 : 1 ≤ n) (hn2 : n ≤ 120) (hg : top < rows.length) (hf : bot < rows.length) (hrl : rows.length ≤ 60) (hgl : s.gone.length ≤ 50) :
    Calls Tryd.prog 62 #[.pointer (some ⟨p, 0, none⟩)] W (Ran W M N p (upS { s with late := false } rows top) (replR rows n s.sb top bot)) := by
  obtain ⟨c0, c1, c3, c4, c5, c9, c10, c11, c19, f⟩ := hS.words
  have f5 := f 5
  obtain ⟨hS1, hB1, hF1⟩ := hS.put 5 (.bool false) (s' := { s with late := false }) (fun _ _ _ _ => rfl) rfl rfl
  have HS1 : Hid (ShAt 63 (W.setCell ⟨p, 5, none⟩ (.bool false)) M N p { s with late := false } rows) := hS1
  have HB1 : Hid (Below N W (W.setCell ⟨p, 5, none⟩ (.bool false))) := hB1
  have HF1 : Hid (Framed W (W.setCell ⟨p, 5, none⟩ (.bool false))) := hF1
  have HU : Hid (∀ V, ShAt 63 V M N p { s with late := false } rows → Calls Tryd.prog 30 #[.pointer (some ⟨p, 0, none⟩), .int .i64 (top : Int)] V (Ran V M N p (upS { s with late := false } rows top) (replR rows n s.sb top bot))) := fun V h => up_any' V M N p n _ rows h top bot hb hw hn1 hn2 hg hf hrl hgl
  have HT : Hid (s.top = top) := ht
  have hq : (s.y == s.bot) = true := by rw [beq_iff_eq]; exact hy
  clear hS1 hB1 hF1 hS hy hb ht c0 c1 c3 c4 c9 c10 c11 c19 f
  generalize upS { s with late := false } rows top = s' at *
  generalize replR rows n s.sb top bot = rows' at *
  go_enter Tryd.func62, Tryd.ntmps62
  go_upto_region 1 with fail
  obtain ⟨-, -, -, d4, -, d9, d10, -, -, df⟩ := HS1.out.words
  clear c5 f5 df
  generalize (W.setCell ⟨p, 5, none⟩ (.bool false)) = X at *
  go_region
  have HSd : Hid (ShAt 63 X.drew M N p { s with late := false } rows) := HS1.out.drew
  have HB2 : Hid (Below N W X.drew) := HB1.out.drew
  have HF2 : Hid (Framed W X.drew) := HF1.out.trans (Framed.of_below ((Below.refl _ _).drew))
  clear d4 d9 d10 HS1 HB1 HF1
  generalize X.drew = Y at *
  obtain ⟨-, -, -, -, -, d9, -, -, -, df⟩ := HSd.out.words
  replace d9 : Y.cell? ⟨p, 9, none⟩ = some (.int .i64 s.top) := d9
  rw [HT.out] at d9
  have HU2 := HU.out Y HSd.out
  clear df HU HSd
  go_wp2_with fail
  refine HU2.mono ?_
  rintro e V ⟨rfl, hS2, hB3, hF3⟩
  go_wp2_with fail
  go_end0
  exact ⟨rfl, hS2, HB2.out.trans hB3, HF2.out.trans hF3⟩
/-- To the row above. -/
def backS (s : Scr) : Scr := if s.y = s.top then { s with late := false } else if 0 < s.y then { s with late := false, y := s.y - 1 } else { s with late := false }
end Put
end Go.Proofs.YthokeflechajlaaDoor
