/- slices.Equal and SameGrid of cells of any number; slices.Clone of any cells; own. -/
import Derived.Test.YtinhmklpnkikgaaDoorPartG
import Derived.BigQuiet
import Derived.Test.YtinhmklpnkikgaaDoorPartD
import Derived.Deep.MidRow
import Derived.Test.YtinhmklpnkikgaaDoorPartE
namespace Go.Proofs.YtinhmklpnkikgaaDoor
open Go.ChangeShapes Go.WideShapes Go.ChangeAt Go.RowKit
namespace Grd
set_option maxHeartbeats 1000000 in
theorem equal_cells_big (b1 o1 c1 b2 o2 c2 : Nat) (cs : List C) (w : World) (h1 : CellsAt w b1 o1 cs) (h2 : CellsAt w b2 o2 cs) (hn : cs.length ≤ 4398046511104) :
    Calls Tryd.prog 38 #[.slice (some ⟨b1, o1, none⟩) cs.length c1, .slice (some ⟨b2, o2, none⟩) cs.length c2] w fun e w' => e = .returned (.bool true) ∧ Below w.heap.size w w' := by
  have H1 : Hid (CellsAt w b1 o1 cs) := h1
  have H2 : Hid (CellsAt w b2 o2 cs) := h2
  clear h1 h2
  generalize hl : cs.length = L at *
  have HL : Hid (cs.length = L) := hl
  clear hl
  have ne : ((L : Int) != (L : Int)) = false := by simp
  go_enter Tryd.func38, Tryd.ntmps38
  go_wp2_with fail
  go_loopg [13] L (fun g i wr => ∃ k : Nat, i = .int .i64 (k : Int) ∧ k ≤ L ∧ L - k ≤ g ∧ Below w.heap.size w wr)
  case atStart => exact ⟨0, rfl, by omega, by omega, Below.refl _ _⟩
  case round =>
    obtain ⟨k, rfl, hk, hg, hb⟩ := hrel
    by_cases hlt : k < L
    · have lt1 : ((k : Int) < (L : Int)) := by omega
      obtain ⟨p0, p1, p2, p3⟩ := H1.out.below hb k (by rw [HL.out]; exact hlt)
      obtain ⟨q0, q1, q2, q3⟩ := H2.out.below hb k (by rw [HL.out]; exact hlt)
      rcases hc : cs.getD k z0 with ⟨r, f, bk, x⟩
      rw [hc] at p0 p1 p2 p3 q0 q1 q2 q3
      dsimp only at p0 p1 p2 p3 q0 q1 q2 q3
      clear hc
      have nq := neq_cell r f bk x
      go_wp2_with fail
      go_region
      go_wp2_with fail
      go_roundg (L - (k + 1))
      case measure => omega
      case rel => exact ⟨k + 1, rfl, by omega, by omega, hb.drew⟩
    · have lt1 : ¬ ((k : Int) < (L : Int)) := by omega
      go_wp2_with fail
      go_ret
      exact ⟨rfl, hb⟩
theorem equal_slices_big (v1 v2 : Value) (cs : List C) (w : World) (h1 : SliceAt w v1 cs) (h2 : SliceAt w v2 cs) (hn : cs.length ≤ 4398046511104) :
    Calls Tryd.prog 38 #[v1, v2] w fun e w' => e = .returned (.bool true) ∧ Below w.heap.size w w' := by
  rcases h1 with ⟨rfl, a1, c1, rfl⟩ | ⟨h0, b1, o1, c1, rfl, _, _, hC1⟩
  · rcases h2 with ⟨_, a2, c2, rfl⟩ | ⟨h0, _⟩
    · exact equal_empty a1 a2 c1 c2 w
    · exact absurd rfl h0
  · rcases h2 with ⟨rfl, _⟩ | ⟨_, b2, o2, c2, rfl, _, _, hC2⟩
    · exact absurd rfl h0
    · exact equal_cells_big b1 o1 c1 b2 o2 c2 cs w hC1 hC2 hn
set_option maxHeartbeats 1000000 in
/-- SameGrid of two grids that read alike. -/
theorem same_any_big (a h : Int) (v1 v2 : Value) (cs : List C) (w : World) (h1 : SliceAt w v1 cs) (h2 : SliceAt w v2 cs) (hn : cs.length ≤ 4398046511104) :
    Calls Tryd.prog 15 #[.agg #[.int .i64 a, .int .i64 h, v1], .agg #[.int .i64 a, .int .i64 h, v2]] w fun e w' => e = .returned (.bool true) ∧ Below w.heap.size w w' := by
  have H1 : Hid (SliceAt w v1 cs) := h1
  have H2 : Hid (SliceAt w v2 cs) := h2
  clear h1 h2
  have kk : Below w.heap.size w ((w.alloc (.cells #[.int .i64 a, .int .i64 h, v1] 24)).alloc (.cells #[.int .i64 a, .int .i64 h, v2] 24)) := ((Below.refl _ _).alloc (Nat.le_refl _) _).alloc (by simp) _
  have aa : (a == a) = true := by simp
  have ee : (h == h) = true := by simp
  go_enter Tryd.func15, Tryd.ntmps15
  go_wp2_with (first | (go_at_call 38; refine (equal_slices_big v1 v2 cs _ (H1.out.below kk) (H2.out.below kk) hn).mono ?_; rintro e W1 ⟨rfl, b1⟩))
  go_ret
  exact ⟨rfl, kk.trans (b1.mono kk.size)⟩
set_option maxHeartbeats 1000000 in
theorem clone_empty (a : Option Addr) (c : Nat) (w : World) :
    Calls Tryd.prog 39 #[.slice a 0 c] w fun e w' => ∃ a' c', e = .returned (.slice a' 0 c') ∧ Below w.heap.size w w' := by
  obtain ⟨i0, hi, hzz⟩ := Option.map_eq_some_iff.1 info_cell
  simp only [Prod.mk.injEq] at hzz
  obtain ⟨hz0, hz1, hz2⟩ := hzz
  have qn : ∀ (w : World) (a : Option Addr) (n c n' c' : Nat), (binOp .eql 22 (.slice a n c) (.slice none n' c')).run Tryd.prog w = .ok (.bool a.isNone) w := fun w a n c n' c' => Lib.run_eql_slice_nil w _ _ a n c n' c' und_cells
  cases a with
  | none =>
    go_enter Tryd.func39, Tryd.ntmps39
    go_wp2_with fail
    go_ret
    exact ⟨_, _, rfl, Below.refl _ _⟩
  | some ad =>
    go_enter Tryd.func39, Tryd.ntmps39
    go_wp2_with (at_builtin; refine wpList_append_own _ rfl _ _ 22 rfl w.heap.size 40 i0 (.agg #[.int .i32 0, .int .i64 0, .int .i64 0, .int .i64 0]) 4 32 und_cells hi hz0 hz1 hz2 rfl (by decide) _ _ _ rfl (World.ownsRow_made w #[] 0 (Nat.le_refl _) (Nat.zero_le _) rfl) ad 0 c [] rfl rfl (by simp) (by simp) (by unfold maxLen; omega) (by omega) (by simp) ?_)
    intro v' w1 hown hgrow hnil
    have hsh : ∃ a' c', v' = .slice a' 0 c' := by
      rcases hown.2 with h | ⟨g, cp, _, h, _⟩
      · exact ⟨_, _, h.1⟩
      · exact ⟨_, _, h⟩
    obtain ⟨a', c', rfl⟩ := hsh
    go_wp2_with fail
    go_ret
    exact ⟨a', c', rfl, ((Below.refl _ w).alloc (Nat.le_refl _) _).grown hgrow (by simp) (by intro k hk; simp [Value.ownBlock] at hk; omega)⟩
theorem clone_any (v : Value) (cs : List C) (w : World) (hS : SliceAt w v cs) (hbig : cs.length * 32 ≤ 140737488355328) :
    Calls Tryd.prog 39 #[v] w fun e w' => ∃ a' c', e = .returned (.slice a' cs.length c') ∧ (cs = [] ∨ OwnG w' w.heap.size (.slice a' cs.length c') cs) ∧ Below w.heap.size w w' := by
  rcases hS with ⟨rfl, a, c, rfl⟩ | ⟨hne, b, o, c, rfl, hc, hm, hC⟩
  · exact (clone_empty a c w).mono fun e w' ⟨a', c', he, hb⟩ => ⟨a', c', he, .inl rfl, hb⟩
  · exact (clone_cells b o c cs w hC hbig).mono fun e w' ⟨v', he, ho, hb⟩ => by
      have ho' := ho
      obtain ⟨g, cp, rs, t, rfl, _⟩ := ho
      exact ⟨_, _, he, .inr ho', hb⟩
set_option maxHeartbeats 1000000 in
theorem own_any (a h : Int) (v : Value) (cs : List C) (w : World) (hS : SliceAt w v cs) (hbig : cs.length * 32 ≤ 140737488355328) :
    Calls Tryd.prog 17 #[.agg #[.int .i64 a, .int .i64 h, v]] w fun e w' => ∃ a' c', e = .returned (.agg #[.int .i64 a, .int .i64 h, .slice a' cs.length c']) ∧ SliceAt w' (.slice a' cs.length c') cs ∧ Below w.heap.size w w' := by
  have HS : Hid (SliceAt w v cs) := hS
  have kk : Below w.heap.size w ((w.alloc (.cells #[.int .i64 a, .int .i64 h, v] 24)).alloc (.cells #[.int .i64 0, .int .i64 0, .slice none 0 0] 24)) := ((Below.refl _ _).alloc (Nat.le_refl _) _).alloc (by simp) _
  have x0 : ((w.alloc (.cells #[.int .i64 a, .int .i64 h, v] 24)).alloc (.cells #[.int .i64 0, .int .i64 0, .slice none 0 0] 24)).heap[w.heap.size]? = some (.cells #[.int .i64 a, .int .i64 h, v] 24 (0, 0)) := (Below.heap_alloc _ _ _ (by simp)).trans (heap_alloc_new _ _)
  have x1 : ((w.alloc (.cells #[.int .i64 a, .int .i64 h, v] 24)).alloc (.cells #[.int .i64 0, .int .i64 0, .slice none 0 0] 24)).heap[w.heap.size + 1]? = some (.cells #[.int .i64 0, .int .i64 0, .slice none 0 0] 24 (0, 0)) := heap_alloc2_new w _ _
  obtain ⟨va, vc, rfl⟩ := hS.shape
  clear hS
  go_enter Tryd.func17, Tryd.ntmps17
  go_wp2_with fail
  refine (clone_any _ cs _ (HS.out.below kk) hbig).mono ?_
  rintro e W2 ⟨a2, c2, rfl, hs2, b2⟩
  have y0 := carry x0 b2
  have y1 := carry x1 b2
  have ⟨d0, d1, d2, df⟩ := cells3 y0
  have f2 := df 2
  have z0' := heap_setCell_same W2 w.heap.size 2 _ _ (.slice a2 cs.length c2) y0
  have z1' := (heap_setCell_other W2 ⟨w.heap.size, 2, none⟩ (w.heap.size + 1) (.slice a2 cs.length c2) (Nat.succ_ne_self _)).trans y1
  have HS2 : Hid (cs = [] ∨ OwnG W2 (w.heap.size + 2) (.slice a2 cs.length c2) cs) := by
    rcases hs2 with h' | h'
    · exact .inl h'
    · have e : ((w.alloc (.cells #[.int .i64 a, .int .i64 h, .slice va cs.length vc] 24)).alloc (.cells #[.int .i64 0, .int .i64 0, .slice none 0 0] 24)).heap.size = w.heap.size + 2 := by simp
      rw [e] at h'
      exact .inr h'
  clear hs2
  go_wp2_with (first
    | (refine wpList_load_row rfl 24 _ rfl w.heap.size rfl _ _ _ _ z0' Tryd.underlying24 rfl (by kernel_rfl) ?_)
    | (refine wpList_store_row rfl 24 (.tmp 2) _ rfl (w.heap.size + 1) #[.int .i64 a, .int .i64 h, .slice a2 cs.length c2] rfl rfl _ _ z1' (by kernel_rfl) rfl (one3v _ _ _ _ _) ?_))
  (try simp only [Exit.inBlock, Exit.then])
  refine bodyPost_ret (v := .agg #[.int .i64 a, .int .i64 h, .slice a2 cs.length c2]) ?_ rfl ⟨a2, c2, rfl, ?_, below_setRow ((kk.trans (b2.mono kk.size)).setCell (Nat.le_refl _) _) (by omega) _⟩
  · exact results_cell_row rfl _ _ (w.heap.size + 1) _ _ _ _ rfl (setRow_heap _ _ _ _ _ _ z1') Tryd.underlying24 rfl (by kernel_rfl)
  · rcases HS2.out with h | ⟨g, cp, rs, t, hv, hg, h1, h2, h3⟩
    · exact .inl ⟨h, _, _, by rw [h]; rfl⟩
    · refine OwnG.slice (base := 0) ⟨g, cp, rs, t, hv, by omega, h1, h2, ?_⟩
      rw [setRow_other _ _ _ _ (by omega), heap_setCell_other _ _ _ _ (by dsimp only; omega)]
      exact h3
end Grd
end Go.Proofs.YtinhmklpnkikgaaDoor

/- What the reference's CheckGrid says, over lists: the same as grid.Check. -/
namespace Go.Proofs.YtinhmklpnkikgaaDoor
namespace Grd
open Txt (wd)
open Sty (isSt)
/-- What the reference says of the cell i of a grid of width n. -/
def cellR (n : Nat) (cs : List C) (i : Nat) : Int :=
  if ((cs.getD i z0).1 ≠ 0 ∧ wd (cs.getD i z0).1 = 0) ∨ isSt (cs.getD i z0).2 = false then 4
  else if (cs.getD i z0).1 = 0 ∧ (i % n = 0 ∨ wd (cs.getD (i - 1) z0).1 ≠ 2 ∨ (cs.getD (i - 1) z0).2 ≠ (cs.getD i z0).2) then 5
  else if wd (cs.getD i z0).1 = 2 ∧ (i % n + 1 = n ∨ (cs.getD (i + 1) z0).1 ≠ 0) then 5 else 0
/-- grid.Check and the reference's CheckGrid say the same. -/
end Grd
end Go.Proofs.YtinhmklpnkikgaaDoor

/- Plain mathematics on the rows of a grid: parts of a row set, rows one behind the other, mending, what is a right row. -/
namespace Go.Proofs.YtinhmklpnkikgaaDoor
namespace Grd
open Txt (wd)
open Sty (isSt)
/-- A row with the cells at which p holds set to f. -/
def putRow (row : List C) (p : Nat → Bool) (f : Nat → C) : List C := (List.range row.length).map fun x => if p x then f x else row.getD x z0
/-- One more cell set. -/
/-- The rows below k, each as f makes it, one behind the other. -/
def preF (n : Nat) (cs : List C) (f : Nat → List C → List C) : Nat → List C
  | 0 => []
  | k + 1 => preF n cs f k ++ f k (rowAt n cs k)
def KeepLen (n : Nat) (f : Nat → List C → List C) : Prop := ∀ y row, row.length = n → (f y row).length = n
/-- Mending, each cell by what stood there: the order makes no difference. -/
def mendM (cs : List C) : List C := (List.range cs.length).map fun x => if loose cs x then (32, (cs.getD x z0).2) else cs.getD x z0
/-- What a row must be so that mending makes a right one of it. -/
def Meant (row : List C) : Prop := ∀ x, x < row.length → ((row.getD x z0).1 ≠ 0 → wd (row.getD x z0).1 ≠ 0) ∧ isSt (row.getD x z0).2 = true ∧
  ((row.getD x z0).1 = 0 → 0 < x → wd (row.getD (x - 1) z0).1 = 2 → (row.getD x z0).2 = (row.getD (x - 1) z0).2)
def RightRow (row : List C) : Prop := Meant row ∧ ∀ x, x < row.length → loose row x = false
/-- The cells of 'fr' upon a row, from s on (s may be below 0). -/
def layP (m : Nat) (s : Int) (x : Nat) : Bool := decide (s ≤ x ∧ (x : Int) < s + m)
def layF (fr : List C) (s : Int) (x : Nat) : C := fr.getD ((x : Int) - s).toNat z0
/-- One rune written at x, where it has room. -/
def writeOne (look : Int × Int × Int) (row : List C) (x : Nat) (r : Int) : List C :=
  if wd r = 0 then row else if wd r = 2 then (row.set x (r, look)).set (x + 1) (0, look) else row.set x (r, look)
def writeR (look : Int × Int × Int) : List (Int × Nat) → List C → Nat → List C
  | [], row, _ => row
  | r :: rs, row, x => if (row.length : Int) - x < wd r.1 then row else writeR look rs (writeOne look row x r.1) (x + (wd r.1).toNat)
end Grd
end Go.Proofs.YtinhmklpnkikgaaDoor

/- One cell stored into a row in the middle of a block. -/
namespace Go.Proofs.YtinhmklpnkikgaaDoor
open Go.ChangeShapes Go.WideShapes Go.ChangeAt Go.RowKit
namespace Grd
/-- A cell stored at x of the row that lies behind 'pre'. -/
end Grd
end Go.Proofs.YtinhmklpnkikgaaDoor

/- The reference's MendRow. -/
namespace Go.Proofs.YtinhmklpnkikgaaDoor
open Go.ChangeShapes Go.WideShapes Go.ChangeAt Go.RowKit
namespace Grd
open Txt (wd)
/-- The cells below i are mended, the others not yet. -/
def mendPre (cs : List C) (i : Nat) : List C := (mendM cs).take i ++ cs.drop i
/-- The cell at i is the second half of the rune before it. -/
def second (cs : List C) (i : Nat) : Bool := decide (0 < i ∧ i < cs.length ∧ (cs.getD i z0).1 = 0 ∧ wd (cs.getD (i - 1) z0).1 = 2)
end Grd
end Go.Proofs.YtinhmklpnkikgaaDoor

/- The walk of the reference's MendRow. -/
namespace Go.Proofs.YtinhmklpnkikgaaDoor
open Go.ChangeShapes Go.WideShapes Go.ChangeAt Go.RowKit
namespace Grd
open Txt (wd)
/-- A slice that reads as a row, alone in the block g. -/
def RowB (w : World) (g : Nat) (v : Value) (row : List C) : Prop := ∃ (cap : Nat) (rest : List Value), v = .slice (some ⟨g, 0, none⟩) row.length cap ∧ row.length ≤ cap ∧ cap ≤ 9223372036854775807 ∧ w.heap[g]? = some (.cells (flat row ++ rest).toArray 40 (0, 0))
end Grd
end Go.Proofs.YtinhmklpnkikgaaDoor

/- The walk of the reference's CheckGrid. -/
namespace Go.Proofs.YtinhmklpnkikgaaDoor
open Go.ChangeShapes Go.WideShapes Go.ChangeAt Go.RowKit
namespace Grd
open Txt (wd)
open Sty (isSt)
theorem isStyle_to (f b x : Int) (v : Bool) (h : isSt (f, b, x) = v) (w : World) : Calls Tryd.prog 20 #[.agg #[.int .i64 f, .int .i64 b, .int .i64 x]] w fun e w' => e = .returned (.bool v) ∧ Below w.heap.size w w' := by
  have := Sty.isStyle_any f b x w
  rwa [h] at this
theorem size_false (a b : Int) (h : isSize a b = false) : (a < 1 ∨ 120 < a) ∨ (b < 1 ∨ 60 < b) := by
  unfold isSize at h
  have := of_decide_eq_false h
  omega
set_option maxHeartbeats 1000000 in
theorem ref_size1 (a b : Int) (v : Value) (w : World) (h : isSize a b = false) :
    Calls Tryd.prog 12 #[.agg #[.int .i64 a, .int .i64 b, v]] w fun e w' => e = .returned (.int .i64 3) ∧ Below w.heap.size w w' := by
  rcases size_false a b h with (h1 | h1) | h2
  · go_enter Tryd.func12, Tryd.ntmps12
    go_wp2_with fail
    go_ret
    exact ⟨rfl, (Below.refl _ _).alloc (Nat.le_refl _) _⟩
  · have h1' : 1 ≤ a := by omega
    go_enter Tryd.func12, Tryd.ntmps12
    go_wp2_with fail
    go_ret
    exact ⟨rfl, (Below.refl _ _).alloc (Nat.le_refl _) _⟩
  · by_cases ha : 1 ≤ a ∧ a ≤ 120
    · obtain ⟨ha1, ha2⟩ := ha
      rcases h2 with h2 | h2
      · go_enter Tryd.func12, Tryd.ntmps12
        go_wp2_with fail
        go_ret
        exact ⟨rfl, (Below.refl _ _).alloc (Nat.le_refl _) _⟩
      · have h2' : 1 ≤ b := by omega
        go_enter Tryd.func12, Tryd.ntmps12
        go_wp2_with fail
        go_ret
        exact ⟨rfl, (Below.refl _ _).alloc (Nat.le_refl _) _⟩
    · by_cases h1 : a < 1
      · clear h2 ha
        go_enter Tryd.func12, Tryd.ntmps12
        go_wp2_with fail
        go_ret
        exact ⟨rfl, (Below.refl _ _).alloc (Nat.le_refl _) _⟩
      · have h1' : 1 ≤ a := by omega
        have h1'' : 120 < a := by omega
        clear h2 ha
        go_enter Tryd.func12, Tryd.ntmps12
        go_wp2_with fail
        go_ret
        exact ⟨rfl, (Below.refl _ _).alloc (Nat.le_refl _) _⟩
set_option maxHeartbeats 1000000 in
theorem ref_size2 (a b : Int) (ad : Option Addr) (L c : Nat) (w : World) (h : isSize a b = true) (hL : (L : Int) ≠ a * b) :
    Calls Tryd.prog 12 #[.agg #[.int .i64 a, .int .i64 b, .slice ad L c]] w fun e w' => e = .returned (.int .i64 3) ∧ Below w.heap.size w w' := by
  have ⟨p0, p1, p2, p3, p4, p5⟩ := prod_in a b h
  clear h
  obtain ⟨p, hp⟩ : ∃ p, p = a * b := ⟨_, rfl⟩
  rw [← hp] at hL p0 p1
  have e1 : a * b = p := hp.symm
  clear hp
  have ne : ((L : Int) != p) = true := by simpa using hL
  clear hL
  go_enter Tryd.func12, Tryd.ntmps12
  go_wp2_with fail
  go_ret
  exact ⟨rfl, (Below.refl _ _).alloc (Nat.le_refl _) _⟩
set_option maxHeartbeats 4000000 in
set_option maxRecDepth 100000 in
theorem ref_rows (n hh : Nat) (b o c : Nat) (cs : List C) (w : World) (hC : CellsAt w b o cs) (hs : isSize n hh = true) (hL : cs.length = n * hh) :
    Calls Tryd.prog 12 #[.agg #[.int .i64 (n : Int), .int .i64 (hh : Int), .slice (some ⟨b, o, none⟩) cs.length c]] w fun e w' => e = .returned (.int .i64 (firstErr (cellR n cs) 0 (n * hh))) ∧ Below w.heap.size w w' := by
  have HC : Hid (CellsAt w b o cs) := hC
  have ⟨p0, p1, p2, p3, p4, p5⟩ := prod_in n hh hs
  clear hs hC
  have e1 : (n : Int) * (hh : Int) = (cs.length : Int) := by rw [hL]; simp
  have l1 : cs.length ≤ 7200 := by rw [hL]; omega
  have HMOD : Hid (∀ k, k < cs.length → ¬ k % n + 1 = n → k + 1 < cs.length) := fun k hk hl => by
    rcases Nat.lt_or_ge (k + 1) cs.length with h | h
    · exact h
    · exfalso
      apply hl
      have e : k + 1 = n * hh := by omega
      have hn1 : 1 ≤ n := by omega
      have hlt := Nat.mod_lt k (show 0 < n by omega)
      have h1 : (k + 1) % n = 0 := by rw [e]; exact Nat.mul_mod_right n hh
      rw [Nat.add_mod] at h1
      rcases Nat.lt_or_ge (k % n + 1) n with h2 | h2
      · rcases Nat.lt_or_ge 1 n with h3 | h3
        · rw [Nat.mod_eq_of_lt h3, Nat.mod_eq_of_lt h2] at h1
          omega
        · omega
      · omega
  rw [← hL]
  clear hL p0 p1
  have ne : ((cs.length : Int) != (cs.length : Int)) = false := by simp
  generalize hl : cs.length = L at *
  have HLn : Hid (cs.length = L) := hl
  clear hl
  go_enter Tryd.func12, Tryd.ntmps12
  go_wp2_with fail
  go_loopg [39] L (fun g i wr => ∃ k : Nat, i = .int .i64 (k : Int) ∧ k ≤ L ∧ L - k ≤ g ∧ Below w.heap.size w wr ∧ wr.heap[w.heap.size]? = some (.cells #[.int .i64 (n : Int), .int .i64 (hh : Int), .slice (some ⟨b, o, none⟩) L c] 24 (0, 0)) ∧ firstErr (cellR n cs) k (L - k) = firstErr (cellR n cs) 0 L)
  case atStart => exact ⟨0, rfl, by omega, by omega, (Below.refl _ _).alloc (Nat.le_refl _) _, heap_alloc_new _ _, rfl⟩
  case round =>
    obtain ⟨k, rfl, hk, hg, hb, hv, hf⟩ := hrel
    have HF1 : Hid (firstErr (cellR n cs) k (L - k) = firstErr (cellR n cs) 0 L) := hf
    clear hf
    have ⟨g0, g1, g2, _⟩ := cells3 hv
    by_cases hlt : k < L
    · have HST : Hid (firstErr (cellR n cs) k (L - k) = if cellR n cs k = 0 then firstErr (cellR n cs) (k + 1) (L - (k + 1)) else cellR n cs k) := first_step (cellR n cs) k L hlt
      have lt1 : ((k : Int) < (L : Int)) := by omega
      obtain ⟨t0, t1, t2, t3⟩ := HC.out.below hb k (by rw [HLn.out]; exact hlt)
      have HCW : Hid (CellsAt wr b o cs) := HC.out.below hb
      rcases hcc : cs.getD k z0 with ⟨r, f, bk, xx⟩
      rw [hcc] at t0 t1 t2 t3
      dsimp only at t0 t1 t2 t3
      have HCC : Hid (cs.getD k z0 = (r, f, bk, xx)) := hcc
      clear hcc
      have ⟨c0, c1, c2, c3⟩ := cells4_new wr 40 (.int .i32 r) (.int .i64 f) (.int .i64 bk) (.int .i64 xx)
      have kb : Below wr.heap.size wr (wr.alloc (.cells #[.int .i32 r, .int .i64 f, .int .i64 bk, .int .i64 xx] 40)) := (Below.refl _ _).alloc (Nat.le_refl _) _
      have g0' := cell_keep kb g0
      have g1' := cell_keep kb g1
      have g2' := cell_keep kb g2
      by_cases hr : r = 0
      · cases hs : isSt (f, bk, xx) with
        | false =>
          have HZ : cellR n cs k = 4 := by unfold cellR; rw [HCC.out]; dsimp only; rw [if_pos (Or.inr hs)]
          have HV : Hid ((4 : Int) = firstErr (cellR n cs) 0 L) := by unfold Hid; rw [← HF1.out, HST.out, HZ, if_neg (by decide)]
          subst hr
          have HW : Hid (wd 0 = 0) := wd0
          have HS : Hid (isSt (f, bk, xx) = false) := hs
          clear hs HZ
          go_wp2_with (first | (go_at_call 19; refine (widthOf_to 0 _ 0 HW.out).mono ?_; rintro e W1 ⟨rfl, b1⟩; have d0 := cell_keep b1 c0; have d1 := cell_keep b1 c1; have d2 := cell_keep b1 c2; have d3 := cell_keep b1 c3; have G0 := cell_keep b1 g0'; have G1 := cell_keep b1 g1'; have G2 := cell_keep b1 g2'; have kw1 : Below wr.heap.size wr W1 := kb.trans (b1.mono kb.size)) | (go_at_call 20; refine (isStyle_to f bk xx _ HS.out _).mono ?_; rintro e W2 ⟨rfl, b2⟩; have e0 := cell_keep b2 d0; have e1 := cell_keep b2 d1; have e2 := cell_keep b2 d2; have e3 := cell_keep b2 d3; have E0 := cell_keep b2 G0; have E1 := cell_keep b2 G1; have E2 := cell_keep b2 G2; have kw2 : Below wr.heap.size wr W2 := kw1.trans (b2.mono kw1.size)))
          go_ret
          exact ⟨Txt.ret_int HV.out, hb.trans (kw2.mono hb.size)⟩
        | true =>
          by_cases hx0 : k % n = 0
          · have HZ : cellR n cs k = 5 := by unfold cellR; rw [HCC.out]; dsimp only; rw [if_neg (by simp [hr, hs])]; rw [if_pos ⟨hr, Or.inl hx0⟩]
            have HV : Hid ((5 : Int) = firstErr (cellR n cs) 0 L) := by unfold Hid; rw [← HF1.out, HST.out, HZ, if_neg (by decide)]
            subst hr
            have HW : Hid (wd 0 = 0) := wd0
            have nx : ((k : Int) % (n : Int) == 0) = true := by rw [← Int.natCast_emod, hx0]; rfl
            have HS : Hid (isSt (f, bk, xx) = true) := hs
            clear hs HZ
            go_wp2_with (first | (go_at_call 19; refine (widthOf_to 0 _ 0 HW.out).mono ?_; rintro e W1 ⟨rfl, b1⟩; have d0 := cell_keep b1 c0; have d1 := cell_keep b1 c1; have d2 := cell_keep b1 c2; have d3 := cell_keep b1 c3; have G0 := cell_keep b1 g0'; have G1 := cell_keep b1 g1'; have G2 := cell_keep b1 g2'; have kw1 : Below wr.heap.size wr W1 := kb.trans (b1.mono kb.size)) | (go_at_call 20; refine (isStyle_to f bk xx _ HS.out _).mono ?_; rintro e W2 ⟨rfl, b2⟩; have e0 := cell_keep b2 d0; have e1 := cell_keep b2 d1; have e2 := cell_keep b2 d2; have e3 := cell_keep b2 d3; have E0 := cell_keep b2 G0; have E1 := cell_keep b2 G1; have E2 := cell_keep b2 G2; have kw2 : Below wr.heap.size wr W2 := kw1.trans (b2.mono kw1.size)))
            have y0 : ∀ d os, (Sort.grow (redrawn W2 d) os).cell? ⟨wr.heap.size, 0, none⟩ = some (.int .i32 0) := fun d os => cell_regrown e0 d os
            have y1 : ∀ d os, (Sort.grow (redrawn W2 d) os).cell? ⟨wr.heap.size, 1, none⟩ = some (.int .i64 f) := fun d os => cell_regrown e1 d os
            have y2 : ∀ d os, (Sort.grow (redrawn W2 d) os).cell? ⟨wr.heap.size, 2, none⟩ = some (.int .i64 bk) := fun d os => cell_regrown e2 d os
            have y3 : ∀ d os, (Sort.grow (redrawn W2 d) os).cell? ⟨wr.heap.size, 3, none⟩ = some (.int .i64 xx) := fun d os => cell_regrown e3 d os
            have z0 : ∀ d os, (Sort.grow (redrawn W2 d) os).cell? ⟨w.heap.size, 0, none⟩ = some (.int .i64 (n : Int)) := fun d os => cell_regrown E0 d os
            have z2 : ∀ d os, (Sort.grow (redrawn W2 d) os).cell? ⟨w.heap.size, 2, none⟩ = some (.slice (some ⟨b, o, none⟩) L c) := fun d os => cell_regrown E2 d os
            refine wp_region_quiet_below (by kernel_rfl) (by kernel_rfl) ?_
            repeat (first | go_big_quiet_skip | quiet_step (fail))
            refine wpQuiet_nil ?_
            intro _ hw'
            obtain ⟨⟨dq, os⟩, hw''⟩ := hw'
            subst hw''
            have b3 := below_regrown W2 dq os
            have kw3 : Below wr.heap.size wr (Sort.grow (redrawn W2 dq) os) := kw2.trans (b3.mono kw2.size)
            have F0 := cell_keep b3 E0
            have F2 := cell_keep b3 E2
            have N0 := fun (a : Addr) (v : Value) (h : wr.cell? a = some v) => cell_keep kw3 h
            clear y0 y1 y2 y3 z0 z2
            generalize Sort.grow (redrawn W2 dq) os = W3 at *
            go_wp2_with fail
            go_ret
            exact ⟨Txt.ret_int HV.out, hb.trans (kw3.mono hb.size)⟩
          · have hk0 : 0 < k := by
              rcases Nat.eq_zero_or_pos k with h | h
              · exact absurd (by rw [h]; simp) hx0
              · exact h
            obtain ⟨q0, q1, q2, q3⟩ := HCW.out (k - 1) (by rw [HLn.out]; omega)
            rcases hpp : cs.getD (k - 1) z0 with ⟨rp, fp, bp, xp⟩
            rw [hpp] at q0 q1 q2 q3
            dsimp only at q0 q1 q2 q3
            have nx : ((k : Int) % (n : Int) == 0) = false := by rw [← Int.natCast_emod]; simp only [beq_eq_false_iff_ne, ne_eq]; omega

            by_cases hp2 : wd rp = 2
            · by_cases hq : (fp, bp, xp) = (f, bk, xx)
              · have HZ : cellR n cs k = 0 := by unfold cellR; rw [HCC.out]; dsimp only; rw [if_neg (by simp [hr, hs])]; rw [if_neg (by rw [hpp]; simp [hx0, hp2, hq]), if_neg (by rw [hr, wd0]; simp)]
                have HV : Hid (firstErr (cellR n cs) (k + 1) (L - (k + 1)) = firstErr (cellR n cs) 0 L) := by unfold Hid; rw [← HF1.out, HST.out, if_pos HZ]
                subst hr
                have HW : Hid (wd 0 = 0) := wd0
                have HP : Hid (wd rp = 2) := hp2
                clear hp2
                have nq : ∀ w, (binOp .neq 38 (.agg #[.int .i64 fp, .int .i64 bp, .int .i64 xp]) (.agg #[.int .i64 f, .int .i64 bk, .int .i64 xx])).run Tryd.prog w = .ok (.bool false) w := fun w => by rw [Sty.neq_agg]; simp [hq]
                clear hq hpp
                have HS : Hid (isSt (f, bk, xx) = true) := hs
                clear hs HZ
                go_wp2_with (first | (go_at_call 19; refine (widthOf_to 0 _ 0 HW.out).mono ?_; rintro e W1 ⟨rfl, b1⟩; have d0 := cell_keep b1 c0; have d1 := cell_keep b1 c1; have d2 := cell_keep b1 c2; have d3 := cell_keep b1 c3; have G0 := cell_keep b1 g0'; have G1 := cell_keep b1 g1'; have G2 := cell_keep b1 g2'; have kw1 : Below wr.heap.size wr W1 := kb.trans (b1.mono kb.size)) | (go_at_call 20; refine (isStyle_to f bk xx _ HS.out _).mono ?_; rintro e W2 ⟨rfl, b2⟩; have e0 := cell_keep b2 d0; have e1 := cell_keep b2 d1; have e2 := cell_keep b2 d2; have e3 := cell_keep b2 d3; have E0 := cell_keep b2 G0; have E1 := cell_keep b2 G1; have E2 := cell_keep b2 G2; have kw2 : Below wr.heap.size wr W2 := kw1.trans (b2.mono kw1.size)))
                have y0 : ∀ d os, (Sort.grow (redrawn W2 d) os).cell? ⟨wr.heap.size, 0, none⟩ = some (.int .i32 0) := fun d os => cell_regrown e0 d os
                have y1 : ∀ d os, (Sort.grow (redrawn W2 d) os).cell? ⟨wr.heap.size, 1, none⟩ = some (.int .i64 f) := fun d os => cell_regrown e1 d os
                have y2 : ∀ d os, (Sort.grow (redrawn W2 d) os).cell? ⟨wr.heap.size, 2, none⟩ = some (.int .i64 bk) := fun d os => cell_regrown e2 d os
                have y3 : ∀ d os, (Sort.grow (redrawn W2 d) os).cell? ⟨wr.heap.size, 3, none⟩ = some (.int .i64 xx) := fun d os => cell_regrown e3 d os
                have z0 : ∀ d os, (Sort.grow (redrawn W2 d) os).cell? ⟨w.heap.size, 0, none⟩ = some (.int .i64 (n : Int)) := fun d os => cell_regrown E0 d os
                have z2 : ∀ d os, (Sort.grow (redrawn W2 d) os).cell? ⟨w.heap.size, 2, none⟩ = some (.slice (some ⟨b, o, none⟩) L c) := fun d os => cell_regrown E2 d os
                have u0 : ∀ d os, (Sort.grow (redrawn W2 d) os).cell? ⟨b, o + (k - 1) * 4, none⟩ = some (.int .i32 rp) := fun d os => cell_regrown (cell_keep kw2 q0) d os
                have u1 : ∀ d os, (Sort.grow (redrawn W2 d) os).cell? ⟨b, o + (k - 1) * 4 + 1, none⟩ = some (.int .i64 fp) := fun d os => cell_regrown (cell_keep kw2 q1) d os
                have u2 : ∀ d os, (Sort.grow (redrawn W2 d) os).cell? ⟨b, o + (k - 1) * 4 + 2, none⟩ = some (.int .i64 bp) := fun d os => cell_regrown (cell_keep kw2 q2) d os
                have u3 : ∀ d os, (Sort.grow (redrawn W2 d) os).cell? ⟨b, o + (k - 1) * 4 + 3, none⟩ = some (.int .i64 xp) := fun d os => cell_regrown (cell_keep kw2 q3) d os
                have hwr : IntKind.i64.wrap ((k : Int) - 1) = ((k - 1 : Nat) : Int) := by unfold IntKind.wrap; simp [IntKind.bits, IntKind.signed]; omega
                have hkp : k - 1 < L := by omega
                have K4 : Hid (∀ d os, Calls Tryd.prog 19 #[.int .i32 rp] (Sort.grow (redrawn W2 d) os) fun e w'' => e = .returned (.int .i64 2) ∧ ∃ p : Regrown, w'' = Sort.grow (redrawn W2 p.d) p.os) := fun d os => Calls.regrown_of (widthOf_to rp _ 2 HP.out)
                refine wp_region_quiet_below (by kernel_rfl) (by kernel_rfl) ?_
                repeat (first | go_big_quiet_skip | quiet_step (first | (go_at_call 19; exact K4.out _ _)))
                refine wpQuiet_nil ?_
                intro _ hw'
                obtain ⟨⟨dq, os⟩, hw''⟩ := hw'
                subst hw''
                have b3 := below_regrown W2 dq os
                have kw3 : Below wr.heap.size wr (Sort.grow (redrawn W2 dq) os) := kw2.trans (b3.mono kw2.size)
                have F0 := cell_keep b3 E0
                have F2 := cell_keep b3 E2
                have N0 := fun (a : Addr) (v : Value) (h : wr.cell? a = some v) => cell_keep kw3 h
                clear y0 y1 y2 y3 z0 z2 u0 u1 u2 u3
                generalize Sort.grow (redrawn W2 dq) os = W3 at *
                go_wp2_with fail
                go_roundg (L - (k + 1))
                case measure => omega
                case rel => exact ⟨k + 1, rfl, by omega, by omega, hb.trans (kw3.mono hb.size), carry hv kw3, HV.out⟩
              · have HZ : cellR n cs k = 5 := by unfold cellR; rw [HCC.out]; dsimp only; rw [if_neg (by simp [hr, hs])]; rw [if_pos ⟨hr, Or.inr (Or.inr (by rw [hpp]; exact hq))⟩]
                have HV : Hid ((5 : Int) = firstErr (cellR n cs) 0 L) := by unfold Hid; rw [← HF1.out, HST.out, HZ, if_neg (by decide)]
                subst hr
                have HW : Hid (wd 0 = 0) := wd0
                have HP : Hid (wd rp = 2) := hp2
                clear hp2
                have nq : ∀ w, (binOp .neq 38 (.agg #[.int .i64 fp, .int .i64 bp, .int .i64 xp]) (.agg #[.int .i64 f, .int .i64 bk, .int .i64 xx])).run Tryd.prog w = .ok (.bool true) w := fun w => by rw [Sty.neq_agg]; simp [hq]
                clear hq hpp
                have HS : Hid (isSt (f, bk, xx) = true) := hs
                clear hs HZ
                go_wp2_with (first | (go_at_call 19; refine (widthOf_to 0 _ 0 HW.out).mono ?_; rintro e W1 ⟨rfl, b1⟩; have d0 := cell_keep b1 c0; have d1 := cell_keep b1 c1; have d2 := cell_keep b1 c2; have d3 := cell_keep b1 c3; have G0 := cell_keep b1 g0'; have G1 := cell_keep b1 g1'; have G2 := cell_keep b1 g2'; have kw1 : Below wr.heap.size wr W1 := kb.trans (b1.mono kb.size)) | (go_at_call 20; refine (isStyle_to f bk xx _ HS.out _).mono ?_; rintro e W2 ⟨rfl, b2⟩; have e0 := cell_keep b2 d0; have e1 := cell_keep b2 d1; have e2 := cell_keep b2 d2; have e3 := cell_keep b2 d3; have E0 := cell_keep b2 G0; have E1 := cell_keep b2 G1; have E2 := cell_keep b2 G2; have kw2 : Below wr.heap.size wr W2 := kw1.trans (b2.mono kw1.size)))
                have y0 : ∀ d os, (Sort.grow (redrawn W2 d) os).cell? ⟨wr.heap.size, 0, none⟩ = some (.int .i32 0) := fun d os => cell_regrown e0 d os
                have y1 : ∀ d os, (Sort.grow (redrawn W2 d) os).cell? ⟨wr.heap.size, 1, none⟩ = some (.int .i64 f) := fun d os => cell_regrown e1 d os
                have y2 : ∀ d os, (Sort.grow (redrawn W2 d) os).cell? ⟨wr.heap.size, 2, none⟩ = some (.int .i64 bk) := fun d os => cell_regrown e2 d os
                have y3 : ∀ d os, (Sort.grow (redrawn W2 d) os).cell? ⟨wr.heap.size, 3, none⟩ = some (.int .i64 xx) := fun d os => cell_regrown e3 d os
                have z0 : ∀ d os, (Sort.grow (redrawn W2 d) os).cell? ⟨w.heap.size, 0, none⟩ = some (.int .i64 (n : Int)) := fun d os => cell_regrown E0 d os
                have z2 : ∀ d os, (Sort.grow (redrawn W2 d) os).cell? ⟨w.heap.size, 2, none⟩ = some (.slice (some ⟨b, o, none⟩) L c) := fun d os => cell_regrown E2 d os
                have u0 : ∀ d os, (Sort.grow (redrawn W2 d) os).cell? ⟨b, o + (k - 1) * 4, none⟩ = some (.int .i32 rp) := fun d os => cell_regrown (cell_keep kw2 q0) d os
                have u1 : ∀ d os, (Sort.grow (redrawn W2 d) os).cell? ⟨b, o + (k - 1) * 4 + 1, none⟩ = some (.int .i64 fp) := fun d os => cell_regrown (cell_keep kw2 q1) d os
                have u2 : ∀ d os, (Sort.grow (redrawn W2 d) os).cell? ⟨b, o + (k - 1) * 4 + 2, none⟩ = some (.int .i64 bp) := fun d os => cell_regrown (cell_keep kw2 q2) d os
                have u3 : ∀ d os, (Sort.grow (redrawn W2 d) os).cell? ⟨b, o + (k - 1) * 4 + 3, none⟩ = some (.int .i64 xp) := fun d os => cell_regrown (cell_keep kw2 q3) d os
                have hwr : IntKind.i64.wrap ((k : Int) - 1) = ((k - 1 : Nat) : Int) := by unfold IntKind.wrap; simp [IntKind.bits, IntKind.signed]; omega
                have hkp : k - 1 < L := by omega
                have K4 : Hid (∀ d os, Calls Tryd.prog 19 #[.int .i32 rp] (Sort.grow (redrawn W2 d) os) fun e w'' => e = .returned (.int .i64 2) ∧ ∃ p : Regrown, w'' = Sort.grow (redrawn W2 p.d) p.os) := fun d os => Calls.regrown_of (widthOf_to rp _ 2 HP.out)
                refine wp_region_quiet_below (by kernel_rfl) (by kernel_rfl) ?_
                repeat (first | go_big_quiet_skip | quiet_step (first | (go_at_call 19; exact K4.out _ _)))
                refine wpQuiet_nil ?_
                intro _ hw'
                obtain ⟨⟨dq, os⟩, hw''⟩ := hw'
                subst hw''
                have b3 := below_regrown W2 dq os
                have kw3 : Below wr.heap.size wr (Sort.grow (redrawn W2 dq) os) := kw2.trans (b3.mono kw2.size)
                have F0 := cell_keep b3 E0
                have F2 := cell_keep b3 E2
                have N0 := fun (a : Addr) (v : Value) (h : wr.cell? a = some v) => cell_keep kw3 h
                clear y0 y1 y2 y3 z0 z2 u0 u1 u2 u3
                generalize Sort.grow (redrawn W2 dq) os = W3 at *
                go_wp2_with fail
                go_ret
                exact ⟨Txt.ret_int HV.out, hb.trans (kw3.mono hb.size)⟩
            · have HZ : cellR n cs k = 5 := by unfold cellR; rw [HCC.out]; dsimp only; rw [if_neg (by simp [hr, hs])]; rw [if_pos ⟨hr, Or.inr (Or.inl (by rw [hpp]; exact hp2))⟩]
              have HV : Hid ((5 : Int) = firstErr (cellR n cs) 0 L) := by unfold Hid; rw [← HF1.out, HST.out, HZ, if_neg (by decide)]
              subst hr
              have HW : Hid (wd 0 = 0) := wd0
              have np : (wd rp != 2) = true := by simpa using hp2
              clear hpp
              have HS : Hid (isSt (f, bk, xx) = true) := hs
              clear hs HZ
              go_wp2_with (first | (go_at_call 19; refine (widthOf_to 0 _ 0 HW.out).mono ?_; rintro e W1 ⟨rfl, b1⟩; have d0 := cell_keep b1 c0; have d1 := cell_keep b1 c1; have d2 := cell_keep b1 c2; have d3 := cell_keep b1 c3; have G0 := cell_keep b1 g0'; have G1 := cell_keep b1 g1'; have G2 := cell_keep b1 g2'; have kw1 : Below wr.heap.size wr W1 := kb.trans (b1.mono kb.size)) | (go_at_call 20; refine (isStyle_to f bk xx _ HS.out _).mono ?_; rintro e W2 ⟨rfl, b2⟩; have e0 := cell_keep b2 d0; have e1 := cell_keep b2 d1; have e2 := cell_keep b2 d2; have e3 := cell_keep b2 d3; have E0 := cell_keep b2 G0; have E1 := cell_keep b2 G1; have E2 := cell_keep b2 G2; have kw2 : Below wr.heap.size wr W2 := kw1.trans (b2.mono kw1.size)))
              have y0 : ∀ d os, (Sort.grow (redrawn W2 d) os).cell? ⟨wr.heap.size, 0, none⟩ = some (.int .i32 0) := fun d os => cell_regrown e0 d os
              have y1 : ∀ d os, (Sort.grow (redrawn W2 d) os).cell? ⟨wr.heap.size, 1, none⟩ = some (.int .i64 f) := fun d os => cell_regrown e1 d os
              have y2 : ∀ d os, (Sort.grow (redrawn W2 d) os).cell? ⟨wr.heap.size, 2, none⟩ = some (.int .i64 bk) := fun d os => cell_regrown e2 d os
              have y3 : ∀ d os, (Sort.grow (redrawn W2 d) os).cell? ⟨wr.heap.size, 3, none⟩ = some (.int .i64 xx) := fun d os => cell_regrown e3 d os
              have z0 : ∀ d os, (Sort.grow (redrawn W2 d) os).cell? ⟨w.heap.size, 0, none⟩ = some (.int .i64 (n : Int)) := fun d os => cell_regrown E0 d os
              have z2 : ∀ d os, (Sort.grow (redrawn W2 d) os).cell? ⟨w.heap.size, 2, none⟩ = some (.slice (some ⟨b, o, none⟩) L c) := fun d os => cell_regrown E2 d os
              have u0 : ∀ d os, (Sort.grow (redrawn W2 d) os).cell? ⟨b, o + (k - 1) * 4, none⟩ = some (.int .i32 rp) := fun d os => cell_regrown (cell_keep kw2 q0) d os
              have u1 : ∀ d os, (Sort.grow (redrawn W2 d) os).cell? ⟨b, o + (k - 1) * 4 + 1, none⟩ = some (.int .i64 fp) := fun d os => cell_regrown (cell_keep kw2 q1) d os
              have u2 : ∀ d os, (Sort.grow (redrawn W2 d) os).cell? ⟨b, o + (k - 1) * 4 + 2, none⟩ = some (.int .i64 bp) := fun d os => cell_regrown (cell_keep kw2 q2) d os
              have u3 : ∀ d os, (Sort.grow (redrawn W2 d) os).cell? ⟨b, o + (k - 1) * 4 + 3, none⟩ = some (.int .i64 xp) := fun d os => cell_regrown (cell_keep kw2 q3) d os
              have hwr : IntKind.i64.wrap ((k : Int) - 1) = ((k - 1 : Nat) : Int) := by unfold IntKind.wrap; simp [IntKind.bits, IntKind.signed]; omega
              have hkp : k - 1 < L := by omega
              have K4 : Hid (∀ d os, Calls Tryd.prog 19 #[.int .i32 rp] (Sort.grow (redrawn W2 d) os) fun e w'' => e = .returned (.int .i64 (wd rp)) ∧ ∃ p : Regrown, w'' = Sort.grow (redrawn W2 p.d) p.os) := fun d os => Calls.regrown_of (Txt.widthOf_any rp _)
              refine wp_region_quiet_below (by kernel_rfl) (by kernel_rfl) ?_
              repeat (first | go_big_quiet_skip | quiet_step (first | (go_at_call 19; exact K4.out _ _)))
              refine wpQuiet_nil ?_
              intro _ hw'
              obtain ⟨⟨dq, os⟩, hw''⟩ := hw'
              subst hw''
              have b3 := below_regrown W2 dq os
              have kw3 : Below wr.heap.size wr (Sort.grow (redrawn W2 dq) os) := kw2.trans (b3.mono kw2.size)
              have F0 := cell_keep b3 E0
              have F2 := cell_keep b3 E2
              have N0 := fun (a : Addr) (v : Value) (h : wr.cell? a = some v) => cell_keep kw3 h
              clear y0 y1 y2 y3 z0 z2 u0 u1 u2 u3
              generalize Sort.grow (redrawn W2 dq) os = W3 at *
              go_wp2_with fail
              go_ret
              exact ⟨Txt.ret_int HV.out, hb.trans (kw3.mono hb.size)⟩
      · by_cases hw : wd r = 0
        · have HZ : cellR n cs k = 4 := by unfold cellR; rw [HCC.out]; dsimp only; rw [if_pos (Or.inl ⟨hr, hw⟩)]
          have HV : Hid ((4 : Int) = firstErr (cellR n cs) 0 L) := by unfold Hid; rw [← HF1.out, HST.out, HZ, if_neg (by decide)]
          have nr : (r != 0) = true := by simpa using hr
          have nr' : (r == 0) = false := by simpa using hr
          have HW : Hid (wd r = 0) := hw
          clear hw HZ
          go_wp2_with (go_at_call 19; refine (widthOf_to r _ 0 HW.out).mono ?_; rintro e W1 ⟨rfl, b1⟩; have d0 := cell_keep b1 c0; have d1 := cell_keep b1 c1; have d2 := cell_keep b1 c2; have d3 := cell_keep b1 c3; have G0 := cell_keep b1 g0'; have G1 := cell_keep b1 g1'; have G2 := cell_keep b1 g2'; have kw1 : Below wr.heap.size wr W1 := kb.trans (b1.mono kb.size))
          go_ret
          exact ⟨Txt.ret_int HV.out, hb.trans (kw1.mono hb.size)⟩
        · cases hs : isSt (f, bk, xx) with
          | false =>
            have HZ : cellR n cs k = 4 := by unfold cellR; rw [HCC.out]; dsimp only; rw [if_pos (Or.inr hs)]
            have HV : Hid ((4 : Int) = firstErr (cellR n cs) 0 L) := by unfold Hid; rw [← HF1.out, HST.out, HZ, if_neg (by decide)]
            have nr : (r != 0) = true := by simpa using hr
            have nr' : (r == 0) = false := by simpa using hr
            have HW : Hid (wd r = wd r) := rfl
            have nw : (wd r == 0) = false := by simpa using hw
            have HS : Hid (isSt (f, bk, xx) = false) := hs
            clear hs HZ
            go_wp2_with (first | (go_at_call 19; refine (widthOf_to r _ _ HW.out).mono ?_; rintro e W1 ⟨rfl, b1⟩; have d0 := cell_keep b1 c0; have d1 := cell_keep b1 c1; have d2 := cell_keep b1 c2; have d3 := cell_keep b1 c3; have G0 := cell_keep b1 g0'; have G1 := cell_keep b1 g1'; have G2 := cell_keep b1 g2'; have kw1 : Below wr.heap.size wr W1 := kb.trans (b1.mono kb.size)) | (go_at_call 20; refine (isStyle_to f bk xx _ HS.out _).mono ?_; rintro e W2 ⟨rfl, b2⟩; have e0 := cell_keep b2 d0; have e1 := cell_keep b2 d1; have e2 := cell_keep b2 d2; have e3 := cell_keep b2 d3; have E0 := cell_keep b2 G0; have E1 := cell_keep b2 G1; have E2 := cell_keep b2 G2; have kw2 : Below wr.heap.size wr W2 := kw1.trans (b2.mono kw1.size)))
            go_ret
            exact ⟨Txt.ret_int HV.out, hb.trans (kw2.mono hb.size)⟩
          | true =>
            by_cases h2 : wd r = 2
            · by_cases hl : k % n + 1 = n
              · have HZ : cellR n cs k = 5 := by unfold cellR; rw [HCC.out]; dsimp only; rw [if_neg (by simp [hw, hs])]; rw [if_neg (by simp [hr]), if_pos ⟨h2, Or.inl hl⟩]
                have HV : Hid ((5 : Int) = firstErr (cellR n cs) 0 L) := by unfold Hid; rw [← HF1.out, HST.out, HZ, if_neg (by decide)]
                have nr : (r != 0) = true := by simpa using hr
                have nr' : (r == 0) = false := by simpa using hr
                have HW : Hid (wd r = 2) := h2
                clear h2 hw
                have nl : ((k : Int) % (n : Int) == (n : Int) - 1) = true := by rw [← Int.natCast_emod]; simp only [beq_iff_eq]; omega
                have HS : Hid (isSt (f, bk, xx) = true) := hs
                clear hs HZ
                go_wp2_with (first | (go_at_call 19; refine (widthOf_to r _ 2 HW.out).mono ?_; rintro e W1 ⟨rfl, b1⟩; have d0 := cell_keep b1 c0; have d1 := cell_keep b1 c1; have d2 := cell_keep b1 c2; have d3 := cell_keep b1 c3; have G0 := cell_keep b1 g0'; have G1 := cell_keep b1 g1'; have G2 := cell_keep b1 g2'; have kw1 : Below wr.heap.size wr W1 := kb.trans (b1.mono kb.size)) | (go_at_call 20; refine (isStyle_to f bk xx _ HS.out _).mono ?_; rintro e W2 ⟨rfl, b2⟩; have e0 := cell_keep b2 d0; have e1 := cell_keep b2 d1; have e2 := cell_keep b2 d2; have e3 := cell_keep b2 d3; have E0 := cell_keep b2 G0; have E1 := cell_keep b2 G1; have E2 := cell_keep b2 G2; have kw2 : Below wr.heap.size wr W2 := kw1.trans (b2.mono kw1.size)))
                have y0 : ∀ d os, (Sort.grow (redrawn W2 d) os).cell? ⟨wr.heap.size, 0, none⟩ = some (.int .i32 r) := fun d os => cell_regrown e0 d os
                have y1 : ∀ d os, (Sort.grow (redrawn W2 d) os).cell? ⟨wr.heap.size, 1, none⟩ = some (.int .i64 f) := fun d os => cell_regrown e1 d os
                have y2 : ∀ d os, (Sort.grow (redrawn W2 d) os).cell? ⟨wr.heap.size, 2, none⟩ = some (.int .i64 bk) := fun d os => cell_regrown e2 d os
                have y3 : ∀ d os, (Sort.grow (redrawn W2 d) os).cell? ⟨wr.heap.size, 3, none⟩ = some (.int .i64 xx) := fun d os => cell_regrown e3 d os
                have z0 : ∀ d os, (Sort.grow (redrawn W2 d) os).cell? ⟨w.heap.size, 0, none⟩ = some (.int .i64 (n : Int)) := fun d os => cell_regrown E0 d os
                have z2 : ∀ d os, (Sort.grow (redrawn W2 d) os).cell? ⟨w.heap.size, 2, none⟩ = some (.slice (some ⟨b, o, none⟩) L c) := fun d os => cell_regrown E2 d os
                refine wp_region_quiet_below (by kernel_rfl) (by kernel_rfl) ?_
                repeat (first | go_big_quiet_skip | quiet_step (fail))
                refine wpQuiet_nil ?_
                intro _ hw'
                obtain ⟨⟨dq, os⟩, hw''⟩ := hw'
                subst hw''
                have b3 := below_regrown W2 dq os
                have kw3 : Below wr.heap.size wr (Sort.grow (redrawn W2 dq) os) := kw2.trans (b3.mono kw2.size)
                have F0 := cell_keep b3 E0
                have F2 := cell_keep b3 E2
                have N0 := fun (a : Addr) (v : Value) (h : wr.cell? a = some v) => cell_keep kw3 h
                clear y0 y1 y2 y3 z0 z2
                generalize Sort.grow (redrawn W2 dq) os = W3 at *
                go_wp2_with fail
                go_ret
                exact ⟨Txt.ret_int HV.out, hb.trans (kw3.mono hb.size)⟩
              · have hk1 : k + 1 < L := by
                  have hmod := HMOD.out k hlt hl
                  exact hmod
                obtain ⟨s0, _⟩ := HCW.out (k + 1) (by rw [HLn.out]; exact hk1)
                generalize hrn : (cs.getD (k + 1) z0).1 = rn at s0
                have nl : ((k : Int) % (n : Int) == (n : Int) - 1) = false := by rw [← Int.natCast_emod]; simp only [beq_eq_false_iff_ne, ne_eq]; omega
                have hkL : ((k : Int) + 1) < (L : Int) := by omega

                by_cases hn : rn = 0
                · have HZ : cellR n cs k = 0 := by unfold cellR; rw [HCC.out]; dsimp only; rw [if_neg (by simp [hw, hs])]; rw [if_neg (by simp [hr]), if_neg (by rw [hrn]; simp [hl, hn])]
                  have HV : Hid (firstErr (cellR n cs) (k + 1) (L - (k + 1)) = firstErr (cellR n cs) 0 L) := by unfold Hid; rw [← HF1.out, HST.out, if_pos HZ]
                  have nr : (r != 0) = true := by simpa using hr
                  have nr' : (r == 0) = false := by simpa using hr
                  have HW : Hid (wd r = 2) := h2
                  clear h2 hw hrn
                  subst hn
                  have HS : Hid (isSt (f, bk, xx) = true) := hs
                  clear hs HZ
                  go_wp2_with (first | (go_at_call 19; refine (widthOf_to r _ 2 HW.out).mono ?_; rintro e W1 ⟨rfl, b1⟩; have d0 := cell_keep b1 c0; have d1 := cell_keep b1 c1; have d2 := cell_keep b1 c2; have d3 := cell_keep b1 c3; have G0 := cell_keep b1 g0'; have G1 := cell_keep b1 g1'; have G2 := cell_keep b1 g2'; have kw1 : Below wr.heap.size wr W1 := kb.trans (b1.mono kb.size)) | (go_at_call 20; refine (isStyle_to f bk xx _ HS.out _).mono ?_; rintro e W2 ⟨rfl, b2⟩; have e0 := cell_keep b2 d0; have e1 := cell_keep b2 d1; have e2 := cell_keep b2 d2; have e3 := cell_keep b2 d3; have E0 := cell_keep b2 G0; have E1 := cell_keep b2 G1; have E2 := cell_keep b2 G2; have kw2 : Below wr.heap.size wr W2 := kw1.trans (b2.mono kw1.size)))
                  have y0 : ∀ d os, (Sort.grow (redrawn W2 d) os).cell? ⟨wr.heap.size, 0, none⟩ = some (.int .i32 r) := fun d os => cell_regrown e0 d os
                  have y1 : ∀ d os, (Sort.grow (redrawn W2 d) os).cell? ⟨wr.heap.size, 1, none⟩ = some (.int .i64 f) := fun d os => cell_regrown e1 d os
                  have y2 : ∀ d os, (Sort.grow (redrawn W2 d) os).cell? ⟨wr.heap.size, 2, none⟩ = some (.int .i64 bk) := fun d os => cell_regrown e2 d os
                  have y3 : ∀ d os, (Sort.grow (redrawn W2 d) os).cell? ⟨wr.heap.size, 3, none⟩ = some (.int .i64 xx) := fun d os => cell_regrown e3 d os
                  have z0 : ∀ d os, (Sort.grow (redrawn W2 d) os).cell? ⟨w.heap.size, 0, none⟩ = some (.int .i64 (n : Int)) := fun d os => cell_regrown E0 d os
                  have z2 : ∀ d os, (Sort.grow (redrawn W2 d) os).cell? ⟨w.heap.size, 2, none⟩ = some (.slice (some ⟨b, o, none⟩) L c) := fun d os => cell_regrown E2 d os
                  refine wp_region_quiet_below (by kernel_rfl) (by kernel_rfl) ?_
                  repeat (first | go_big_quiet_skip | quiet_step (fail))
                  refine wpQuiet_nil ?_
                  intro _ hw'
                  obtain ⟨⟨dq, os⟩, hw''⟩ := hw'
                  subst hw''
                  have b3 := below_regrown W2 dq os
                  have kw3 : Below wr.heap.size wr (Sort.grow (redrawn W2 dq) os) := kw2.trans (b3.mono kw2.size)
                  have F0 := cell_keep b3 E0
                  have F2 := cell_keep b3 E2
                  have N0 := fun (a : Addr) (v : Value) (h : wr.cell? a = some v) => cell_keep kw3 h
                  clear y0 y1 y2 y3 z0 z2
                  generalize Sort.grow (redrawn W2 dq) os = W3 at *
                  have s1 := N0 _ _ s0
                  clear N0
                  go_wp2_with fail
                  go_roundg (L - (k + 1))
                  case measure => omega
                  case rel => exact ⟨k + 1, rfl, by omega, by omega, hb.trans (kw3.mono hb.size), carry hv kw3, HV.out⟩
                · have HZ : cellR n cs k = 5 := by unfold cellR; rw [HCC.out]; dsimp only; rw [if_neg (by simp [hw, hs])]; rw [if_neg (by simp [hr]), if_pos ⟨h2, Or.inr (by rw [hrn]; exact hn)⟩]
                  have HV : Hid ((5 : Int) = firstErr (cellR n cs) 0 L) := by unfold Hid; rw [← HF1.out, HST.out, HZ, if_neg (by decide)]
                  have nr : (r != 0) = true := by simpa using hr
                  have nr' : (r == 0) = false := by simpa using hr
                  have HW : Hid (wd r = 2) := h2
                  clear h2 hw hrn
                  have nn : (rn != 0) = true := by simpa using hn
                  have HS : Hid (isSt (f, bk, xx) = true) := hs
                  clear hs HZ
                  go_wp2_with (first | (go_at_call 19; refine (widthOf_to r _ 2 HW.out).mono ?_; rintro e W1 ⟨rfl, b1⟩; have d0 := cell_keep b1 c0; have d1 := cell_keep b1 c1; have d2 := cell_keep b1 c2; have d3 := cell_keep b1 c3; have G0 := cell_keep b1 g0'; have G1 := cell_keep b1 g1'; have G2 := cell_keep b1 g2'; have kw1 : Below wr.heap.size wr W1 := kb.trans (b1.mono kb.size)) | (go_at_call 20; refine (isStyle_to f bk xx _ HS.out _).mono ?_; rintro e W2 ⟨rfl, b2⟩; have e0 := cell_keep b2 d0; have e1 := cell_keep b2 d1; have e2 := cell_keep b2 d2; have e3 := cell_keep b2 d3; have E0 := cell_keep b2 G0; have E1 := cell_keep b2 G1; have E2 := cell_keep b2 G2; have kw2 : Below wr.heap.size wr W2 := kw1.trans (b2.mono kw1.size)))
                  have y0 : ∀ d os, (Sort.grow (redrawn W2 d) os).cell? ⟨wr.heap.size, 0, none⟩ = some (.int .i32 r) := fun d os => cell_regrown e0 d os
                  have y1 : ∀ d os, (Sort.grow (redrawn W2 d) os).cell? ⟨wr.heap.size, 1, none⟩ = some (.int .i64 f) := fun d os => cell_regrown e1 d os
                  have y2 : ∀ d os, (Sort.grow (redrawn W2 d) os).cell? ⟨wr.heap.size, 2, none⟩ = some (.int .i64 bk) := fun d os => cell_regrown e2 d os
                  have y3 : ∀ d os, (Sort.grow (redrawn W2 d) os).cell? ⟨wr.heap.size, 3, none⟩ = some (.int .i64 xx) := fun d os => cell_regrown e3 d os
                  have z0 : ∀ d os, (Sort.grow (redrawn W2 d) os).cell? ⟨w.heap.size, 0, none⟩ = some (.int .i64 (n : Int)) := fun d os => cell_regrown E0 d os
                  have z2 : ∀ d os, (Sort.grow (redrawn W2 d) os).cell? ⟨w.heap.size, 2, none⟩ = some (.slice (some ⟨b, o, none⟩) L c) := fun d os => cell_regrown E2 d os
                  refine wp_region_quiet_below (by kernel_rfl) (by kernel_rfl) ?_
                  repeat (first | go_big_quiet_skip | quiet_step (fail))
                  refine wpQuiet_nil ?_
                  intro _ hw'
                  obtain ⟨⟨dq, os⟩, hw''⟩ := hw'
                  subst hw''
                  have b3 := below_regrown W2 dq os
                  have kw3 : Below wr.heap.size wr (Sort.grow (redrawn W2 dq) os) := kw2.trans (b3.mono kw2.size)
                  have F0 := cell_keep b3 E0
                  have F2 := cell_keep b3 E2
                  have N0 := fun (a : Addr) (v : Value) (h : wr.cell? a = some v) => cell_keep kw3 h
                  clear y0 y1 y2 y3 z0 z2
                  generalize Sort.grow (redrawn W2 dq) os = W3 at *
                  have s1 := N0 _ _ s0
                  clear N0
                  go_wp2_with fail
                  go_ret
                  exact ⟨Txt.ret_int HV.out, hb.trans (kw3.mono hb.size)⟩
            · have HZ : cellR n cs k = 0 := by unfold cellR; rw [HCC.out]; dsimp only; rw [if_neg (by simp [hw, hs])]; rw [if_neg (by simp [hr]), if_neg (by simp [h2])]
              have HV : Hid (firstErr (cellR n cs) (k + 1) (L - (k + 1)) = firstErr (cellR n cs) 0 L) := by unfold Hid; rw [← HF1.out, HST.out, if_pos HZ]
              have nr : (r != 0) = true := by simpa using hr
              have nr' : (r == 0) = false := by simpa using hr
              have nw : (wd r == 0) = false := by simpa using hw
              have n2 : (wd r == 2) = false := by simpa using h2
              have HW : Hid (wd r = wd r) := rfl
              have HS : Hid (isSt (f, bk, xx) = true) := hs
              clear hs HZ
              go_wp2_with (first | (go_at_call 19; refine (widthOf_to r _ _ HW.out).mono ?_; rintro e W1 ⟨rfl, b1⟩; have d0 := cell_keep b1 c0; have d1 := cell_keep b1 c1; have d2 := cell_keep b1 c2; have d3 := cell_keep b1 c3; have G0 := cell_keep b1 g0'; have G1 := cell_keep b1 g1'; have G2 := cell_keep b1 g2'; have kw1 : Below wr.heap.size wr W1 := kb.trans (b1.mono kb.size)) | (go_at_call 20; refine (isStyle_to f bk xx _ HS.out _).mono ?_; rintro e W2 ⟨rfl, b2⟩; have e0 := cell_keep b2 d0; have e1 := cell_keep b2 d1; have e2 := cell_keep b2 d2; have e3 := cell_keep b2 d3; have E0 := cell_keep b2 G0; have E1 := cell_keep b2 G1; have E2 := cell_keep b2 G2; have kw2 : Below wr.heap.size wr W2 := kw1.trans (b2.mono kw1.size)))
              have y0 : ∀ d os, (Sort.grow (redrawn W2 d) os).cell? ⟨wr.heap.size, 0, none⟩ = some (.int .i32 r) := fun d os => cell_regrown e0 d os
              have y1 : ∀ d os, (Sort.grow (redrawn W2 d) os).cell? ⟨wr.heap.size, 1, none⟩ = some (.int .i64 f) := fun d os => cell_regrown e1 d os
              have y2 : ∀ d os, (Sort.grow (redrawn W2 d) os).cell? ⟨wr.heap.size, 2, none⟩ = some (.int .i64 bk) := fun d os => cell_regrown e2 d os
              have y3 : ∀ d os, (Sort.grow (redrawn W2 d) os).cell? ⟨wr.heap.size, 3, none⟩ = some (.int .i64 xx) := fun d os => cell_regrown e3 d os
              have z0 : ∀ d os, (Sort.grow (redrawn W2 d) os).cell? ⟨w.heap.size, 0, none⟩ = some (.int .i64 (n : Int)) := fun d os => cell_regrown E0 d os
              have z2 : ∀ d os, (Sort.grow (redrawn W2 d) os).cell? ⟨w.heap.size, 2, none⟩ = some (.slice (some ⟨b, o, none⟩) L c) := fun d os => cell_regrown E2 d os
              refine wp_region_quiet_below (by kernel_rfl) (by kernel_rfl) ?_
              repeat (first | go_big_quiet_skip | quiet_step (fail))
              refine wpQuiet_nil ?_
              intro _ hw'
              obtain ⟨⟨dq, os⟩, hw''⟩ := hw'
              subst hw''
              have b3 := below_regrown W2 dq os
              have kw3 : Below wr.heap.size wr (Sort.grow (redrawn W2 dq) os) := kw2.trans (b3.mono kw2.size)
              have F0 := cell_keep b3 E0
              have F2 := cell_keep b3 E2
              have N0 := fun (a : Addr) (v : Value) (h : wr.cell? a = some v) => cell_keep kw3 h
              clear y0 y1 y2 y3 z0 z2
              generalize Sort.grow (redrawn W2 dq) os = W3 at *
              go_wp2_with fail
              go_roundg (L - (k + 1))
              case measure => omega
              case rel => exact ⟨k + 1, rfl, by omega, by omega, hb.trans (kw3.mono hb.size), carry hv kw3, HV.out⟩
    · have lt1 : ¬ ((k : Int) < (L : Int)) := by omega
      have HV : Hid (0 = firstErr (cellR n cs) 0 L) := by unfold Hid; rw [← HF1.out, first_end _ _ _ hlt]
      go_wp2_with fail
      go_ret
      exact ⟨Txt.ret_int HV.out, hb⟩
theorem ref_any (a h : Int) (v : Value) (cs : List C) (w : World) (hS : SliceAt w v cs) :
    Calls Tryd.prog 12 #[.agg #[.int .i64 a, .int .i64 h, v]] w fun e w' => e = .returned (.int .i64 (gridErr a h cs)) ∧ Below w.heap.size w w' := by
  unfold gridErr
  cases hs : isSize a h with
  | false => rw [if_pos (Or.inl rfl)]; exact ref_size1 a h v w hs
  | true =>
    obtain ⟨p0, p1, p2, p3, p4, p5⟩ := prod_in a h hs
    by_cases hL : (cs.length : Int) = a * h
    · rw [if_neg (by simp [hL])]
      rcases hS with ⟨rfl, _⟩ | ⟨_, b, o, c, rfl, hc, hm, hC⟩
      · exfalso
        have : 1 * 1 ≤ a * h := Int.mul_le_mul p2 p4 (by omega) (by omega)
        simp at hL
        omega
      · obtain ⟨n, rfl⟩ := Int.eq_ofNat_of_zero_le (show 0 ≤ a by omega)
        obtain ⟨m, rfl⟩ := Int.eq_ofNat_of_zero_le (show 0 ≤ h by omega)
        rw [Int.toNat_natCast, Int.toNat_natCast, errs_same n m cs (by exact_mod_cast hL)]
        exact ref_rows n m b o c cs w hC hs (by exact_mod_cast hL)
    · rw [if_pos (Or.inr hL)]
      obtain ⟨ad, c, rfl⟩ := hS.shape
      exact ref_size2 a h ad cs.length c w hs hL
end Grd
end Go.Proofs.YtinhmklpnkikgaaDoor

/- The reference's CheckGrid, its answer named. -/
namespace Go.Proofs.YtinhmklpnkikgaaDoor
open Go.ChangeShapes Go.WideShapes Go.ChangeAt Go.RowKit
namespace Grd
theorem ref_to (a h : Int) (v : Value) (cs : List C) (q : Int) (hq : gridErr a h cs = q) (w : World) (hS : SliceAt w v cs) :
    Calls Tryd.prog 12 #[.agg #[.int .i64 a, .int .i64 h, v]] w fun e w' => e = .returned (.int .i64 q) ∧ Below w.heap.size w w' := by
  have := ref_any a h v cs w hS
  rwa [hq] at this
theorem pos_of_ok (n hh : Nat) (cs : List C) (hok : gridErr n hh cs = 0) : cs ≠ [] ∧ cs.length ≤ 7200 := by
  obtain ⟨hsize, hL, _⟩ := (gridErr_zero n hh cs).1 hok
  have ⟨_, p1, p2, _, p4, _⟩ := prod_in n hh hsize
  refine ⟨fun h => ?_, ?_⟩
  · rw [h, List.length_nil] at hL
    have : 0 < n * hh := Nat.mul_pos (by omega) (by omega)
    omega
  · have : ((n * hh : Nat) : Int) ≤ 7200 := by rw [Int.natCast_mul]; exact p1
    omega
theorem SliceAt.open {w : World} {v : Value} {cs : List C} (h : SliceAt w v cs) (hne : cs ≠ []) : ∃ b o c, v = .slice (some ⟨b, o, none⟩) cs.length c ∧ cs.length ≤ c ∧ c ≤ 9223372036854775807 ∧ CellsAt w b o cs := by
  rcases h with ⟨h, _⟩ | ⟨_, h⟩
  · exact absurd h hne
  · exact h
theorem size_of_ok (a h : Int) (cs : List C) (hok : gridErr a h cs = 0) : ∃ n hh : Nat, a = (n : Int) ∧ h = (hh : Int) := by
  unfold gridErr at hok
  by_cases hs : isSize a h = false ∨ (cs.length : Int) ≠ a * h
  · rw [if_pos hs] at hok; exact absurd hok (by decide)
  · have h1 : isSize a h = true := by simpa using (not_or.1 hs).1
    have ⟨_, _, p2, _, p4, _⟩ := prod_in a h h1
    exact ⟨a.toNat, h.toNat, by omega, by omega⟩
end Grd
end Go.Proofs.YtinhmklpnkikgaaDoor
