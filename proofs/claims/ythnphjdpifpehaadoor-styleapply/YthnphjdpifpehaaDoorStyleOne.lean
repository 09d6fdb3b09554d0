/- The walks of the small functions of package style. -/
import Derived.Test.YthnphjdpifpehaaDoorRows
import Derived.WalkKit
import Derived.ProofKit
import Derived.OpenShut
import Derived.Deep.LoopGhost
import Derived.Deep.Draws
import Derived.Laws.Rows
import Derived.Laws.Tables
import Derived.Laws.CopyOwn
namespace Go.Proofs.YthnphjdpifpehaaDoor
open Go.ChangeShapes Go.WideShapes Go.ChangeAt Go.RowKit
namespace Sty

def looks : List (Int × Int × Int) := [(1, 22, 1), (2, 22, 2), (3, 23, 4), (4, 24, 8), (5, 25, 16), (7, 27, 32), (9, 29, 64)]
def cell3 (x : Int × Int × Int) : List Value := [.int .i64 x.1, .int .i64 x.2.1, .int .i64 x.2.2]
def lookCells : Array Value := (looks.flatMap cell3).toArray
def Tab (w : World) : Prop := ∃ (t : TypeId) (fr : Nat × Nat), w.heap[0]? = some (.cells lookCells t fr)
theorem Tab.below {B : Nat} {w w' : World} (h : Tab w) (hb : Below B w w') (hB : 0 < B) : Tab w' := by
  unfold Tab at h ⊢
  rw [hb.block _ hB]; exact h
theorem Tab.pos {w : World} (h : Tab w) : 0 < w.heap.size := by
  obtain ⟨t, fr, h⟩ := h
  have := (Array.getElem?_eq_some_iff.1 h).1
  omega
theorem looks_at (k : Nat) (hk : k < 7) : ∃ a b c : Int, looks.drop k = (a, b, c) :: looks.drop (k + 1) ∧ a < b ∧
    ∀ wr : World, (Instr.index 54 (.agg lookCells) (.int .i64 (k : Int))).run Tryd.prog wr = .ok (.agg #[.int .i64 a, .int .i64 b, .int .i64 c]) wr := by
  have : k = 0 ∨ k = 1 ∨ k = 2 ∨ k = 3 ∨ k = 4 ∨ k = 5 ∨ k = 6 := by omega
  rcases this with rfl | rfl | rfl | rfl | rfl | rfl | rfl <;>
    exact ⟨_, _, _, rfl, by decide, fun wr => by kernel_rfl⟩

/-- One entry of the table, at the number n. -/
def step (n : Int) (y : Int) (k : Int × Int × Int) : Int :=
  if n = k.2.1 then bits .andNot .i64 (if n = k.1 then bits .or .i64 y k.2.2 else y) k.2.2 else if n = k.1 then bits .or .i64 y k.2.2 else y
def sc (n : Int) : Int × Bool := if 30 ≤ n ∧ n ≤ 37 then (n - 29, true) else if n = 39 then (0, true) else if 90 ≤ n ∧ n ≤ 97 then (n - 81, true) else (0, false)
/-- What one number makes of a style. -/
def one (s : Int × Int × Int) (n : Int) : Int × Int × Int :=
  if n ≤ 0 then (0, 0, 0)
  else (if (sc n).2 then (sc n).1 else s.1, if (sc (n - 10)).2 then (sc (n - 10)).1 else s.2.1, looks.foldl (step n) s.2.2)
def stv (s : Int × Int × Int) : Value := .agg #[.int .i64 s.1, .int .i64 s.2.1, .int .i64 s.2.2]

theorem short_any (n : Int) (w : World) :
    Calls Tryd.prog 28 #[.int .i64 n] w fun e w' => e = .returned (.tuple #[.int .i64 (sc n).1, .bool (sc n).2]) ∧ w = w' := by
  unfold sc
  by_cases h1 : 30 ≤ n ∧ n ≤ 37
  · rw [if_pos h1]
    obtain ⟨h1a, h1b⟩ := h1
    go_enter Tryd.func28, Tryd.ntmps28
    go_wp2
    go_ret2
    exact ⟨rfl, rfl⟩
  · rw [if_neg h1]
    by_cases h2 : n = 39
    · subst h2
      go_enter Tryd.func28, Tryd.ntmps28
      go_wp2
      go_ret2
      exact ⟨rfl, rfl⟩
    · rw [if_neg h2]
      by_cases h3 : 90 ≤ n ∧ n ≤ 97
      · rw [if_pos h3]
        obtain ⟨h1a, h1b⟩ := h3
        go_enter Tryd.func28, Tryd.ntmps28
        go_wp2
        go_ret2
        exact ⟨rfl, rfl⟩
      · rw [if_neg h3]
        go_enter Tryd.func28, Tryd.ntmps28
        go_wp2
        all_goals (first | omega | skip)
        all_goals (go_ret2; exact ⟨rfl, rfl⟩)

theorem one3 (a b c : Int) : (#[Value.int .i64 a, .int .i64 b, .int .i64 c] : Array Value).all (·.oneCell') = true := by simp [Value.oneCell']
theorem cells_of {w : World} {g : Nat} {t : TypeId} {a b c : Value} (h : w.heap[g]? = some (.cells #[a, b, c] t (0, 0))) :
    w.cell? ⟨g, 0, none⟩ = some a ∧ w.cell? ⟨g, 1, none⟩ = some b ∧ w.cell? ⟨g, 2, none⟩ = some c ∧ (∀ i, w.frozen? ⟨g, i, none⟩ = false) := by
  refine ⟨by simp [World.cell?, h], by simp [World.cell?, h], by simp [World.cell?, h], fun i => by simp [World.frozen?, h]⟩

set_option maxHeartbeats 1000000 in
theorem one_pos (f b x n : Int) (w : World) (hT : Tab w) (h0 : 0 < n) (hn : n ≤ 9223372036854775807) :
    Calls Tryd.prog 20 #[.agg #[.int .i64 f, .int .i64 b, .int .i64 x], .int .i64 n] w fun e w' => e = .returned (stv (one (f, b, x) n)) ∧ Below w.heap.size w w' := by
  obtain ⟨tt, fr, hT⟩ := hT
  have HT : Hid (w.heap[0]? = some (.cells lookCells tt fr)) := hT
  have HT2 : Hid (∀ o1 o2, ((w.alloc o1).alloc o2).heap[0]? = some (.cells lookCells tt fr)) := fun o1 o2 => by
    have hp := (Array.getElem?_eq_some_iff.1 hT).1
    rw [Below.heap_alloc _ _ _ (by simp), Below.heap_alloc _ _ _ hp]; exact hT
  have HP : 0 < w.heap.size := (Array.getElem?_eq_some_iff.1 hT).1
  clear hT
  go_enter Tryd.func20, Tryd.ntmps20
  go_wp2_with (refine wpList_load_row rfl 54 (.global 0) rfl 0 rfl _ lookCells _ _ (HT2.out _ _) Tryd.underlying54 rfl (by kernel_rfl) ?_)
  go_loopg [15] 7 (fun g s wr => ∃ (k : Nat) (y : Int), k ≤ 7 ∧ 7 - k ≤ g ∧ s = .int .i64 k ∧ Below w.heap.size w wr ∧ w.heap.size + 2 ≤ wr.heap.size ∧ wr.heap[w.heap.size]? = some (.cells #[.int .i64 f, .int .i64 b, .int .i64 y] 23 (0, 0)) ∧ wr.heap[w.heap.size + 1]? = some (.cells #[.int .i64 0, .int .i64 0, .int .i64 0] 23 (0, 0)) ∧ (looks.drop k).foldl (step n) y = looks.foldl (step n) x)
  case atStart => exact ⟨0, x, by omega, by omega, rfl, ((Below.refl _ _).alloc (Nat.le_refl _) _).alloc (by simp) _, by simp, (Below.heap_alloc _ _ _ (by simp)).trans (heap_alloc_new _ _), by simpa using heap_alloc_new (w.alloc _) _, rfl⟩
  case round =>
    obtain ⟨k, y, hk, hg, rfl, hb, hsz, hv, hr, hl⟩ := hrel
    by_cases hlt : k < 7
    · obtain ⟨a, o, c, hd, hao, hi⟩ := looks_at k hlt
      have HD : Hid (looks.drop k = (a, o, c) :: looks.drop (k + 1)) := hd
      clear hd
      have hi := hi wr
      have hK : (wr.alloc (.cells #[.int .i64 a, .int .i64 o, .int .i64 c] 53)).heap[w.heap.size]? = some (.cells #[.int .i64 f, .int .i64 b, .int .i64 y] 23 (0, 0)) := (Below.heap_alloc _ _ _ (by omega)).trans hv
      have hKr : (wr.alloc (.cells #[.int .i64 a, .int .i64 o, .int .i64 c] 53)).heap[w.heap.size + 1]? = some (.cells #[.int .i64 0, .int .i64 0, .int .i64 0] 23 (0, 0)) := (Below.heap_alloc _ _ _ (by omega)).trans hr
      have hc2 : (wr.alloc (.cells #[.int .i64 a, .int .i64 o, .int .i64 c] 53)).cell? ⟨w.heap.size, 2, none⟩ = some (.int .i64 y) := by simp [World.cell?, hK]
      have hf2 : (wr.alloc (.cells #[.int .i64 a, .int .i64 o, .int .i64 c] 53)).frozen? ⟨w.heap.size, 2, none⟩ = false := by simp [World.frozen?, hK]
      have hne : w.heap.size ≠ wr.heap.size := by omega
      have HL : Hid ((looks.drop k).foldl (step n) y = looks.foldl (step n) x) := hl
      clear hl
      have hbK := hb.alloc (by omega) (.cells #[.int .i64 a, .int .i64 o, .int .i64 c] 53)
      by_cases hna : n = a
      · have hno : n ≠ o := by omega
        have HS : Hid (step n y (a, o, c) = bits .or .i64 y c) := by unfold Hid step; rw [if_neg hno, if_pos hna]
        go_wp2_with fail
        go_roundg (7 - (k + 1))
        case measure => omega
        case rel => exact ⟨k + 1, bits .or .i64 y c, by omega, by omega, by go_num, hbK.setCell (Nat.le_refl _) _, by simp; omega, heap_setCell_same _ _ _ _ _ _ hK, (heap_setCell_other _ _ _ _ (by simp)).trans hKr, by rw [← HL.out, HD.out, List.foldl_cons, HS.out]⟩
      · by_cases hno : n = o
        · have HS : Hid (step n y (a, o, c) = bits .andNot .i64 y c) := by unfold Hid step; rw [if_pos hno, if_neg hna]
          go_wp2_with fail
          go_roundg (7 - (k + 1))
          case measure => omega
          case rel => exact ⟨k + 1, bits .andNot .i64 y c, by omega, by omega, by go_num, hbK.setCell (Nat.le_refl _) _, by simp; omega, heap_setCell_same _ _ _ _ _ _ hK, (heap_setCell_other _ _ _ _ (by simp)).trans hKr, by rw [← HL.out, HD.out, List.foldl_cons, HS.out]⟩
        · have HS : Hid (step n y (a, o, c) = y) := by unfold Hid step; rw [if_neg hno, if_neg hna]
          go_wp2_with fail
          go_roundg (7 - (k + 1))
          case measure => omega
          case rel => exact ⟨k + 1, y, by omega, by omega, by go_num, hbK, by simp; omega, hK, hKr, by rw [← HL.out, HD.out, List.foldl_cons, HS.out]⟩
    · have hk7 : k = 7 := by omega
      subst hk7
      have HL : Hid (y = looks.foldl (step n) x) := hl
      clear hl
      obtain ⟨c0, c1, c2, cf⟩ := cells_of hv
      have f0 := cf 0
      have f1 := cf 1
      by_cases h1 : (sc n).2 = true
      · by_cases h2 : (sc (n - 10)).2 = true
        · exfalso
          revert h1 h2
          unfold sc
          repeat' split
          all_goals first | (intro a b; cases a; done) | (intro a b; cases b; done) | omega
        · have h2 : (sc (n - 10)).2 = false := by simpa using h2
          have HE : Hid (one (f, b, x) n = ((sc n).1, b, y)) := by unfold Hid one; rw [if_neg (by omega), h1, h2, HL.out]; rfl
          have hv1 := heap_setCell_same wr w.heap.size 0 _ _ (.int .i64 (sc n).1) hv
          have hr1 := (heap_setCell_other wr ⟨w.heap.size, 0, none⟩ (w.heap.size + 1) (.int .i64 (sc n).1) (by simp)).trans hr
          have hb1 := hb.setCell (p := ⟨w.heap.size, 0, none⟩) (Nat.le_refl _) (.int .i64 (sc n).1)
          go_wp2_with (first | (go_at_call 28; refine (short_any _ _).mono ?_; rintro e W1 ⟨rfl, rfl⟩) | (refine wpList_load_row rfl 23 (.tmp 2) rfl w.heap.size rfl _ _ _ _ hv1 Tryd.underlying23 rfl (by kernel_rfl) ?_) | (refine wpList_store_row rfl 23 (.tmp 4) (.tmp 56) rfl (w.heap.size + 1) #[.int .i64 ((sc n).1), .int .i64 b, .int .i64 y] rfl rfl _ _ hr1 (by kernel_rfl) rfl (one3 _ _ _) ?_))
          (try simp only [Exit.inBlock, Exit.then])
          refine bodyPost_ret (v := stv (one (f, b, x) n)) ?_ rfl ⟨rfl, below_setRow hb1 (by omega) _⟩
          rw [HE.out]
          exact results_cell_row rfl _ _ (w.heap.size + 1) _ _ _ _ rfl (setRow_heap _ _ _ _ _ _ hr1) Tryd.underlying23 rfl (by kernel_rfl)
      · have h1 : (sc n).2 = false := by simpa using h1
        by_cases h2 : (sc (n - 10)).2 = true
        · have HE : Hid (one (f, b, x) n = (f, (sc (n - 10)).1, y)) := by unfold Hid one; rw [if_neg (by omega), h1, h2, HL.out]; rfl
          have hv2 := heap_setCell_same wr w.heap.size 1 _ _ (.int .i64 (sc (n - 10)).1) hv
          have hr2 := (heap_setCell_other wr ⟨w.heap.size, 1, none⟩ (w.heap.size + 1) (.int .i64 (sc (n - 10)).1) (by simp)).trans hr
          have hb2 := hb.setCell (p := ⟨w.heap.size, 1, none⟩) (Nat.le_refl _) (.int .i64 (sc (n - 10)).1)
          go_wp2_with (first | (go_at_call 28; refine (short_any _ _).mono ?_; rintro e W1 ⟨rfl, rfl⟩) | (refine wpList_load_row rfl 23 (.tmp 2) rfl w.heap.size rfl _ _ _ _ hv2 Tryd.underlying23 rfl (by kernel_rfl) ?_) | (refine wpList_store_row rfl 23 (.tmp 4) (.tmp 56) rfl (w.heap.size + 1) #[.int .i64 f, .int .i64 ((sc (n - 10)).1), .int .i64 y] rfl rfl _ _ hr2 (by kernel_rfl) rfl (one3 _ _ _) ?_))
          (try simp only [Exit.inBlock, Exit.then])
          refine bodyPost_ret (v := stv (one (f, b, x) n)) ?_ rfl ⟨rfl, below_setRow hb2 (by omega) _⟩
          rw [HE.out]
          exact results_cell_row rfl _ _ (w.heap.size + 1) _ _ _ _ rfl (setRow_heap _ _ _ _ _ _ hr2) Tryd.underlying23 rfl (by kernel_rfl)
        · have h2 : (sc (n - 10)).2 = false := by simpa using h2
          have HE : Hid (one (f, b, x) n = (f, b, y)) := by unfold Hid one; rw [if_neg (by omega), h1, h2, HL.out]; rfl
          go_wp2_with (first | (go_at_call 28; refine (short_any _ _).mono ?_; rintro e W1 ⟨rfl, rfl⟩) | (refine wpList_load_row rfl 23 (.tmp 2) rfl w.heap.size rfl _ _ _ _ hv Tryd.underlying23 rfl (by kernel_rfl) ?_) | (refine wpList_store_row rfl 23 (.tmp 4) (.tmp 56) rfl (w.heap.size + 1) #[.int .i64 f, .int .i64 b, .int .i64 y] rfl rfl _ _ hr (by kernel_rfl) rfl (one3 _ _ _) ?_))
          (try simp only [Exit.inBlock, Exit.then])
          refine bodyPost_ret (v := stv (one (f, b, x) n)) ?_ rfl ⟨rfl, below_setRow hb (by omega) _⟩
          rw [HE.out]
          exact results_cell_row rfl _ _ (w.heap.size + 1) _ _ _ _ rfl (setRow_heap _ _ _ _ _ _ hr) Tryd.underlying23 rfl (by kernel_rfl)

theorem new2 (w : World) (o : Obj) (c : Array Value) (t : TypeId) : ((w.alloc o).alloc (.cells c t)).heap[w.heap.size + 1]? = some (.cells c t (0, 0)) := by
  have h := heap_alloc_new (w.alloc o) (.cells c t)
  simpa using h
theorem one_any (s : Int × Int × Int) (n : Int) (w : World) (hT : Tab w) (hn : n ≤ 9223372036854775807) :
    Calls Tryd.prog 20 #[stv s, .int .i64 n] w fun e w' => e = .returned (stv (one s n)) ∧ Below w.heap.size w w' := by
  by_cases h0 : 0 < n
  · exact one_pos s.1 s.2.1 s.2.2 n w hT h0 hn
  · obtain ⟨f, b, x⟩ := s
    have HE : Hid (one (f, b, x) n = (0, 0, 0)) := by unfold Hid one; rw [if_pos (by omega)]
    unfold stv
    rw [HE.out]
    clear HE hT
    go_enter Tryd.func20, Tryd.ntmps20
    go_wp2
    (try simp only [Exit.inBlock, Exit.then])
    refine bodyPost_ret (v := stv (0, 0, 0)) ?_ rfl ⟨rfl, ((Below.refl _ _).alloc (Nat.le_refl _) _).alloc (by simp) _⟩
    exact results_cell_row rfl _ _ (w.heap.size + 1) _ _ _ _ rfl (new2 w _ _ _) Tryd.underlying23 rfl (by kernel_rfl)

theorem ret_bool {a b : Bool} (h : a = b) : Ending.returned (.bool a) = .returned (.bool b) := by rw [h]
theorem colour_any (c : Int) (w : World) :
    Calls Tryd.prog 17 #[.int .i64 c] w fun e w' => e = .returned (.bool (decide (0 ≤ c ∧ c ≤ 256))) ∧ w = w' := by
  go_enter Tryd.func17, Tryd.ntmps17
  go_wp2
  all_goals (go_ret; exact ⟨ret_bool (by rw [Bool.eq_iff_iff]; simp; try omega), rfl⟩)

def isSt (s : Int × Int × Int) : Bool := decide (0 ≤ s.1 ∧ s.1 ≤ 256 ∧ 0 ≤ s.2.1 ∧ s.2.1 ≤ 256 ∧ 0 ≤ s.2.2 ∧ s.2.2 ≤ 127)
theorem check_any (s : Int × Int × Int) (w : World) :
    Calls Tryd.prog 7 #[stv s] w fun e w' => e = .returned (.bool (isSt s)) ∧ Below w.heap.size w w' := by
  obtain ⟨f, b, x⟩ := s
  unfold stv
  go_enter Tryd.func7, Tryd.ntmps7
  go_wp2_with (go_at_call 17; refine (colour_any _ _).mono ?_; rintro e W1 ⟨rfl, rfl⟩)
  all_goals (go_ret; exact ⟨ret_bool (by rw [Bool.eq_iff_iff]; simp [isSt]; try omega), (Below.refl _ _).alloc (Nat.le_refl _) _⟩)

/-- What the three numbers of a colour make of a style. -/
def lng (s : Int × Int × Int) (a n : Int) : Int × Int × Int :=
  if n < 0 ∨ 256 ≤ n then s else if a = 38 then (n + 1, s.2) else (s.1, n + 1, s.2.2)
theorem long_any (s : Int × Int × Int) (a n : Int) (w : World) :
    Calls Tryd.prog 19 #[stv s, .int .i64 a, .int .i64 n] w fun e w' => e = .returned (stv (lng s a n)) ∧ Below w.heap.size w w' := by
  obtain ⟨f, b, x⟩ := s
  have hB : ∀ o1 o2 : Obj, Below w.heap.size w ((w.alloc o1).alloc o2) := fun o1 o2 => ((Below.refl _ _).alloc (Nat.le_refl _) _).alloc (by simp) _
  by_cases h1 : n < 0 ∨ 256 ≤ n
  · have HE : Hid (lng (f, b, x) a n = (f, b, x)) := by unfold Hid lng; rw [if_pos h1]
    rw [HE.out]
    clear HE
    unfold stv
    by_cases h2 : n < 0
    · clear h1
      go_enter Tryd.func19, Tryd.ntmps19
      go_wp2
      (try simp only [Exit.inBlock, Exit.then])
      refine bodyPost_ret (v := stv (f, b, x)) ?_ rfl ⟨rfl, hB _ _⟩
      exact results_cell_row rfl _ _ (w.heap.size + 1) _ _ _ _ rfl (new2 w _ _ _) Tryd.underlying23 rfl (by kernel_rfl)
    · have h3 : 256 ≤ n := by omega
      clear h1
      go_enter Tryd.func19, Tryd.ntmps19
      go_wp2
      (try simp only [Exit.inBlock, Exit.then])
      refine bodyPost_ret (v := stv (f, b, x)) ?_ rfl ⟨rfl, hB _ _⟩
      exact results_cell_row rfl _ _ (w.heap.size + 1) _ _ _ _ rfl (new2 w _ _ _) Tryd.underlying23 rfl (by kernel_rfl)
  · have h2 : 0 ≤ n := by omega
    have h3 : n < 256 := by omega
    by_cases h4 : a = 38
    · have HE : Hid (lng (f, b, x) a n = (n + 1, b, x)) := by unfold Hid lng; rw [if_neg h1, if_pos h4]
      rw [HE.out]
      clear HE h1
      unfold stv
      go_enter Tryd.func19, Tryd.ntmps19
      go_wp2
      (try simp only [Exit.inBlock, Exit.then])
      refine bodyPost_ret (v := stv (n + 1, b, x)) ?_ rfl ⟨rfl, hB _ _⟩
      exact results_cell_row rfl _ _ (w.heap.size + 1) _ _ _ _ rfl (new2 w _ _ _) Tryd.underlying23 rfl (by kernel_rfl)
    · have HE : Hid (lng (f, b, x) a n = (f, n + 1, x)) := by unfold Hid lng; rw [if_neg h1, if_neg h4]
      rw [HE.out]
      clear HE h1
      unfold stv
      go_enter Tryd.func19, Tryd.ntmps19
      go_wp2
      (try simp only [Exit.inBlock, Exit.then])
      refine bodyPost_ret (v := stv (f, n + 1, x)) ?_ rfl ⟨rfl, hB _ _⟩
      exact results_cell_row rfl _ _ (w.heap.size + 1) _ _ _ _ rfl (new2 w _ _ _) Tryd.underlying23 rfl (by kernel_rfl)

end Sty
end Go.Proofs.YthnphjdpifpehaaDoor
