/- slices.Equal and SameGrid of cells of any number; slices.Clone of any cells; own. -/
import Derived.Test.YtknpolbnoppofaaDoorGridOwn
import Derived.BigQuiet
namespace Go.Proofs.YtknpolbnoppofaaDoor
open Go.ChangeShapes Go.WideShapes Go.ChangeAt Go.RowKit
namespace Grd
set_option maxHeartbeats 1000000 in
theorem equal_cells_big (b1 o1 c1 b2 o2 c2 : Nat) (cs : List C) (w : World) (h1 : CellsAt w b1 o1 cs) (h2 : CellsAt w b2 o2 cs) (hn : cs.length ≤ 4398046511104) :
    Calls Tryd.prog 31 #[.slice (some ⟨b1, o1, none⟩) cs.length c1, .slice (some ⟨b2, o2, none⟩) cs.length c2] w fun e w' => e = .returned (.bool true) ∧ Below w.heap.size w w' := by
  have H1 : Hid (CellsAt w b1 o1 cs) := h1
  have H2 : Hid (CellsAt w b2 o2 cs) := h2
  clear h1 h2
  generalize hl : cs.length = L at *
  have HL : Hid (cs.length = L) := hl
  clear hl
  have ne : ((L : Int) != (L : Int)) = false := by simp
  go_enter Tryd.func31, Tryd.ntmps31
  go_wp2_with fail
  go_loopg [13] L (fun g i wr => ∃ k : Nat, i = .int .i64 (k : Int) ∧ k ≤ L ∧ L - k ≤ g ∧ Below w.heap.size w wr)
  case atStart => exact ⟨0, rfl, by omega, by omega, Below.refl _ _⟩
  case round =>
    obtain ⟨k, rfl, hk, hg, hb⟩ := hrel
    by_cases hlt : k < L
    · have lt1 : ((k : Int) < (L : Int)) := by omega
      obtain ⟨p0, p1, p2, p3⟩ := H1.out.below hb k (by rw [HL.out]; exact hlt)
      obtain ⟨q0, q1, q2, q3⟩ := H2.out.below hb k (by rw [HL.out]; exact hlt)
      rcases hc : cs.getD k z0 with ⟨r, f, bk, x⟩
      rw [hc] at p0 p1 p2 p3 q0 q1 q2 q3
      dsimp only at p0 p1 p2 p3 q0 q1 q2 q3
      clear hc
      have nq := neq_cell r f bk x
      go_wp2_with fail
      go_region
      go_wp2_with fail
      go_roundg (L - (k + 1))
      case measure => omega
      case rel => exact ⟨k + 1, rfl, by omega, by omega, hb.drew⟩
    · have lt1 : ¬ ((k : Int) < (L : Int)) := by omega
      go_wp2_with fail
      go_ret
      exact ⟨rfl, hb⟩
theorem equal_slices_big (v1 v2 : Value) (cs : List C) (w : World) (h1 : SliceAt w v1 cs) (h2 : SliceAt w v2 cs) (hn : cs.length ≤ 4398046511104) :
    Calls Tryd.prog 31 #[v1, v2] w fun e w' => e = .returned (.bool true) ∧ Below w.heap.size w w' := by
  rcases h1 with ⟨rfl, a1, c1, rfl⟩ | ⟨h0, b1, o1, c1, rfl, _, _, hC1⟩
  · rcases h2 with ⟨_, a2, c2, rfl⟩ | ⟨h0, _⟩
    · exact equal_empty a1 a2 c1 c2 w
    · exact absurd rfl h0
  · rcases h2 with ⟨rfl, _⟩ | ⟨_, b2, o2, c2, rfl, _, _, hC2⟩
    · exact absurd rfl h0
    · exact equal_cells_big b1 o1 c1 b2 o2 c2 cs w hC1 hC2 hn
set_option maxHeartbeats 1000000 in
/-- SameGrid of two grids that read alike. -/
theorem same_any_big (a h : Int) (v1 v2 : Value) (cs : List C) (w : World) (h1 : SliceAt w v1 cs) (h2 : SliceAt w v2 cs) (hn : cs.length ≤ 4398046511104) :
    Calls Tryd.prog 9 #[.agg #[.int .i64 a, .int .i64 h, v1], .agg #[.int .i64 a, .int .i64 h, v2]] w fun e w' => e = .returned (.bool true) ∧ Below w.heap.size w w' := by
  have H1 : Hid (SliceAt w v1 cs) := h1
  have H2 : Hid (SliceAt w v2 cs) := h2
  clear h1 h2
  have kk : Below w.heap.size w ((w.alloc (.cells #[.int .i64 a, .int .i64 h, v1] 24)).alloc (.cells #[.int .i64 a, .int .i64 h, v2] 24)) := ((Below.refl _ _).alloc (Nat.le_refl _) _).alloc (by simp) _
  have aa : (a == a) = true := by simp
  have ee : (h == h) = true := by simp
  go_enter Tryd.func9, Tryd.ntmps9
  go_wp2_with (first | (go_at_call 31; refine (equal_slices_big v1 v2 cs _ (H1.out.below kk) (H2.out.below kk) hn).mono ?_; rintro e W1 ⟨rfl, b1⟩))
  go_ret
  exact ⟨rfl, kk.trans (b1.mono kk.size)⟩
set_option maxHeartbeats 1000000 in
theorem clone_empty (a : Option Addr) (c : Nat) (w : World) :
    Calls Tryd.prog 19 #[.slice a 0 c] w fun e w' => ∃ a' c', e = .returned (.slice a' 0 c') ∧ Below w.heap.size w w' := by
  obtain ⟨i0, hi, hzz⟩ := Option.map_eq_some_iff.1 info_cell
  simp only [Prod.mk.injEq] at hzz
  obtain ⟨hz0, hz1, hz2⟩ := hzz
  have qn : ∀ (w : World) (a : Option Addr) (n c n' c' : Nat), (binOp .eql 22 (.slice a n c) (.slice none n' c')).run Tryd.prog w = .ok (.bool a.isNone) w := fun w a n c n' c' => Lib.run_eql_slice_nil w _ _ a n c n' c' und_cells
  cases a with
  | none =>
    go_enter Tryd.func19, Tryd.ntmps19
    go_wp2_with fail
    go_ret
    exact ⟨_, _, rfl, Below.refl _ _⟩
  | some ad =>
    go_enter Tryd.func19, Tryd.ntmps19
    go_wp2_with (at_builtin; refine wpList_append_own _ rfl _ _ 22 rfl w.heap.size 49 i0 (.agg #[.int .i32 0, .int .i64 0, .int .i64 0, .int .i64 0]) 4 32 und_cells hi hz0 hz1 hz2 rfl (by decide) _ _ _ rfl (World.ownsRow_made w #[] 0 (Nat.le_refl _) (Nat.zero_le _) rfl) ad 0 c [] rfl rfl (by simp) (by simp) (by unfold maxLen; omega) (by omega) (by simp) ?_)
    intro v' w1 hown hgrow hnil
    have hsh : ∃ a' c', v' = .slice a' 0 c' := by
      rcases hown.2 with h | ⟨g, cp, _, h, _⟩
      · exact ⟨_, _, h.1⟩
      · exact ⟨_, _, h⟩
    obtain ⟨a', c', rfl⟩ := hsh
    go_wp2_with fail
    go_ret
    exact ⟨a', c', rfl, ((Below.refl _ w).alloc (Nat.le_refl _) _).grown hgrow (by simp) (by intro k hk; simp [Value.ownBlock] at hk; omega)⟩
theorem clone_any (v : Value) (cs : List C) (w : World) (hS : SliceAt w v cs) (hbig : cs.length * 32 ≤ 140737488355328) :
    Calls Tryd.prog 19 #[v] w fun e w' => ∃ a' c', e = .returned (.slice a' cs.length c') ∧ (cs = [] ∨ OwnG w' w.heap.size (.slice a' cs.length c') cs) ∧ Below w.heap.size w w' := by
  rcases hS with ⟨rfl, a, c, rfl⟩ | ⟨hne, b, o, c, rfl, hc, hm, hC⟩
  · exact (clone_empty a c w).mono fun e w' ⟨a', c', he, hb⟩ => ⟨a', c', he, .inl rfl, hb⟩
  · exact (clone_cells b o c cs w hC hbig).mono fun e w' ⟨v', he, ho, hb⟩ => by
      have ho' := ho
      obtain ⟨g, cp, rs, t, rfl, _⟩ := ho
      exact ⟨_, _, he, .inr ho', hb⟩
set_option maxHeartbeats 1000000 in
theorem own_any (a h : Int) (v : Value) (cs : List C) (w : World) (hS : SliceAt w v cs) (hbig : cs.length * 32 ≤ 140737488355328) :
    Calls Tryd.prog 5 #[.agg #[.int .i64 a, .int .i64 h, v]] w fun e w' => ∃ a' c', e = .returned (.agg #[.int .i64 a, .int .i64 h, .slice a' cs.length c']) ∧ SliceAt w' (.slice a' cs.length c') cs ∧ Below w.heap.size w w' := by
  have HS : Hid (SliceAt w v cs) := hS
  have kk : Below w.heap.size w ((w.alloc (.cells #[.int .i64 a, .int .i64 h, v] 24)).alloc (.cells #[.int .i64 0, .int .i64 0, .slice none 0 0] 24)) := ((Below.refl _ _).alloc (Nat.le_refl _) _).alloc (by simp) _
  have x0 : ((w.alloc (.cells #[.int .i64 a, .int .i64 h, v] 24)).alloc (.cells #[.int .i64 0, .int .i64 0, .slice none 0 0] 24)).heap[w.heap.size]? = some (.cells #[.int .i64 a, .int .i64 h, v] 24 (0, 0)) := (Below.heap_alloc _ _ _ (by simp)).trans (heap_alloc_new _ _)
  have x1 : ((w.alloc (.cells #[.int .i64 a, .int .i64 h, v] 24)).alloc (.cells #[.int .i64 0, .int .i64 0, .slice none 0 0] 24)).heap[w.heap.size + 1]? = some (.cells #[.int .i64 0, .int .i64 0, .slice none 0 0] 24 (0, 0)) := heap_alloc2_new w _ _
  obtain ⟨va, vc, rfl⟩ := hS.shape
  clear hS
  go_enter Tryd.func5, Tryd.ntmps5
  go_wp2_with fail
  refine (clone_any _ cs _ (HS.out.below kk) hbig).mono ?_
  rintro e W2 ⟨a2, c2, rfl, hs2, b2⟩
  have y0 := carry x0 b2
  have y1 := carry x1 b2
  have ⟨d0, d1, d2, df⟩ := cells3 y0
  have f2 := df 2
  have z0' := heap_setCell_same W2 w.heap.size 2 _ _ (.slice a2 cs.length c2) y0
  have z1' := (heap_setCell_other W2 ⟨w.heap.size, 2, none⟩ (w.heap.size + 1) (.slice a2 cs.length c2) (Nat.succ_ne_self _)).trans y1
  have HS2 : Hid (cs = [] ∨ OwnG W2 (w.heap.size + 2) (.slice a2 cs.length c2) cs) := by
    rcases hs2 with h' | h'
    · exact .inl h'
    · have e : ((w.alloc (.cells #[.int .i64 a, .int .i64 h, .slice va cs.length vc] 24)).alloc (.cells #[.int .i64 0, .int .i64 0, .slice none 0 0] 24)).heap.size = w.heap.size + 2 := by simp
      rw [e] at h'
      exact .inr h'
  clear hs2
  go_wp2_with (first
    | (refine wpList_load_row rfl 24 _ rfl w.heap.size rfl _ _ _ _ z0' Tryd.underlying24 rfl (by kernel_rfl) ?_)
    | (refine wpList_store_row rfl 24 (.tmp 2) _ rfl (w.heap.size + 1) #[.int .i64 a, .int .i64 h, .slice a2 cs.length c2] rfl rfl _ _ z1' (by kernel_rfl) rfl (one3v _ _ _ _ _) ?_))
  (try simp only [Exit.inBlock, Exit.then])
  refine bodyPost_ret (v := .agg #[.int .i64 a, .int .i64 h, .slice a2 cs.length c2]) ?_ rfl ⟨a2, c2, rfl, ?_, below_setRow ((kk.trans (b2.mono kk.size)).setCell (Nat.le_refl _) _) (by omega) _⟩
  · exact results_cell_row rfl _ _ (w.heap.size + 1) _ _ _ _ rfl (setRow_heap _ _ _ _ _ _ z1') Tryd.underlying24 rfl (by kernel_rfl)
  · rcases HS2.out with h | ⟨g, cp, rs, t, hv, hg, h1, h2, h3⟩
    · exact .inl ⟨h, _, _, by rw [h]; rfl⟩
    · refine OwnG.slice (base := 0) ⟨g, cp, rs, t, hv, by omega, h1, h2, ?_⟩
      rw [setRow_other _ _ _ _ (by omega), heap_setCell_other _ _ _ _ (by dsimp only; omega)]
      exact h3
end Grd
end Go.Proofs.YtknpolbnoppofaaDoor
