/- Package split: the reader of a text: a part that is a leaf. -/
import Derived.Test.YtckkbmgdaplaaaaDoorSplTx
namespace Go.Proofs.YtckkbmgdaplaaaaDoor
open Go.ChangeShapes Go.WideShapes Go.ChangeAt Go.RowKit Go.Maps Go.Sort
namespace Spl
open Fo
/-- The table of brackets. -/
def BrTab (w : World) (b0 b1 b2 : ByteArray) : Prop := ∃ (t : TypeId) (fr : Nat × Nat), w.heap[0]? = some (.cells #[.string b0, .string b1, .string b2] t fr)
structure Br (b1 b2 : ByteArray) : Prop where
  s1 : b1.size = 2
  s2 : b2.size = 2
  o1 : b1[0]'(by omega) = 123
  e1 : b1[1]'(by omega) = 125
  o2 : b2[0]'(by omega) = 91
  e2 : b2[1]'(by omega) = 93
theorem BrTab.cells {w : World} {b0 b1 b2 : ByteArray} (h : BrTab w b0 b1 b2) : w.cell? ⟨0, 1, none⟩ = some (.string b1) ∧ w.cell? ⟨0, 2, none⟩ = some (.string b2) := by
  obtain ⟨t, fr, h⟩ := h
  unfold World.cell?
  rw [h]
  exact ⟨rfl, rfl⟩
theorem BrTab.apart {w : World} {b0 b1 b2 : ByteArray} {R : Nat} {t : ByteArray} {p o : Nat} (h : BrTab w b0 b1 b2) (hr : RdAt w R t p o) : 0 ≠ R := by
  intro e
  obtain ⟨t, fr, h⟩ := h
  unfold RdAt at hr
  rw [← e, h] at hr
  simp at hr
theorem BrTab.but {w w' : World} {b0 b1 b2 : ByteArray} {R : Nat} (h : BrTab w b0 b1 b2) (hb : But R w w') (hR : 0 ≠ R) : BrTab w' b0 b1 b2 := by
  obtain ⟨t, fr, h⟩ := h
  exact ⟨t, fr, by rw [hb.block _ (Array.getElem?_eq_some_iff.1 h).1 hR]; exact h⟩
theorem BrTab.below {w w' : World} {b0 b1 b2 : ByteArray} (h : BrTab w b0 b1 b2) (hb : Below w.heap.size w w') : BrTab w' b0 b1 b2 := by
  obtain ⟨t, fr, h⟩ := h
  exact ⟨t, fr, by rw [hb.block _ (Array.getElem?_eq_some_iff.1 h).1]; exact h⟩
theorem RdAt.fresh {w : World} {R g i : Nat} {t : ByteArray} {p o : Nat} (h : RdAt w R t p o) (u : Value) (hg : R ≠ g) : RdAt (w.setCell ⟨g, i, none⟩ u) R t p o := by
  unfold RdAt
  rw [RowKit.Below.heap_setCell _ _ _ _ (show R ≠ g by omega)]
  exact h
theorem But.fresh {R g i : Nat} {w w' : World} (h : But R w w') (u : Value) (hg : w.heap.size ≤ g) : But R w (w'.setCell ⟨g, i, none⟩ u) :=
  ⟨h.os, h.tape, h.output, by rw [show (w'.setCell ⟨g, i, none⟩ u).heap.size = w'.heap.size by simp [World.setCell]]; exact h.size, fun j hj hne => by rw [RowKit.Below.heap_setCell _ _ _ _ (show j ≠ g by omega)]; exact h.block j hj hne⟩
set_option maxHeartbeats 4000000 in
set_option maxRecDepth 100000 in
theorem part_num (R : Nat) (t b0 b1 b2 : ByteArray) (p q k o : Nat) (pn sz : Int) (w : World) (hr : RdAt w R t p o) (hts : t.size ≤ 100000) (hB : BrTab w b0 b1 b2) (hb : Br b1 b2) (hn1 : nextIs t p 123 = false) (hn2 : nextIs t p 91 = false) (hn : Nm t p k pn) (hs : Szd t (p + k) q sz) :
    Calls Tryd.prog 74 #[.pointer (some ⟨R, 0, none⟩)] w fun e w' => e = .returned (.agg #[.int .i64 0, .int .i64 pn, .int .i64 sz, .slice none 0 0]) ∧ RdAt w' R t q o ∧ But R w w' := by
  have h20 : 0 < b1.size := by have := hb.s1; omega
  have h30 : 0 < b2.size := by have := hb.s2; omega
  have l1 : (0 : Int) < (b1.size : Int) := by omega
  have l2 : (0 : Int) < (b2.size : Int) := by omega
  have H1 : ∀ W, RdAt W R t p o → Calls Tryd.prog 82 #[.pointer (some ⟨R, 0, none⟩), .int .u8 (b1[0]'h20).toNat] W fun e w' => e = .returned (.bool false) ∧ Below W.heap.size W w' := by
    intro W h
    have := sees_any R t p o (b1[0]'h20) W h
    rwa [hb.o1, hn1, ← hb.o1] at this
  have H2 : ∀ W, RdAt W R t p o → Calls Tryd.prog 82 #[.pointer (some ⟨R, 0, none⟩), .int .u8 (b2[0]'h30).toNat] W fun e w' => e = .returned (.bool false) ∧ Below W.heap.size W w' := by
    intro W h
    have := sees_any R t p o (b2[0]'h30) W h
    rwa [hb.o2, hn2, ← hb.o2] at this
  have H3 := fun W (h : RdAt W R t p o) => number_any R t p k o pn W h hts hn
  have H4 := fun W (h : RdAt W R t (p + k) o) => size_any R t (p + k) q o sz W h hts hn.2.2.1 hs
  have HRO : Hid (RdAt w R t p o) := hr
  have kb : Below w.heap.size w ((w.alloc (.cells #[.int .i64 0, .int .i64 0, .int .i64 0, .slice none 0 0] 24)).alloc (.cells #[.int .i64 0, .int .i64 0, .int .i64 0, .slice none 0 0] 24)) := ((Below.refl _ _).alloc (Nat.le_refl _) _).alloc (by show w.heap.size ≤ (w.heap.push _).size; rw [Array.size_push]; omega) _
  have e3 : ((w.alloc (.cells #[.int .i64 0, .int .i64 0, .int .i64 0, .slice none 0 0] 24)).alloc (.cells #[.int .i64 0, .int .i64 0, .int .i64 0, .slice none 0 0] 24)).heap[w.heap.size + 1]? = some (.cells #[.int .i64 0, .int .i64 0, .int .i64 0, .slice none 0 0] 24 (0, 0)) := by
    show ((w.heap.push _).push _)[w.heap.size + 1]? = _
    rw [Array.getElem?_push, if_pos (by rw [Array.size_push])]
  have e2 : ((w.alloc (.cells #[.int .i64 0, .int .i64 0, .int .i64 0, .slice none 0 0] 24)).alloc (.cells #[.int .i64 0, .int .i64 0, .int .i64 0, .slice none 0 0] 24)).heap[w.heap.size]? = some (.cells #[.int .i64 0, .int .i64 0, .int .i64 0, .slice none 0 0] 24 (0, 0)) := by
    show ((w.heap.push _).push _)[w.heap.size]? = _
    rw [Array.getElem?_push, if_neg (by rw [Array.size_push]; omega), Array.getElem?_push, if_pos rfl]
  have hRn : R < w.heap.size := by unfold RdAt at hr; exact (Array.getElem?_eq_some_iff.1 hr).1
  have hB1 := (hB.below kb).cells
  have hr1 := hr.below kb
  have hBk := hB.below kb
  obtain ⟨d1, d2⟩ := hB1
  clear hb hn hs hn1 hn2 hr
  go_enter Tryd.func74, Tryd.ntmps74
  go_wp2_with fail
  generalize (w.alloc (.cells #[.int .i64 0, .int .i64 0, .int .i64 0, .slice none 0 0] 24)).alloc (.cells #[.int .i64 0, .int .i64 0, .int .i64 0, .slice none 0 0] 24) = W1 at *
  refine (H1 _ hr1).mono ?_
  rintro e W ⟨rfl, bW⟩
  have hr2 := hr1.below bW
  have e3' := (bW.block _ (Array.getElem?_eq_some_iff.1 e3).1).trans e3
  have e2' := (bW.block _ (Array.getElem?_eq_some_iff.1 e2).1).trans e2
  have k2 := kb.trans (bW.mono kb.size)
  have hB2 := hBk.below bW
  obtain ⟨d1', d2'⟩ := hB2.cells
  clear d1 d2 hBk e2 e3 hr1 bW kb H1 hB
  go_wp2_with fail
  refine (H2 _ hr2).mono ?_
  rintro e W2 ⟨rfl, bW2⟩
  have hr3 := hr2.below bW2
  have e3 := (bW2.block _ (Array.getElem?_eq_some_iff.1 e3').1).trans e3'
  have e2 := (bW2.block _ (Array.getElem?_eq_some_iff.1 e2').1).trans e2'
  have k3 := k2.trans (bW2.mono k2.size)
  clear e2' e3' hr2 bW2 k2 H2 d1' d2' hB2
  go_wp2_with fail
  refine (H3 _ hr3).mono ?_
  rintro e W3 ⟨rfl, rW3, bW3⟩
  have e3' := (bW3.block _ (Array.getElem?_eq_some_iff.1 e3).1 (by omega)).trans e3
  have e2' := (bW3.block _ (Array.getElem?_eq_some_iff.1 e2).1 (by omega)).trans e2
  have k4 := (But.of_below (M := R) k3).trans bW3
  have f1 : W3.frozen? ⟨w.heap.size + 1, 1, none⟩ = false := by simp [World.frozen?, e3']
  have c1 := (four_at e3').1.2.1
  clear e2 e3 hr3 bW3 k3 H3
  have g3 : (W3.setCell ⟨w.heap.size + 1, 1, none⟩ (.int .i64 pn)).heap[w.heap.size + 1]? = some (.cells #[.int .i64 0, .int .i64 pn, .int .i64 0, .slice none 0 0] 24 (0, 0)) := heap_setCell_same W3 (w.heap.size + 1) 1 _ _ (.int .i64 pn) e3'
  have r3 : RdAt (W3.setCell ⟨w.heap.size + 1, 1, none⟩ (.int .i64 pn)) R t (p + k) o := by
    unfold RdAt
    rw [RowKit.Below.heap_setCell _ _ _ _ (show R ≠ w.heap.size + 1 by omega)]
    exact rW3
  have g2 : (W3.setCell ⟨w.heap.size + 1, 1, none⟩ (.int .i64 pn)).heap[w.heap.size]? = _ := (RowKit.Below.heap_setCell _ _ _ _ (show w.heap.size ≠ w.heap.size + 1 by omega)).trans e2'
  clear e2' e3' rW3
  go_wp2_with fail
  have k5 := k4.fresh (i := 1) (.int .i64 pn) (show w.heap.size ≤ w.heap.size + 1 by omega)
  generalize W3.setCell ⟨w.heap.size + 1, 1, none⟩ (.int .i64 pn) = V at *
  clear k4 f1 c1
  refine (H4 _ r3).mono ?_
  rintro e W5 ⟨rfl, rW5, bW5⟩
  have e3 := (bW5.block _ (Array.getElem?_eq_some_iff.1 g3).1 (by omega)).trans g3
  have e2 := (bW5.block _ (Array.getElem?_eq_some_iff.1 g2).1 (by omega)).trans g2
  have k6 := k5.trans bW5
  have f2 : W5.frozen? ⟨w.heap.size + 1, 2, none⟩ = false := by simp [World.frozen?, e3]
  obtain ⟨⟨c0, c1, c2, c3⟩, _⟩ := four_at e3
  obtain ⟨⟨x0, x1, x2, x3⟩, _⟩ := four_at e2
  have y0 : W5.frozen? ⟨w.heap.size, 0, none⟩ = false := by simp [World.frozen?, e2]
  have y1 : W5.frozen? ⟨w.heap.size, 1, none⟩ = false := by simp [World.frozen?, e2]
  have y2 : W5.frozen? ⟨w.heap.size, 2, none⟩ = false := by simp [World.frozen?, e2]
  have y3 : W5.frozen? ⟨w.heap.size, 3, none⟩ = false := by simp [World.frozen?, e2]
  have r5 : RdAt (W5.setCell ⟨w.heap.size + 1, 2, none⟩ (.int .i64 sz)) R t q o := by
    unfold RdAt
    rw [RowKit.Below.heap_setCell _ _ _ _ (show R ≠ w.heap.size + 1 by omega)]
    exact rW5
  have g2' : (W5.setCell ⟨w.heap.size + 1, 2, none⟩ (.int .i64 sz)).heap[w.heap.size]? = _ := (RowKit.Below.heap_setCell _ _ _ _ (show w.heap.size ≠ w.heap.size + 1 by omega)).trans e2
  have k7 := k6.fresh (i := 2) (.int .i64 sz) (show w.heap.size ≤ w.heap.size + 1 by omega)
  clear g3 g2 r3 k5 bW5 e3 e2 k6 rW5 H4
  go_wp2_with fail
  have hne : R ≠ w.heap.size := by omega
  have k11 := (((k7.fresh (i := 0) (.int .i64 0) (Nat.le_refl w.heap.size)).fresh (i := 1) (.int .i64 pn) (Nat.le_refl w.heap.size)).fresh (i := 2) (.int .i64 sz) (Nat.le_refl w.heap.size)).fresh (i := 3) (.slice none 0 0) (Nat.le_refl w.heap.size)
  have r11 := (((r5.fresh (i := 0) (.int .i64 0) hne).fresh (i := 1) (.int .i64 pn) hne).fresh (i := 2) (.int .i64 sz) hne).fresh (i := 3) (.slice none 0 0) hne
  have z : ((((((W5.setCell ⟨w.heap.size + 1, 2, none⟩ (.int .i64 sz)).setCell ⟨w.heap.size, 0, none⟩ (.int .i64 0)).setCell ⟨w.heap.size, 1, none⟩ (.int .i64 pn)).setCell ⟨w.heap.size, 2, none⟩ (.int .i64 sz)).setCell ⟨w.heap.size, 3, none⟩ (.slice none 0 0)).heap[w.heap.size]? = some (.cells #[.int .i64 0, .int .i64 pn, .int .i64 sz, .slice none 0 0] 24 (0, 0))) :=
    heap_setCell_same _ _ 3 _ _ _ (heap_setCell_same _ _ 2 _ _ _ (heap_setCell_same _ _ 1 _ _ _ (heap_setCell_same _ _ 0 _ _ _ g2')))
  exact bodyPost_ret (v := .agg #[.int .i64 0, .int .i64 pn, .int .i64 sz, .slice none 0 0]) (results_cell_row rfl _ _ w.heap.size _ _ _ _ rfl z Tryd.underlying24 rfl (by kernel_rfl)) rfl ⟨rfl, r11, k11⟩
end Spl
end Go.Proofs.YtckkbmgdaplaaaaDoor
