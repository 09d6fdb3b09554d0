/- Package split: the reader of a text: a part in brackets. -/
import Derived.Test.YtckkbmgdaplaaaaDoorSplPart
namespace Go.Proofs.YtckkbmgdaplaaaaDoor
open Go.ChangeShapes Go.WideShapes Go.ChangeAt Go.RowKit Go.Maps Go.Sort
namespace Spl
open Fo
/-- What is read in brackets: the parts ks, from p (a bracket) to m (behind one). -/
def InBr (R : Nat) (t b0 b1 b2 : ByteArray) (wy : Int) (ks : Fo) (p m o : Nat) : Prop := ∀ W, RdAt W R t p o → BrTab W b0 b1 b2 → Calls Tryd.prog 83 #[.pointer (some ⟨R, 0, none⟩), .int .i64 wy] W fun e w' => ∃ kv, e = .returned (.agg #[.int .i64 wy, .int .i64 0, .int .i64 0, kv]) ∧ KAt (low w' W.heap.size) kv ks ∧ RdAt w' R t m o ∧ But R W w'
set_option maxHeartbeats 4000000 in
set_option maxRecDepth 100000 in
theorem part_1 (R : Nat) (t b0 b1 b2 : ByteArray) (p q m o : Nat) (sz : Int) (ks : Fo) (w : World) (hr : RdAt w R t p o) (hts : t.size ≤ 100000) (hB : BrTab w b0 b1 b2) (hb : Br b1 b2) (hn1 : nextIs t p 123 = true) (hms : m ≤ t.size) (HP : InBr R t b0 b1 b2 1 ks p m o) (hs : Szd t m q sz) :
    Calls Tryd.prog 74 #[.pointer (some ⟨R, 0, none⟩)] w fun e w' => ∃ kv, e = .returned (.agg #[.int .i64 1, .int .i64 0, .int .i64 sz, kv]) ∧ KAt (low w' w.heap.size) kv ks ∧ RdAt w' R t q o ∧ But R w w' := by
  have h20 : 0 < b1.size := by have := hb.s1; omega
  have h30 : 0 < b2.size := by have := hb.s2; omega
  have l1 : (0 : Int) < (b1.size : Int) := by omega
  have l2 : (0 : Int) < (b2.size : Int) := by omega
  have H1 : ∀ W, RdAt W R t p o → Calls Tryd.prog 82 #[.pointer (some ⟨R, 0, none⟩), .int .u8 (b1[0]'h20).toNat] W fun e w' => e = .returned (.bool true) ∧ Below W.heap.size W w' := by
    intro W h
    have := sees_any R t p o (b1[0]'h20) W h
    rwa [hb.o1, hn1, ← hb.o1] at this
  have H4 := fun W (h : RdAt W R t m o) => size_any R t m q o sz W h hts hms hs
  have HRO : Hid (RdAt w R t p o) := hr
  have kb : Below w.heap.size w ((w.alloc (.cells #[.int .i64 0, .int .i64 0, .int .i64 0, .slice none 0 0] 24)).alloc (.cells #[.int .i64 0, .int .i64 0, .int .i64 0, .slice none 0 0] 24)) := ((Below.refl _ _).alloc (Nat.le_refl _) _).alloc (by show w.heap.size ≤ (w.heap.push _).size; rw [Array.size_push]; omega) _
  have e3 : ((w.alloc (.cells #[.int .i64 0, .int .i64 0, .int .i64 0, .slice none 0 0] 24)).alloc (.cells #[.int .i64 0, .int .i64 0, .int .i64 0, .slice none 0 0] 24)).heap[w.heap.size + 1]? = some (.cells #[.int .i64 0, .int .i64 0, .int .i64 0, .slice none 0 0] 24 (0, 0)) := by
    show ((w.heap.push _).push _)[w.heap.size + 1]? = _
    rw [Array.getElem?_push, if_pos (by rw [Array.size_push])]
  have e2 : ((w.alloc (.cells #[.int .i64 0, .int .i64 0, .int .i64 0, .slice none 0 0] 24)).alloc (.cells #[.int .i64 0, .int .i64 0, .int .i64 0, .slice none 0 0] 24)).heap[w.heap.size]? = some (.cells #[.int .i64 0, .int .i64 0, .int .i64 0, .slice none 0 0] 24 (0, 0)) := by
    show ((w.heap.push _).push _)[w.heap.size]? = _
    rw [Array.getElem?_push, if_neg (by rw [Array.size_push]; omega), Array.getElem?_push, if_pos rfl]
  have hRn : R < w.heap.size := by unfold RdAt at hr; exact (Array.getElem?_eq_some_iff.1 hr).1
  have hB1 := (hB.below kb).cells
  have hr1 := hr.below kb
  have hBk := hB.below kb
  obtain ⟨d1, d2⟩ := hB1
  clear hb hs hn1 hr
  go_enter Tryd.func74, Tryd.ntmps74
  go_wp2_with fail
  generalize (w.alloc (.cells #[.int .i64 0, .int .i64 0, .int .i64 0, .slice none 0 0] 24)).alloc (.cells #[.int .i64 0, .int .i64 0, .int .i64 0, .slice none 0 0] 24) = W1 at *
  refine (H1 _ hr1).mono ?_
  rintro e W ⟨rfl, bW⟩
  have hr3 := hr1.below bW
  have e3 := (bW.block _ (Array.getElem?_eq_some_iff.1 e3).1).trans e3
  have e2 := (bW.block _ (Array.getElem?_eq_some_iff.1 e2).1).trans e2
  have k3 := kb.trans (bW.mono kb.size)
  have hB3 := hBk.below bW
  obtain ⟨d1, d2⟩ := hB3.cells
  clear hBk hr1 bW kb H1 hB
  go_wp2_with fail
  have hN : w.heap.size + 1 < W.heap.size := (Array.getElem?_eq_some_iff.1 e3).1
  refine (HP _ hr3 hB3).mono ?_
  rintro e W3 ⟨kv, rfl, hkv, rW3, bW3⟩
  obtain ⟨ka, kc, rfl, _⟩ := id hkv
  generalize hNN : W.heap.size = NN at hkv hN
  have e3' := (bW3.block _ (Array.getElem?_eq_some_iff.1 e3).1 (by omega)).trans e3
  have e2' := (bW3.block _ (Array.getElem?_eq_some_iff.1 e2).1 (by omega)).trans e2
  have k4 := (But.of_below (M := R) k3).trans bW3
  obtain ⟨⟨c0, c1, c2, c3⟩, _⟩ := four_at e3'
  have f0 : W3.frozen? ⟨w.heap.size + 1, 0, none⟩ = false := by simp [World.frozen?, e3']
  have f1 : W3.frozen? ⟨w.heap.size + 1, 1, none⟩ = false := by simp [World.frozen?, e3']
  have f2 : W3.frozen? ⟨w.heap.size + 1, 2, none⟩ = false := by simp [World.frozen?, e3']
  have f3 : W3.frozen? ⟨w.heap.size + 1, 3, none⟩ = false := by simp [World.frozen?, e3']
  clear hr3 bW3 k3 hB3 HP d1 d2 hNN
  have hne3 : R ≠ w.heap.size + 1 := by omega
  have hle3 : w.heap.size ≤ w.heap.size + 1 := by omega
  have hRN : R < NN := by omega
  have hN0 : w.heap.size < NN := by omega
  have k5 := (((k4.fresh (i := 0) (.int .i64 1) hle3).fresh (i := 1) (.int .i64 0) hle3).fresh (i := 2) (.int .i64 0) hle3).fresh (i := 3) (.slice ka ks.len kc) hle3
  have r5 := (((rW3.fresh (i := 0) (.int .i64 1) hne3).fresh (i := 1) (.int .i64 0) hne3).fresh (i := 2) (.int .i64 0) hne3).fresh (i := 3) (.slice ka ks.len kc) hne3
  have t5 := (((hkv.set (i := 0) (.int .i64 1) hN).set (i := 1) (.int .i64 0) hN).set (i := 2) (.int .i64 0) hN).set (i := 3) (.slice ka ks.len kc) hN
  have z5 : ((((W3.setCell ⟨w.heap.size + 1, 0, none⟩ (.int .i64 1)).setCell ⟨w.heap.size + 1, 1, none⟩ (.int .i64 0)).setCell ⟨w.heap.size + 1, 2, none⟩ (.int .i64 0)).setCell ⟨w.heap.size + 1, 3, none⟩ (.slice ka ks.len kc)).heap[w.heap.size + 1]? = some (.cells #[.int .i64 1, .int .i64 0, .int .i64 0, .slice ka ks.len kc] 24 (0, 0)) :=
    heap_setCell_same _ _ 3 _ _ _ (heap_setCell_same _ _ 2 _ _ _ (heap_setCell_same _ _ 1 _ _ _ (heap_setCell_same _ _ 0 _ _ _ e3')))
  have hgn : w.heap.size ≠ w.heap.size + 1 := by omega
  have x5 : ((((W3.setCell ⟨w.heap.size + 1, 0, none⟩ (.int .i64 1)).setCell ⟨w.heap.size + 1, 1, none⟩ (.int .i64 0)).setCell ⟨w.heap.size + 1, 2, none⟩ (.int .i64 0)).setCell ⟨w.heap.size + 1, 3, none⟩ (.slice ka ks.len kc)).heap[w.heap.size]? = _ :=
    (RowKit.Below.heap_setCell _ _ _ _ hgn).trans ((RowKit.Below.heap_setCell _ _ _ _ hgn).trans ((RowKit.Below.heap_setCell _ _ _ _ hgn).trans ((RowKit.Below.heap_setCell _ _ _ _ hgn).trans e2')))
  clear k4 rW3 hkv e2' e3' e2 e3
  go_wp2_with fail
  generalize (((W3.setCell ⟨w.heap.size + 1, 0, none⟩ (.int .i64 1)).setCell ⟨w.heap.size + 1, 1, none⟩ (.int .i64 0)).setCell ⟨w.heap.size + 1, 2, none⟩ (.int .i64 0)).setCell ⟨w.heap.size + 1, 3, none⟩ (.slice ka ks.len kc) = V at *
  clear c0 c1 c2 c3 f0 f1 f2 f3
  refine (H4 _ r5).mono ?_
  rintro e W5 ⟨rfl, rW5, bW5⟩
  have e3 := (bW5.block _ (Array.getElem?_eq_some_iff.1 z5).1 (by omega)).trans z5
  have e2 := (bW5.block _ (Array.getElem?_eq_some_iff.1 x5).1 (by omega)).trans x5
  have k6 := k5.trans bW5
  have t6 := t5.apart bW5 hRN
  have f2 : W5.frozen? ⟨w.heap.size + 1, 2, none⟩ = false := by simp [World.frozen?, e3]
  obtain ⟨⟨c0, c1, c2, c3⟩, _⟩ := four_at e3
  obtain ⟨⟨x0, x1, x2, x3⟩, _⟩ := four_at e2
  have y0 : W5.frozen? ⟨w.heap.size, 0, none⟩ = false := by simp [World.frozen?, e2]
  have y1 : W5.frozen? ⟨w.heap.size, 1, none⟩ = false := by simp [World.frozen?, e2]
  have y2 : W5.frozen? ⟨w.heap.size, 2, none⟩ = false := by simp [World.frozen?, e2]
  have y3 : W5.frozen? ⟨w.heap.size, 3, none⟩ = false := by simp [World.frozen?, e2]
  have r6 := rW5.fresh (i := 2) (.int .i64 sz) hne3
  have g2' : (W5.setCell ⟨w.heap.size + 1, 2, none⟩ (.int .i64 sz)).heap[w.heap.size]? = _ := (RowKit.Below.heap_setCell _ _ _ _ hgn).trans e2
  have k7 := k6.fresh (i := 2) (.int .i64 sz) hle3
  have t7 := t6.set (i := 2) (.int .i64 sz) hN
  clear z5 x5 r5 k5 bW5 e3 e2 k6 rW5 H4 t5 t6
  go_wp2_with fail
  have hne : R ≠ w.heap.size := by omega
  have k11 := (((k7.fresh (i := 0) (.int .i64 1) (Nat.le_refl w.heap.size)).fresh (i := 1) (.int .i64 0) (Nat.le_refl w.heap.size)).fresh (i := 2) (.int .i64 sz) (Nat.le_refl w.heap.size)).fresh (i := 3) (.slice ka ks.len kc) (Nat.le_refl w.heap.size)
  have r11 := (((r6.fresh (i := 0) (.int .i64 1) hne).fresh (i := 1) (.int .i64 0) hne).fresh (i := 2) (.int .i64 sz) hne).fresh (i := 3) (.slice ka ks.len kc) hne
  have t11 := ((((t7.set (i := 0) (.int .i64 1) hN0).set (i := 1) (.int .i64 0) hN0).set (i := 2) (.int .i64 sz) hN0).set (i := 3) (.slice ka ks.len kc) hN0).down (Nat.le_of_lt hN0)
  have z : ((((((W5.setCell ⟨w.heap.size + 1, 2, none⟩ (.int .i64 sz)).setCell ⟨w.heap.size, 0, none⟩ (.int .i64 1)).setCell ⟨w.heap.size, 1, none⟩ (.int .i64 0)).setCell ⟨w.heap.size, 2, none⟩ (.int .i64 sz)).setCell ⟨w.heap.size, 3, none⟩ (.slice ka ks.len kc)).heap[w.heap.size]? = some (.cells #[.int .i64 1, .int .i64 0, .int .i64 sz, .slice ka ks.len kc] 24 (0, 0))) :=
    heap_setCell_same _ _ 3 _ _ _ (heap_setCell_same _ _ 2 _ _ _ (heap_setCell_same _ _ 1 _ _ _ (heap_setCell_same _ _ 0 _ _ _ g2')))
  exact bodyPost_ret (v := .agg #[.int .i64 1, .int .i64 0, .int .i64 sz, .slice ka ks.len kc]) (results_cell_row rfl _ _ w.heap.size _ _ _ _ rfl z Tryd.underlying24 rfl (by kernel_rfl)) rfl ⟨_, rfl, t11, r11, k11⟩
set_option maxHeartbeats 4000000 in
set_option maxRecDepth 100000 in
theorem part_2 (R : Nat) (t b0 b1 b2 : ByteArray) (p q m o : Nat) (sz : Int) (ks : Fo) (w : World) (hr : RdAt w R t p o) (hts : t.size ≤ 100000) (hB : BrTab w b0 b1 b2) (hb : Br b1 b2) (hn1 : nextIs t p 123 = false) (hn2 : nextIs t p 91 = true) (hms : m ≤ t.size) (HP : InBr R t b0 b1 b2 2 ks p m o) (hs : Szd t m q sz) :
    Calls Tryd.prog 74 #[.pointer (some ⟨R, 0, none⟩)] w fun e w' => ∃ kv, e = .returned (.agg #[.int .i64 2, .int .i64 0, .int .i64 sz, kv]) ∧ KAt (low w' w.heap.size) kv ks ∧ RdAt w' R t q o ∧ But R w w' := by
  have h20 : 0 < b1.size := by have := hb.s1; omega
  have h30 : 0 < b2.size := by have := hb.s2; omega
  have l1 : (0 : Int) < (b1.size : Int) := by omega
  have l2 : (0 : Int) < (b2.size : Int) := by omega
  have H1 : ∀ W, RdAt W R t p o → Calls Tryd.prog 82 #[.pointer (some ⟨R, 0, none⟩), .int .u8 (b1[0]'h20).toNat] W fun e w' => e = .returned (.bool false) ∧ Below W.heap.size W w' := by
    intro W h
    have := sees_any R t p o (b1[0]'h20) W h
    rwa [hb.o1, hn1, ← hb.o1] at this
  have H2 : ∀ W, RdAt W R t p o → Calls Tryd.prog 82 #[.pointer (some ⟨R, 0, none⟩), .int .u8 (b2[0]'h30).toNat] W fun e w' => e = .returned (.bool true) ∧ Below W.heap.size W w' := by
    intro W h
    have := sees_any R t p o (b2[0]'h30) W h
    rwa [hb.o2, hn2, ← hb.o2] at this
  have H4 := fun W (h : RdAt W R t m o) => size_any R t m q o sz W h hts hms hs
  have HRO : Hid (RdAt w R t p o) := hr
  have kb : Below w.heap.size w ((w.alloc (.cells #[.int .i64 0, .int .i64 0, .int .i64 0, .slice none 0 0] 24)).alloc (.cells #[.int .i64 0, .int .i64 0, .int .i64 0, .slice none 0 0] 24)) := ((Below.refl _ _).alloc (Nat.le_refl _) _).alloc (by show w.heap.size ≤ (w.heap.push _).size; rw [Array.size_push]; omega) _
  have e3 : ((w.alloc (.cells #[.int .i64 0, .int .i64 0, .int .i64 0, .slice none 0 0] 24)).alloc (.cells #[.int .i64 0, .int .i64 0, .int .i64 0, .slice none 0 0] 24)).heap[w.heap.size + 1]? = some (.cells #[.int .i64 0, .int .i64 0, .int .i64 0, .slice none 0 0] 24 (0, 0)) := by
    show ((w.heap.push _).push _)[w.heap.size + 1]? = _
    rw [Array.getElem?_push, if_pos (by rw [Array.size_push])]
  have e2 : ((w.alloc (.cells #[.int .i64 0, .int .i64 0, .int .i64 0, .slice none 0 0] 24)).alloc (.cells #[.int .i64 0, .int .i64 0, .int .i64 0, .slice none 0 0] 24)).heap[w.heap.size]? = some (.cells #[.int .i64 0, .int .i64 0, .int .i64 0, .slice none 0 0] 24 (0, 0)) := by
    show ((w.heap.push _).push _)[w.heap.size]? = _
    rw [Array.getElem?_push, if_neg (by rw [Array.size_push]; omega), Array.getElem?_push, if_pos rfl]
  have hRn : R < w.heap.size := by unfold RdAt at hr; exact (Array.getElem?_eq_some_iff.1 hr).1
  have hB1 := (hB.below kb).cells
  have hr1 := hr.below kb
  have hBk := hB.below kb
  obtain ⟨d1, d2⟩ := hB1
  clear hb hs hn1 hn2 hr
  go_enter Tryd.func74, Tryd.ntmps74
  go_wp2_with fail
  generalize (w.alloc (.cells #[.int .i64 0, .int .i64 0, .int .i64 0, .slice none 0 0] 24)).alloc (.cells #[.int .i64 0, .int .i64 0, .int .i64 0, .slice none 0 0] 24) = W1 at *
  refine (H1 _ hr1).mono ?_
  rintro e W ⟨rfl, bW⟩
  have hr3 := hr1.below bW
  have e3 := (bW.block _ (Array.getElem?_eq_some_iff.1 e3).1).trans e3
  have e2 := (bW.block _ (Array.getElem?_eq_some_iff.1 e2).1).trans e2
  have k3 := kb.trans (bW.mono kb.size)
  have hB3 := hBk.below bW
  obtain ⟨d1, d2⟩ := hB3.cells
  clear hBk hr1 bW kb H1 hB
  go_wp2_with fail
  refine (H2 _ hr3).mono ?_
  rintro e W2 ⟨rfl, bW2⟩
  have hr3 := hr3.below bW2
  have e3 := (bW2.block _ (Array.getElem?_eq_some_iff.1 e3).1).trans e3
  have e2 := (bW2.block _ (Array.getElem?_eq_some_iff.1 e2).1).trans e2
  have k3 := k3.trans (bW2.mono k3.size)
  have hB3 := hB3.below bW2
  clear d1 d2 bW2 H2
  go_wp2_with fail
  have hN : w.heap.size + 1 < W2.heap.size := (Array.getElem?_eq_some_iff.1 e3).1
  refine (HP _ hr3 hB3).mono ?_
  rintro e W3 ⟨kv, rfl, hkv, rW3, bW3⟩
  obtain ⟨ka, kc, rfl, _⟩ := id hkv
  generalize hNN : W2.heap.size = NN at hkv hN
  have e3' := (bW3.block _ (Array.getElem?_eq_some_iff.1 e3).1 (by omega)).trans e3
  have e2' := (bW3.block _ (Array.getElem?_eq_some_iff.1 e2).1 (by omega)).trans e2
  have k4 := (But.of_below (M := R) k3).trans bW3
  obtain ⟨⟨c0, c1, c2, c3⟩, _⟩ := four_at e3'
  have f0 : W3.frozen? ⟨w.heap.size + 1, 0, none⟩ = false := by simp [World.frozen?, e3']
  have f1 : W3.frozen? ⟨w.heap.size + 1, 1, none⟩ = false := by simp [World.frozen?, e3']
  have f2 : W3.frozen? ⟨w.heap.size + 1, 2, none⟩ = false := by simp [World.frozen?, e3']
  have f3 : W3.frozen? ⟨w.heap.size + 1, 3, none⟩ = false := by simp [World.frozen?, e3']
  clear hr3 bW3 k3 hB3 HP d1 d2 hNN
  have hne3 : R ≠ w.heap.size + 1 := by omega
  have hle3 : w.heap.size ≤ w.heap.size + 1 := by omega
  have hRN : R < NN := by omega
  have hN0 : w.heap.size < NN := by omega
  have k5 := (((k4.fresh (i := 0) (.int .i64 2) hle3).fresh (i := 1) (.int .i64 0) hle3).fresh (i := 2) (.int .i64 0) hle3).fresh (i := 3) (.slice ka ks.len kc) hle3
  have r5 := (((rW3.fresh (i := 0) (.int .i64 2) hne3).fresh (i := 1) (.int .i64 0) hne3).fresh (i := 2) (.int .i64 0) hne3).fresh (i := 3) (.slice ka ks.len kc) hne3
  have t5 := (((hkv.set (i := 0) (.int .i64 2) hN).set (i := 1) (.int .i64 0) hN).set (i := 2) (.int .i64 0) hN).set (i := 3) (.slice ka ks.len kc) hN
  have z5 : ((((W3.setCell ⟨w.heap.size + 1, 0, none⟩ (.int .i64 2)).setCell ⟨w.heap.size + 1, 1, none⟩ (.int .i64 0)).setCell ⟨w.heap.size + 1, 2, none⟩ (.int .i64 0)).setCell ⟨w.heap.size + 1, 3, none⟩ (.slice ka ks.len kc)).heap[w.heap.size + 1]? = some (.cells #[.int .i64 2, .int .i64 0, .int .i64 0, .slice ka ks.len kc] 24 (0, 0)) :=
    heap_setCell_same _ _ 3 _ _ _ (heap_setCell_same _ _ 2 _ _ _ (heap_setCell_same _ _ 1 _ _ _ (heap_setCell_same _ _ 0 _ _ _ e3')))
  have hgn : w.heap.size ≠ w.heap.size + 1 := by omega
  have x5 : ((((W3.setCell ⟨w.heap.size + 1, 0, none⟩ (.int .i64 2)).setCell ⟨w.heap.size + 1, 1, none⟩ (.int .i64 0)).setCell ⟨w.heap.size + 1, 2, none⟩ (.int .i64 0)).setCell ⟨w.heap.size + 1, 3, none⟩ (.slice ka ks.len kc)).heap[w.heap.size]? = _ :=
    (RowKit.Below.heap_setCell _ _ _ _ hgn).trans ((RowKit.Below.heap_setCell _ _ _ _ hgn).trans ((RowKit.Below.heap_setCell _ _ _ _ hgn).trans ((RowKit.Below.heap_setCell _ _ _ _ hgn).trans e2')))
  clear k4 rW3 hkv e2' e3' e2 e3
  go_wp2_with fail
  generalize (((W3.setCell ⟨w.heap.size + 1, 0, none⟩ (.int .i64 2)).setCell ⟨w.heap.size + 1, 1, none⟩ (.int .i64 0)).setCell ⟨w.heap.size + 1, 2, none⟩ (.int .i64 0)).setCell ⟨w.heap.size + 1, 3, none⟩ (.slice ka ks.len kc) = V at *
  clear c0 c1 c2 c3 f0 f1 f2 f3
  refine (H4 _ r5).mono ?_
  rintro e W5 ⟨rfl, rW5, bW5⟩
  have e3 := (bW5.block _ (Array.getElem?_eq_some_iff.1 z5).1 (by omega)).trans z5
  have e2 := (bW5.block _ (Array.getElem?_eq_some_iff.1 x5).1 (by omega)).trans x5
  have k6 := k5.trans bW5
  have t6 := t5.apart bW5 hRN
  have f2 : W5.frozen? ⟨w.heap.size + 1, 2, none⟩ = false := by simp [World.frozen?, e3]
  obtain ⟨⟨c0, c1, c2, c3⟩, _⟩ := four_at e3
  obtain ⟨⟨x0, x1, x2, x3⟩, _⟩ := four_at e2
  have y0 : W5.frozen? ⟨w.heap.size, 0, none⟩ = false := by simp [World.frozen?, e2]
  have y1 : W5.frozen? ⟨w.heap.size, 1, none⟩ = false := by simp [World.frozen?, e2]
  have y2 : W5.frozen? ⟨w.heap.size, 2, none⟩ = false := by simp [World.frozen?, e2]
  have y3 : W5.frozen? ⟨w.heap.size, 3, none⟩ = false := by simp [World.frozen?, e2]
  have r6 := rW5.fresh (i := 2) (.int .i64 sz) hne3
  have g2' : (W5.setCell ⟨w.heap.size + 1, 2, none⟩ (.int .i64 sz)).heap[w.heap.size]? = _ := (RowKit.Below.heap_setCell _ _ _ _ hgn).trans e2
  have k7 := k6.fresh (i := 2) (.int .i64 sz) hle3
  have t7 := t6.set (i := 2) (.int .i64 sz) hN
  clear z5 x5 r5 k5 bW5 e3 e2 k6 rW5 H4 t5 t6
  go_wp2_with fail
  have hne : R ≠ w.heap.size := by omega
  have k11 := (((k7.fresh (i := 0) (.int .i64 2) (Nat.le_refl w.heap.size)).fresh (i := 1) (.int .i64 0) (Nat.le_refl w.heap.size)).fresh (i := 2) (.int .i64 sz) (Nat.le_refl w.heap.size)).fresh (i := 3) (.slice ka ks.len kc) (Nat.le_refl w.heap.size)
  have r11 := (((r6.fresh (i := 0) (.int .i64 2) hne).fresh (i := 1) (.int .i64 0) hne).fresh (i := 2) (.int .i64 sz) hne).fresh (i := 3) (.slice ka ks.len kc) hne
  have t11 := ((((t7.set (i := 0) (.int .i64 2) hN0).set (i := 1) (.int .i64 0) hN0).set (i := 2) (.int .i64 sz) hN0).set (i := 3) (.slice ka ks.len kc) hN0).down (Nat.le_of_lt hN0)
  have z : ((((((W5.setCell ⟨w.heap.size + 1, 2, none⟩ (.int .i64 sz)).setCell ⟨w.heap.size, 0, none⟩ (.int .i64 2)).setCell ⟨w.heap.size, 1, none⟩ (.int .i64 0)).setCell ⟨w.heap.size, 2, none⟩ (.int .i64 sz)).setCell ⟨w.heap.size, 3, none⟩ (.slice ka ks.len kc)).heap[w.heap.size]? = some (.cells #[.int .i64 2, .int .i64 0, .int .i64 sz, .slice ka ks.len kc] 24 (0, 0))) :=
    heap_setCell_same _ _ 3 _ _ _ (heap_setCell_same _ _ 2 _ _ _ (heap_setCell_same _ _ 1 _ _ _ (heap_setCell_same _ _ 0 _ _ _ g2')))
  exact bodyPost_ret (v := .agg #[.int .i64 2, .int .i64 0, .int .i64 sz, .slice ka ks.len kc]) (results_cell_row rfl _ _ w.heap.size _ _ _ _ rfl z Tryd.underlying24 rfl (by kernel_rfl)) rfl ⟨_, rfl, t11, r11, k11⟩
end Spl
end Go.Proofs.YtckkbmgdaplaaaaDoor
