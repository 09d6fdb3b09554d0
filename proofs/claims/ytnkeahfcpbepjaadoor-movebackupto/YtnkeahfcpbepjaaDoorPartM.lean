/- One rune, where nothing rolls and nothing is moved to make room. -/
import Derived.Test.YtnkeahfcpbepjaaDoorPartL
import Derived.Test.YtnkeahfcpbepjaaDoorPartI
import Derived.Test.YtnkeahfcpbepjaaDoorPartJ
namespace Go.Proofs.YtnkeahfcpbepjaaDoor
open Go.ChangeShapes Go.WideShapes Go.ChangeAt Go.RowKit
namespace Put
open Grd (C SliceAt CellsAt gridErr z0 nilV flat rowsL)
open Sty (isSt)
open Txt (wd)
/-- Where a rune of k cells begins. -/
def startS (s : Scr) (k : Int) : Scr := if brkB s k then feedS { s with x := 0 } else s
def printP (q : Scr × List (List C)) (r : Int) : Scr × List (List C) :=
  ({ advS (startS q.1 (wd r)) (wd r) with last := r }, q.2.set (startS q.1 (wd r)).y.toNat (putRune ((startS q.1 (wd r)).sf, (startS q.1 (wd r)).sb, (startS q.1 (wd r)).sx) (q.2.getD (startS q.1 (wd r)).y.toNat []) (startS q.1 (wd r)).x.toNat r))
def stepOk (q : Scr × List (List C)) (r : Int) : Bool :=
  decide (wd r ≠ 0 ∧ wd r ≤ q.1.w ∧ 0 ≤ q.1.x ∧ q.1.x ≤ 120 ∧ 1 ≤ q.1.w ∧ q.1.w ≤ 120 ∧ 1 ≤ q.1.h ∧ q.1.h ≤ 60 ∧ 0 ≤ q.1.y ∧ q.1.y ≤ 60 ∧ (brkB q.1 (wd r) = true → q.1.y ≠ q.1.bot)) &&
  decide ((startS q.1 (wd r)).w = q.1.w ∧ 0 ≤ (startS q.1 (wd r)).x ∧ (startS q.1 (wd r)).x < q.1.w ∧ 0 ≤ (startS q.1 (wd r)).y ∧ (startS q.1 (wd r)).y.toNat < q.2.length ∧ fitsB (startS q.1 (wd r)) (wd r) = true ∧ hasB (startS q.1 (wd r)).modes 1 = false ∧
    ((q.2.getD (startS q.1 (wd r)).y.toNat []).length : Int) = q.1.w ∧ gridErr q.1.w 1 (q.2.getD (startS q.1 (wd r)).y.toNat []) = 0 ∧ isSt ((startS q.1 (wd r)).sf, (startS q.1 (wd r)).sb, (startS q.1 (wd r)).sx) = true)
theorem print_step (W : World) (M N p : Nat) (q : Scr × List (List C)) (r : Int) (hT : Txt.Tab W) (hN : ∀ X, Below N W X → Txt.Tab X) (hS : ShAt 109 W M N p q.1 q.2) (hok : stepOk q r = true) :
    Calls Tryd.prog 59 #[.pointer (some ⟨p, 0, none⟩), .int .i32 r] W (Ran W M N p (printP q r).1 (printP q r).2) := by
  unfold stepOk at hok
  rw [Bool.and_eq_true, decide_eq_true_eq, decide_eq_true_eq] at hok
  obtain ⟨⟨a1, a2, a3, a4, a5, a6, a7, a8, a9, a10, a11⟩, b1, b2, b3, b4, b5, b6, b7, b8, b9, b10⟩ := hok
  unfold printP
  obtain ⟨s1, hs1⟩ : ∃ s1, s1 = startS q.1 (wd r) := ⟨_, rfl⟩
  rw [← hs1] at b1 b2 b3 b4 b5 b6 b7 b8 b9 b10 ⊢
  refine print_main W M N p q.1 s1 q.2 q.2 q.2 _ r hT hS a1 a2 a3 a4 a5 a6 ⟨?_, ?_, b1, b2, by omega⟩ b6 (fun h => by rw [b7] at h; cases h) (fun _ => rfl) ?_
  · intro hb X _ hX
    have h := feed_plain X M N p { q.1 with x := 0 } q.2 hX a9 a10 a7 a8 (a11 hb)
    rw [hs1]
    unfold startS
    rw [hb]
    exact h
  · intro hb
    rw [hs1]
    unfold startS
    rw [hb]
    exact ⟨rfl, rfl⟩
  · intro X hX hSX
    exact write_any X M N p s1 q.2 (hN X hX) hSX r q.1.w.toNat s1.x.toNat s1.y.toNat b5 _ rfl (by omega) (by omega) (by omega) (by omega) (by omega) (by rw [Int.toNat_of_nonneg (by omega)]; exact b9) b10 a1 (by
      have h : wd r ≤ s1.w - s1.x := by simpa [fitsB] using b6
      omega)
end Put
end Go.Proofs.YtnkeahfcpbepjaaDoor

/- The closed fact of the laws on screens: three runes on two columns. -/
namespace Go.Proofs.YtnkeahfcpbepjaaDoor
set_option linter.unusedVariables false
open Go.ChangeShapes Go.WideShapes Go.ChangeAt Go.RowKit
namespace Put
open Grd (C SliceAt CellsAt gridErr z0 nilV flat rowsL)
open Txt (wd)
def abc : ByteArray := ⟨#[97, 98, 99]⟩
def stq : Nat → Scr × List (List C)
  | 0 => (newScr 2 2, rowsL 2 (newScr 2 2).cs 2)
  | 1 => printP (newScr 2 2, rowsL 2 (newScr 2 2).cs 2) 97
  | 2 => printP (printP (newScr 2 2, rowsL 2 (newScr 2 2).cs 2) 97) 98
  | _ => printP (printP (printP (newScr 2 2, rowsL 2 (newScr 2 2).cs 2) 97) 98) 99
theorem abc_runes : Txt.runes abc = [(97, 1), (98, 1), (99, 1)] := by decide +kernel
theorem ok0 : stepOk (stq 0) 97 = true := by decide +kernel
theorem ok1 : stepOk (stq 1) 98 = true := by decide +kernel
theorem ok2 : stepOk (stq 2) 99 = true := by decide +kernel
theorem new22_ok : scrErr (newScr 2 2) = 0 := by decide +kernel
theorem new22_grid : gridErr (2 : Nat) (2 : Nat) (newScr 2 2).cs = 0 := by decide +kernel
theorem new22_fits : Fits (newScr 2 2) := ⟨by decide, by decide, by decide, by decide, by decide, by decide, by decide +kernel⟩
theorem end_x : (stq 3).1.x = 1 := by decide +kernel
theorem end_y : (stq 3).1.y = 1 := by decide +kernel
theorem end_late : (stq 3).1.late = false := by decide +kernel
theorem end_last : (stq 3).1.last = 99 := by decide +kernel
def abcCs : List C := [(97, 0, 0, 0), (98, 0, 0, 0), (99, 0, 0, 0), (32, 0, 0, 0)]
theorem end_cs : (stq 3).2.flatten = abcCs := by decide +kernel
theorem end_rows : RowsOk (stq 3).1 (stq 3).2 := by
  have hl : (stq 3).2.length = 2 := by decide +kernel
  have hg : (stq 3).1.gone = [] := by decide +kernel
  have h0 : (stq 3).2.getD 0 [] ≠ [] := by decide +kernel
  have h1 : (stq 3).2.getD 1 [] ≠ [] := by decide +kernel
  refine ⟨by rw [hl]; omega, by rw [hl]; omega, fun i hi => ?_, by rw [end_cs]; decide, by rw [hg]; decide, fun i hi => by rw [hg] at hi; exact absurd hi (by simp)⟩
  rw [hl] at hi
  match i, hi with
  | 0, _ => exact h0
  | 1, _ => exact h1
theorem plain_text : Plain 58 := by
  intro args W
  kernel_rfl
theorem abc_does (B M : Nat) (w : World) (hT : Txt.Tab w) (hB : w.cell? ⟨B, 0, none⟩ = some (.string abc)) : Does 58 #[.pointer (some ⟨B, 0, none⟩)] M w (stq 0).1 (stq 3).1 (stq 0).2 (stq 3).2 := by
  have h := text1_does abc B M w stq hB
  rw [abc_runes] at h
  refine h ?_
  intro i hi X p hb hS
  have hTX := Grd.Tab.next hT hb
  have hN : ∀ Y, Below w.heap.size X Y → Txt.Tab Y := fun Y hY => Grd.Tab.next hT (hb.trans hY)
  match i, hi with
  | 0, _ => exact print_step X M w.heap.size p (stq 0) 97 hTX hN hS ok0
  | 1, _ => exact print_step X M w.heap.size p (stq 1) 98 hTX hN hS ok1
  | 2, _ => exact print_step X M w.heap.size p (stq 2) 99 hTX hN hS ok2
theorem abc_text (cv tv gv : Value) (w0 w : World) (hT : Txt.Tab w) (hV : ScrV w0 (newScr 2 2) cv tv gv) (hb0 : Below w0.heap.size w0 w) : Calls Tryd.prog 18 #[.agg (scrA (newScr 2 2) cv tv gv), .string abc] w (Made w0 w { (stq 3).1 with cs := abcCs } 0) := by
  have h := putText_any (newScr 2 2) { (stq 3).1 with cs := abcCs } cv tv gv abc (by decide) w0 w hT hV hb0 new22_fits
  rw [new22_ok] at h
  refine h fun W B hW hB => ?_
  exact change_good 2 2 (newScr 2 2) (stq 3).1 (stq 3).2 cv tv gv _ plain_text _ w0 W hV (hb0.trans (hW.mono hb0.size)) new22_fits rfl rfl new22_grid (fun w1 hw1 => abc_does B _ w1 (Grd.Tab.next (Grd.Tab.next hT hW) hw1) (cell_stay hw1 hB)) end_rows abcCs end_cs
set_option maxHeartbeats 4000000 in
set_option maxRecDepth 100000 in
theorem printed_any (w : World) (hT : Txt.Tab w) : Calls Tryd.prog 11 #[] w fun e w' => e = .returned (.bool true) ∧ Below w.heap.size w w' := by
  have HN := new_good' 2 2 w (by decide)
  have HT : Hid (∀ W, Below w.heap.size w W → Txt.Tab W) := fun W h => Grd.Tab.next hT h
  clear hT
  go_enter Tryd.func11, Tryd.ntmps11
  go_wp2_with fail
  refine HN.mono ?_
  rintro e W1 ⟨cv, tv, gv, rfl, hO, b1⟩
  obtain ⟨a1, n1, c1, a2, n2, c2, a3, n3, c3, rfl, rfl, rfl⟩ := hO.shapes
  generalize hs : newScr 2 2 = s at *
  have x1 := heap_alloc_new W1 (.cells #[.int .i64 0, .int .i64 0, .slice none 0 0, .int .i64 0, .int .i64 0, .bool false, .int .i64 0, .int .i64 0, .int .i64 0, .int .i64 0, .int .i64 0, .int .i64 0, .slice none 0 0, .int .i64 0, .int .i64 0, .int .i64 0, .int .i64 0, .int .i64 0, .int .i64 0, .int .i32 0, .string ⟨#[]⟩, .slice none 0 0] 32)
  have HX1 : Hid ((W1.alloc (.cells #[.int .i64 0, .int .i64 0, .slice none 0 0, .int .i64 0, .int .i64 0, .bool false, .int .i64 0, .int .i64 0, .int .i64 0, .int .i64 0, .int .i64 0, .int .i64 0, .slice none 0 0, .int .i64 0, .int .i64 0, .int .i64 0, .int .i64 0, .int .i64 0, .int .i64 0, .int .i32 0, .string ⟨#[]⟩, .slice none 0 0] 32)).heap[W1.heap.size]? = _) := x1
  have HV : Hid (ScrV W1 s _ _ _) := hO.scr
  have HB1 : Hid (Below w.heap.size w W1) := b1
  clear HN hO b1 x1
  go_upto_region 2 with (refine wpList_store_row rfl 32 (.tmp 1) _ rfl W1.heap.size (scrA s (.slice a1 n1 c1) (.slice a2 n2 c2) (.slice a3 n3 c3)) rfl rfl _ _ HX1.out (by kernel_rfl) rfl (scr_one _ _ _ _ _ _ _ _ _ _) ?_)
  have HX2 : Hid (((W1.alloc (.cells #[.int .i64 0, .int .i64 0, .slice none 0 0, .int .i64 0, .int .i64 0, .bool false, .int .i64 0, .int .i64 0, .int .i64 0, .int .i64 0, .int .i64 0, .int .i64 0, .slice none 0 0, .int .i64 0, .int .i64 0, .int .i64 0, .int .i64 0, .int .i64 0, .int .i64 0, .int .i32 0, .string ⟨#[]⟩, .slice none 0 0] 32)).setRow W1.heap.size (scrA s (.slice a1 n1 c1) (.slice a2 n2 c2) (.slice a3 n3 c3))).heap[W1.heap.size]? = some (.cells (scrA s (.slice a1 n1 c1) (.slice a2 n2 c2) (.slice a3 n3 c3)) 32 (0, 0))) := setRow_heap _ _ _ _ _ _ HX1.out
  have HBX : Hid (Below W1.heap.size W1 ((W1.alloc (.cells #[.int .i64 0, .int .i64 0, .slice none 0 0, .int .i64 0, .int .i64 0, .bool false, .int .i64 0, .int .i64 0, .int .i64 0, .int .i64 0, .int .i64 0, .int .i64 0, .slice none 0 0, .int .i64 0, .int .i64 0, .int .i64 0, .int .i64 0, .int .i64 0, .int .i64 0, .int .i32 0, .string ⟨#[]⟩, .slice none 0 0] 32)).setRow W1.heap.size (scrA s (.slice a1 n1 c1) (.slice a2 n2 c2) (.slice a3 n3 c3)))) := below_setRow ((Below.refl _ _).alloc (Nat.le_refl _) _) (Nat.le_refl _) _
  have HHS : Hid (newScr 2 2 = s) := hs
  clear HX1 hs
  generalize ((W1.alloc (.cells #[.int .i64 0, .int .i64 0, .slice none 0 0, .int .i64 0, .int .i64 0, .bool false, .int .i64 0, .int .i64 0, .int .i64 0, .int .i64 0, .int .i64 0, .int .i64 0, .slice none 0 0, .int .i64 0, .int .i64 0, .int .i64 0, .int .i64 0, .int .i64 0, .int .i64 0, .int .i32 0, .string ⟨#[]⟩, .slice none 0 0] 32)).setRow W1.heap.size (scrA s (.slice a1 n1 c1) (.slice a2 n2 c2) (.slice a3 n3 c3))) = X at *
  have HTX : Calls Tryd.prog 18 #[.agg (scrA s (.slice a1 n1 c1) (.slice a2 n2 c2) (.slice a3 n3 c3)), .string ⟨#[97, 98, 99]⟩] X (Made W1 X { (stq 3).1 with cs := abcCs } 0) := by
    have hv := HV.out
    rw [← HHS.out] at hv ⊢
    exact abc_text _ _ _ W1 X (HT.out X (HB1.out.trans (HBX.out.mono HB1.out.size))) hv HBX.out
  have h1 := end_x
  have h2 := end_y
  have h3 := end_late
  have h4 := end_last
  obtain ⟨s2, hs2⟩ : ∃ s2 : Scr, s2 = { (stq 3).1 with cs := abcCs } := ⟨_, rfl⟩
  have k1 : s2.x = 1 := by rw [hs2]; exact h1
  have k2 : s2.y = 1 := by rw [hs2]; exact h2
  have k3 : s2.late = false := by rw [hs2]; exact h3
  have k4 : s2.last = 99 := by rw [hs2]; exact h4
  have k5 : s2.cs = abcCs := by rw [hs2]
  rw [← hs2] at HTX
  have K : Hid (s2.x = 1 ∧ s2.y = 1 ∧ s2.late = false ∧ s2.last = 99 ∧ s2.cs = abcCs) := ⟨k1, k2, k3, k4, k5⟩
  clear h1 h2 h3 h4 hs2 k1 k2 k3 k4 k5
  go_wp2_with (refine wpList_load_row rfl 32 (.tmp 1) rfl W1.heap.size rfl _ _ _ _ HX2.out Tryd.underlying32 rfl (by kernel_rfl) ?_)
  refine HTX.mono ?_
  rintro e W2 ⟨cv', tv', gv', rfl, hO, b2⟩
  obtain ⟨a4, n4, c4, a5, n5, c5, a6, n6, c6, -, rfl, rfl⟩ := hO.shapes
  have hc := hO.c
  rw [K.out.2.2.2.2] at hc
  rcases hc with ⟨he, -⟩ | ⟨g, cap, rest, t, hv, hg, hl, hm, hh⟩
  · exact absurd he (by decide)
  subst hv
  have x2 := heap_alloc_new W2 (.cells #[.int .i64 0, .int .i64 0, .slice none 0 0, .int .i64 0, .int .i64 0, .bool false, .int .i64 0, .int .i64 0, .int .i64 0, .int .i64 0, .int .i64 0, .int .i64 0, .slice none 0 0, .int .i64 0, .int .i64 0, .int .i64 0, .int .i64 0, .int .i64 0, .int .i64 0, .int .i32 0, .string ⟨#[]⟩, .slice none 0 0] 32)
  have HX3 : Hid ((W2.alloc (.cells #[.int .i64 0, .int .i64 0, .slice none 0 0, .int .i64 0, .int .i64 0, .bool false, .int .i64 0, .int .i64 0, .int .i64 0, .int .i64 0, .int .i64 0, .int .i64 0, .slice none 0 0, .int .i64 0, .int .i64 0, .int .i64 0, .int .i64 0, .int .i64 0, .int .i64 0, .int .i32 0, .string ⟨#[]⟩, .slice none 0 0] 32)).heap[W2.heap.size]? = _) := x2
  have HX4 : Hid (((W2.alloc (.cells #[.int .i64 0, .int .i64 0, .slice none 0 0, .int .i64 0, .int .i64 0, .bool false, .int .i64 0, .int .i64 0, .int .i64 0, .int .i64 0, .int .i64 0, .int .i64 0, .slice none 0 0, .int .i64 0, .int .i64 0, .int .i64 0, .int .i64 0, .int .i64 0, .int .i64 0, .int .i32 0, .string ⟨#[]⟩, .slice none 0 0] 32)).setRow W2.heap.size (scrA s2 (.slice (some ⟨g, 0, none⟩) 4 cap) (.slice a5 n5 c5) (.slice a6 n6 c6))).heap[W2.heap.size]? = some (.cells (scrA s2 (.slice (some ⟨g, 0, none⟩) 4 cap) (.slice a5 n5 c5) (.slice a6 n6 c6)) 32 (0, 0))) := setRow_heap _ _ _ _ _ _ HX3.out
  have hb2 : Below w.heap.size w W2 := (HB1.out.trans (HBX.out.mono HB1.out.size)).trans (b2.mono (HB1.out.trans (HBX.out.mono HB1.out.size)).size)
  have HBY : Hid (Below w.heap.size w ((W2.alloc (.cells #[.int .i64 0, .int .i64 0, .slice none 0 0, .int .i64 0, .int .i64 0, .bool false, .int .i64 0, .int .i64 0, .int .i64 0, .int .i64 0, .int .i64 0, .int .i64 0, .slice none 0 0, .int .i64 0, .int .i64 0, .int .i64 0, .int .i64 0, .int .i64 0, .int .i64 0, .int .i32 0, .string ⟨#[]⟩, .slice none 0 0] 32)).setRow W2.heap.size (scrA s2 (.slice (some ⟨g, 0, none⟩) 4 cap) (.slice a5 n5 c5) (.slice a6 n6 c6)))) := below_setRow (hb2.alloc hb2.size _) hb2.size _
  have HG : Hid (CellsAt ((W2.alloc (.cells #[.int .i64 0, .int .i64 0, .slice none 0 0, .int .i64 0, .int .i64 0, .bool false, .int .i64 0, .int .i64 0, .int .i64 0, .int .i64 0, .int .i64 0, .int .i64 0, .slice none 0 0, .int .i64 0, .int .i64 0, .int .i64 0, .int .i64 0, .int .i64 0, .int .i64 0, .int .i32 0, .string ⟨#[]⟩, .slice none 0 0] 32)).setRow W2.heap.size (scrA s2 (.slice (some ⟨g, 0, none⟩) 4 cap) (.slice a5 n5 c5) (.slice a6 n6 c6))) g 0 abcCs) := by
    refine Grd.cellsAt_flat (t := t) (rest := rest) ?_
    rw [setRow_other _ _ _ _ (Nat.ne_of_lt (heap_lt hh)), Below.heap_alloc _ _ _ (heap_lt hh)]
    exact hh
  clear HTX hO b2 x2 hh hb2 HX2 HBX HB1 HV
  go_upto_region 3 with (refine wpList_store_row rfl 32 (.tmp 3) _ rfl W2.heap.size (scrA s2 (.slice (some ⟨g, 0, none⟩) 4 cap) (.slice a5 n5 c5) (.slice a6 n6 c6)) rfl rfl _ _ HX3.out (by kernel_rfl) rfl (scr_one _ _ _ _ _ _ _ _ _ _) ?_)
  clear HX3
  generalize ((W2.alloc (.cells #[.int .i64 0, .int .i64 0, .slice none 0 0, .int .i64 0, .int .i64 0, .bool false, .int .i64 0, .int .i64 0, .int .i64 0, .int .i64 0, .int .i64 0, .int .i64 0, .slice none 0 0, .int .i64 0, .int .i64 0, .int .i64 0, .int .i64 0, .int .i64 0, .int .i64 0, .int .i32 0, .string ⟨#[]⟩, .slice none 0 0] 32)).setRow W2.heap.size (scrA s2 (.slice (some ⟨g, 0, none⟩) 4 cap) (.slice a5 n5 c5) (.slice a6 n6 c6))) = Y at *
  obtain ⟨⟨-, -, d2, d3, d4, d5, -⟩, ⟨-, -, -, -, -, -, -, -, d19, -⟩, -⟩ := scr_cells HX4.out
  rw [K.out.1] at d3
  rw [K.out.2.1] at d4
  rw [K.out.2.2.1] at d5
  rw [K.out.2.2.2.1] at d19
  obtain ⟨e8, -⟩ := HG.out 2 (by decide)
  have e8' : Y.cell? ⟨g, 8, none⟩ = some (.int .i32 99) := e8
  clear e8
  go_wp2_with fail
  go_ret
  exact ⟨rfl, HBY.out⟩
end Put
end Go.Proofs.YtnkeahfcpbepjaaDoor

/- The law MoveBack. -/
namespace Go.Proofs.YtnkeahfcpbepjaaDoor
set_option linter.unusedVariables false
open Go.ChangeShapes Go.WideShapes Go.ChangeAt Go.RowKit
namespace Put
open Grd (C SliceAt CellsAt gridErr z0 nilV flat rowsL)
set_option maxHeartbeats 8000000 in
set_option maxRecDepth 100000 in
theorem moveBack_bad (s : Scr) (cv tv gv : Value) (n y x : Int) (w : World) (hT : Txt.Tab w) (hV : ScrV w s cv tv gv) (hF : Fits s) (hz : scrErr s ≠ 0) :
    Calls Tryd.prog 7 #[.agg (scrA s cv tv gv), .int .i64 n, .int .i64 y, .int .i64 x] w fun e w' => e = .returned (.bool true) ∧ Below w.heap.size w w' := by
  have x0 := heap_alloc_new w (.cells (scrA s cv tv gv) 32)
  have kb : Below w.heap.size w (w.alloc (.cells (scrA s cv tv gv) 32)) := (Below.refl _ _).alloc (Nat.le_refl _) _
  have HP : Hid (∀ W, Below w.heap.size w W → Calls Tryd.prog 11 #[] W fun e w' => e = .returned (.bool true) ∧ Below W.heap.size W w') := fun W h => printed_any W (Grd.Tab.next hT h)
  have HC : Hid (∀ W, Below w.heap.size w W → Calls Tryd.prog 12 #[.agg (scrA s cv tv gv)] W fun e w' => e = .returned (.int .i64 (scrErr s)) ∧ Below W.heap.size W w') := fun W h => putCheck_any s cv tv gv W (Grd.Tab.next hT h) (hV.next h) hF
  have HX0 : Hid _ := x0
  have HKB : Hid _ := kb
  have hzb : (scrErr s != 0) = true := by simp [bne, hz]
  clear x0 kb hT hV hF hz
  generalize scrErr s = er at *
  go_enter Tryd.func7, Tryd.ntmps7
  go_wp2_with fail
  refine (HP.out _ HKB.out).mono ?_
  rintro e W1 ⟨rfl, b1⟩
  have HB1 : Hid (Below w.heap.size w W1) := HKB.out.trans (b1.mono HKB.out.size)
  have HX1 : Hid (W1.heap[w.heap.size]? = _) := Grd.carry HX0.out b1
  clear b1
  go_wp2_with (refine BigFrame.wpList_want rfl fun K hK => wp_load_row 32 (.tmp 4) rfl w.heap.size rfl _ _ _ _ HX1.out Tryd.underlying32 rfl (by kernel_rfl) (hK _ _ ?_))
  refine (HC.out _ HB1.out).mono ?_
  rintro e W2 ⟨rfl, b2⟩
  have HB2 : Hid (Below w.heap.size w W2) := HB1.out.trans (b2.mono HB1.out.size)
  clear b2
  go_wp2_with fail
  refine (HP.out _ HB2.out).mono ?_
  rintro e W3 ⟨rfl, b3⟩
  have HB3 : Hid (Below w.heap.size w W3) := HB2.out.trans (b3.mono HB2.out.size)
  clear b3
  go_wp2_with fail
  go_ret
  exact ⟨rfl, HB3.out⟩
/-- A screen that was answered is kept in a variable. -/
theorem kept_in {w W : World} {M N : Nat} {s : Scr} {a1 a2 a3 : Option Addr} {n1 c1 n2 c2 n3 c3 : Nat} (hO : ScrO W M N s (.slice a1 n1 c1) (.slice a2 n2 c2) (.slice a3 n3 c3)) (hB : Below w.heap.size w W) :
    ((W.alloc (.cells #[.int .i64 0, .int .i64 0, .slice none 0 0, .int .i64 0, .int .i64 0, .bool false, .int .i64 0, .int .i64 0, .int .i64 0, .int .i64 0, .int .i64 0, .int .i64 0, .slice none 0 0, .int .i64 0, .int .i64 0, .int .i64 0, .int .i64 0, .int .i64 0, .int .i64 0, .int .i32 0, .string ⟨#[]⟩, .slice none 0 0] 32)).setRow W.heap.size (scrA s (.slice a1 n1 c1) (.slice a2 n2 c2) (.slice a3 n3 c3))).heap[W.heap.size]? = some (.cells (scrA s (.slice a1 n1 c1) (.slice a2 n2 c2) (.slice a3 n3 c3)) 32 (0, 0)) ∧ ScrV W s (.slice a1 n1 c1) (.slice a2 n2 c2) (.slice a3 n3 c3) ∧ Below W.heap.size W ((W.alloc (.cells #[.int .i64 0, .int .i64 0, .slice none 0 0, .int .i64 0, .int .i64 0, .bool false, .int .i64 0, .int .i64 0, .int .i64 0, .int .i64 0, .int .i64 0, .int .i64 0, .slice none 0 0, .int .i64 0, .int .i64 0, .int .i64 0, .int .i64 0, .int .i64 0, .int .i64 0, .int .i32 0, .string ⟨#[]⟩, .slice none 0 0] 32)).setRow W.heap.size (scrA s (.slice a1 n1 c1) (.slice a2 n2 c2) (.slice a3 n3 c3))) ∧ Below w.heap.size w ((W.alloc (.cells #[.int .i64 0, .int .i64 0, .slice none 0 0, .int .i64 0, .int .i64 0, .bool false, .int .i64 0, .int .i64 0, .int .i64 0, .int .i64 0, .int .i64 0, .int .i64 0, .slice none 0 0, .int .i64 0, .int .i64 0, .int .i64 0, .int .i64 0, .int .i64 0, .int .i64 0, .int .i32 0, .string ⟨#[]⟩, .slice none 0 0] 32)).setRow W.heap.size (scrA s (.slice a1 n1 c1) (.slice a2 n2 c2) (.slice a3 n3 c3))) := by
  have h1 : Below W.heap.size W ((W.alloc (.cells #[.int .i64 0, .int .i64 0, .slice none 0 0, .int .i64 0, .int .i64 0, .bool false, .int .i64 0, .int .i64 0, .int .i64 0, .int .i64 0, .int .i64 0, .int .i64 0, .slice none 0 0, .int .i64 0, .int .i64 0, .int .i64 0, .int .i64 0, .int .i64 0, .int .i64 0, .int .i32 0, .string ⟨#[]⟩, .slice none 0 0] 32)).setRow W.heap.size (scrA s (.slice a1 n1 c1) (.slice a2 n2 c2) (.slice a3 n3 c3))) := below_setRow ((Below.refl _ _).alloc (Nat.le_refl _) _) (Nat.le_refl _) _
  exact ⟨setRow_heap _ _ _ _ _ _ (heap_alloc_new W _), hO.scr, h1, hB.trans (h1.mono hB.size)⟩
theorem store_new (W : World) : (W.alloc (.cells #[.int .i64 0, .int .i64 0, .slice none 0 0, .int .i64 0, .int .i64 0, .bool false, .int .i64 0, .int .i64 0, .int .i64 0, .int .i64 0, .int .i64 0, .int .i64 0, .slice none 0 0, .int .i64 0, .int .i64 0, .int .i64 0, .int .i64 0, .int .i64 0, .int .i64 0, .int .i32 0, .string ⟨#[]⟩, .slice none 0 0] 32)).heap[W.heap.size]? = some (.cells #[.int .i64 0, .int .i64 0, .slice none 0 0, .int .i64 0, .int .i64 0, .bool false, .int .i64 0, .int .i64 0, .int .i64 0, .int .i64 0, .int .i64 0, .int .i64 0, .slice none 0 0, .int .i64 0, .int .i64 0, .int .i64 0, .int .i64 0, .int .i64 0, .int .i64 0, .int .i32 0, .string ⟨#[]⟩, .slice none 0 0] 32 (0, 0)) := heap_alloc_new W _
def roomB (s : Scr) (n : Int) : Bool := decide (1 ≤ n ∧ n < s.w - s.x)
/-- A place that is told without Origin, and is there. -/
def thereB (s : Scr) (y x : Int) : Bool := decide (bits .and .i64 s.modes 2 = 0 ∧ 1 ≤ y ∧ y ≤ s.h ∧ 1 ≤ x ∧ x ≤ s.w)
set_option maxHeartbeats 8000000 in
set_option maxRecDepth 100000 in
theorem moveBack_good (s : Scr) (cv tv gv : Value) (n y x : Int) (w : World) (hT : Txt.Tab w) (hV : ScrV w s cv tv gv) (hF : Fits s) (N H : Nat) (hR : RightS s N H) :
    Calls Tryd.prog 7 #[.agg (scrA s cv tv gv), .int .i64 n, .int .i64 y, .int .i64 x] w fun e w' => e = .returned (.bool true) ∧ Below w.heap.size w w' := by
  obtain ⟨ca, cc, rfl⟩ := hV.c.shape
  obtain ⟨ta, tc, rfl⟩ := hV.t.slice
  obtain ⟨ga, gc, rfl⟩ := hV.g.slice
  have x0 := heap_alloc_new w (.cells (scrA s (.slice ca s.cs.length cc) (.slice ta s.tabs.length tc) (.slice ga s.gone.length gc)) 32)
  have kb : Below w.heap.size w (w.alloc (.cells (scrA s (.slice ca s.cs.length cc) (.slice ta s.tabs.length tc) (.slice ga s.gone.length gc)) 32)) := (Below.refl _ _).alloc (Nat.le_refl _) _
  have HP : Hid (∀ W, Below w.heap.size w W → Calls Tryd.prog 11 #[] W fun e w' => e = .returned (.bool true) ∧ Below W.heap.size W w') := fun W h => printed_any W (Grd.Tab.next hT h)
  have HC : Hid (∀ W, Below w.heap.size w W → Calls Tryd.prog 12 #[.agg (scrA s (.slice ca s.cs.length cc) (.slice ta s.tabs.length tc) (.slice ga s.gone.length gc))] W fun e w' => e = .returned (.int .i64 0) ∧ Below W.heap.size W w') := fun W h => by
    have := putCheck_any s _ _ _ W (Grd.Tab.next hT h) (hV.next h) hF
    rw [right_err hR] at this
    exact this
  have HCM : Hid (∀ W, Below w.heap.size w W → Came w W s _ _ _) := fun W h => ⟨Grd.Tab.next hT h, hV, h, hF⟩
  have HTB : Hid (∀ W, Below w.heap.size w W → Txt.Tab W) := fun W h => Grd.Tab.next hT h
  have HRR : Hid (RightS s N H) := hR
  have HFF : Hid (Fits s) := hF
  have HX0 : Hid _ := x0
  have HKB : Hid _ := kb
  have ew := hR.w
  have eh := hR.h
  have v1 := hR.n1
  have v2 := hR.n2
  have v3 := hR.h1
  have v4 := hR.h2
  have v5 := hR.x0
  have v6 := hR.x1
  have v7 := hR.y0
  have v8 := hR.y1
  have HEW : Hid (s.w = N ∧ s.h = H) := ⟨ew, eh⟩
  have w1 : 1 ≤ s.w := by omega
  have w2 : s.w ≤ 120 := by omega
  have w3 : 1 ≤ s.h := by omega
  have w4 : s.h ≤ 60 := by omega
  have w5 : s.x < s.w := by omega
  have w6 : s.y < s.h := by omega
  clear x0 kb hT hV hF hR ew eh v1 v2 v3 v4 v6 v8
  go_enter Tryd.func7, Tryd.ntmps7
  go_wp2_with fail
  refine (HP.out _ HKB.out).mono ?_
  rintro e W1 ⟨rfl, b1⟩
  have HB1 : Hid (Below w.heap.size w W1) := HKB.out.trans (b1.mono HKB.out.size)
  have HX1 : Hid (W1.heap[w.heap.size]? = _) := Grd.carry HX0.out b1
  clear b1
  go_wp2_with (refine BigFrame.wpList_want rfl fun K hK => wp_load_row 32 (.tmp 4) rfl w.heap.size rfl _ _ _ _ HX1.out Tryd.underlying32 rfl (by kernel_rfl) (hK _ _ ?_))
  refine (HC.out _ HB1.out).mono ?_
  rintro e W2 ⟨rfl, b2⟩
  have HB2 : Hid (Below w.heap.size w W2) := HB1.out.trans (b2.mono HB1.out.size)
  have HX2 : Hid (W2.heap[w.heap.size]? = _) := Grd.carry HX1.out b2
  clear b2 HX0 HKB HB1 HX1
  go_upto_region 3 with fail
  go_cut [34] from 15 to 34 (fun c wx => c = .bool (roomB s n) ∧ wx = W2)
  case first =>
    obtain ⟨⟨c0, -, -, c3, -⟩, -, -⟩ := scr_cells HX2.out
    have hwr : IntKind.i64.wrap (s.w - s.x) = s.w - s.x := wrap_id _ (by omega) (by omega)
    go_wp2_with fail
    all_goals go_meet
    all_goals refine ⟨congrArg Value.bool ?_, rfl⟩
    all_goals (unfold roomB; rw [Bool.eq_iff_iff]; simp; try omega)
  case rest =>
    obtain ⟨rfl, rfl⟩ := hcut
    go_upto_if 34 with fail
    go_cut [] from 15 to 75 (fun wx => Below w.heap.size w wx ∧ wx.heap[w.heap.size]? = some (.cells (scrA s (.slice ca s.cs.length cc) (.slice ta s.tabs.length tc) (.slice ga s.gone.length gc)) 32 (0, 0)))
    case first =>
      cases hb : roomB s n with
      | false =>
        go_wp2_with fail
        go_meet
        exact ⟨HB2.out, HX2.out⟩
      | true =>
        have hrm : 1 ≤ n ∧ n < s.w - s.x := by simpa [roomB] using hb
        obtain ⟨r1, r2⟩ := hrm
        have ec : cnt n = n := by unfold cnt withinI; omega
        have HRT := right_any (HCM.out _ HB2.out) HRR.out n
        rw [ec] at HRT
        obtain ⟨sa, hsa⟩ : ∃ sa, sa = movedS s (s.x + n) s.y := ⟨_, rfl⟩
        have ea : sa.x = s.x + n ∧ sa.y = s.y ∧ sa.w = s.w ∧ sa.h = s.h := by
          rw [hsa]
          unfold movedS withinI
          exact ⟨by simp only; omega, by simp only; omega, rfl, rfl⟩
        have hRa : RightS sa N H := by rw [hsa]; exact moved_right HRR.out _ _
        have hFa : Fits sa := by rw [hsa]; exact moved_fits HFF.out _ _
        rw [← hsa] at HRT
        have HEA : Hid (sa.x = s.x + n ∧ sa.y = s.y ∧ sa.w = s.w ∧ sa.h = s.h) := ea
        have HRA : Hid (RightS sa N H) := hRa
        have HFA : Hid (Fits sa) := hFa
        clear hb hsa ea hRa hFa
        go_wp2_with (refine wpList_load_row rfl 32 (.tmp 4) rfl w.heap.size rfl _ _ _ _ HX2.out Tryd.underlying32 rfl (by kernel_rfl) ?_)
        refine HRT.mono ?_
        rintro e V1 ⟨cv', tv', gv', rfl, hO, c1'⟩
        obtain ⟨a1, n1, c1, a2, n2, c2, a3, n3, c3, rfl, rfl, rfl⟩ := hO.shapes
        have hbV : Below w.heap.size w V1 := HB2.out.trans (c1'.mono HB2.out.size)
        obtain ⟨k1, k2, k3, k4⟩ := kept_in hO hbV
        have HK1 : Hid _ := k1
        have HK2 : Hid (ScrV V1 sa _ _ _) := k2
        have HK3 : Hid _ := k3
        have HK4 : Hid _ := k4
        have HX3 : Hid _ := Grd.carry (Grd.carry HX2.out c1') k3
        have HSN : Hid _ := store_new V1
        clear HRT hO c1' hbV k1 k2 k3 k4
        go_upto_region 5 with (refine wpList_store_row rfl 32 (.tmp 9) _ rfl V1.heap.size (scrA sa (.slice a1 n1 c1) (.slice a2 n2 c2) (.slice a3 n3 c3)) rfl rfl _ _ HSN.out (by kernel_rfl) rfl (scr_one _ _ _ _ _ _ _ _ _ _) ?_)
        clear HSN
        generalize ((V1.alloc (.cells #[.int .i64 0, .int .i64 0, .slice none 0 0, .int .i64 0, .int .i64 0, .bool false, .int .i64 0, .int .i64 0, .int .i64 0, .int .i64 0, .int .i64 0, .int .i64 0, .slice none 0 0, .int .i64 0, .int .i64 0, .int .i64 0, .int .i64 0, .int .i64 0, .int .i64 0, .int .i32 0, .string ⟨#[]⟩, .slice none 0 0] 32)).setRow V1.heap.size (scrA sa (.slice a1 n1 c1) (.slice a2 n2 c2) (.slice a3 n3 c3))) = Y at *
        have HLT := left_any (w0 := V1) (w := Y) ⟨HTB.out _ HK4.out, HK2.out, HK3.out, HFA.out⟩ HRA.out n
        rw [ec] at HLT
        obtain ⟨sb, hsb⟩ : ∃ sb, sb = movedS sa (sa.x - n) sa.y := ⟨_, rfl⟩
        have eb : sb.x = s.x ∧ sb.y = s.y := by
          obtain ⟨e1, e2, e3, e4⟩ := HEA.out
          rw [hsb]
          unfold movedS withinI
          exact ⟨by simp only; omega, by simp only; omega⟩
        rw [← hsb] at HLT
        have HEB : Hid (sb.x = s.x ∧ sb.y = s.y) := eb
        clear hsb eb
        go_wp2_with (refine wpList_load_row rfl 32 (.tmp 9) rfl V1.heap.size rfl _ _ _ _ HK1.out Tryd.underlying32 rfl (by kernel_rfl) ?_)
        refine HLT.mono ?_
        rintro e V2 ⟨cv', tv', gv', rfl, hO, c1'⟩
        obtain ⟨a4, n4, c4, a5, n5, c5, a6, n6, c6, rfl, rfl, rfl⟩ := hO.shapes
        have hbV : Below w.heap.size w V2 := HK4.out.trans (c1'.mono HK4.out.size)
        obtain ⟨k1, -, k3, k4⟩ := kept_in hO hbV
        have HL1 : Hid _ := k1
        have HL4 : Hid _ := k4
        have HX4 : Hid _ := Grd.carry (Grd.carry HX3.out c1') k3
        have HK5 : Hid _ := Grd.carry (Grd.carry HK1.out c1') k3
        have HSN : Hid _ := store_new V2
        clear HLT hO c1' hbV k1 k3 k4
        go_upto_region 6 with (refine wpList_store_row rfl 32 (.tmp 11) _ rfl V2.heap.size (scrA sb (.slice a4 n4 c4) (.slice a5 n5 c5) (.slice a6 n6 c6)) rfl rfl _ _ HSN.out (by kernel_rfl) rfl (scr_one _ _ _ _ _ _ _ _ _ _) ?_)
        clear HSN
        generalize ((V2.alloc (.cells #[.int .i64 0, .int .i64 0, .slice none 0 0, .int .i64 0, .int .i64 0, .bool false, .int .i64 0, .int .i64 0, .int .i64 0, .int .i64 0, .int .i64 0, .int .i64 0, .slice none 0 0, .int .i64 0, .int .i64 0, .int .i64 0, .int .i64 0, .int .i64 0, .int .i64 0, .int .i32 0, .string ⟨#[]⟩, .slice none 0 0] 32)).setRow V2.heap.size (scrA sb (.slice a4 n4 c4) (.slice a5 n5 c5) (.slice a6 n6 c6))) = Y2 at *
        obtain ⟨⟨-, -, -, s3, s4, -⟩, -, -⟩ := scr_cells HX4.out
        obtain ⟨⟨-, -, -, t3, t4, -⟩, -, -⟩ := scr_cells HL1.out
        obtain ⟨⟨-, -, -, q3, -⟩, -, -⟩ := scr_cells HK5.out
        rw [HEB.out.1] at t3
        rw [HEB.out.2] at t4
        rw [HEA.out.1] at q3
        have hwr : IntKind.i64.wrap (s.x + n) = s.x + n := wrap_id _ (by omega) (by omega)
        go_wp2_with fail
        go_meet
        exact ⟨HL4.out, HX4.out⟩
    case rest =>
      obtain ⟨hb3, hx3⟩ := hcut
      have HB3 : Hid (Below w.heap.size w wc) := hb3
      have HX3 : Hid (wc.heap[w.heap.size]? = _) := hx3
      have HTO := to_any (HCM.out _ hb3) HRR.out y x
      obtain ⟨sz, hsz⟩ : ∃ sz, sz = movedS s (cnt x - 1) (rowTo s y) := ⟨_, rfl⟩
      rw [← hsz] at HTO
      have ez : sz.w = s.w ∧ sz.h = s.h ∧ sz.cs = s.cs ∧ sz.x = withinI (cnt x - 1) 0 (s.w - 1) ∧ sz.y = withinI (rowTo s y) 0 (s.h - 1) := by rw [hsz]; exact ⟨rfl, rfl, rfl, rfl, rfl⟩
      have HEZ : Hid _ := ez
      clear hb3 hx3 hsz ez HB2 HX2
      go_wp2_with (refine wpList_load_row rfl 32 (.tmp 4) rfl w.heap.size rfl _ _ _ _ HX3.out Tryd.underlying32 rfl (by kernel_rfl) ?_)
      refine HTO.mono ?_
      rintro e V1 ⟨cv', tv', gv', rfl, hO, c1'⟩
      obtain ⟨a1, n1, c1, a2, n2, c2, a3, n3, c3, rfl, rfl, rfl⟩ := hO.shapes
      have hbV : Below w.heap.size w V1 := HB3.out.trans (c1'.mono HB3.out.size)
      obtain ⟨k1, k2, k3, k4⟩ := kept_in hO hbV
      have HK1 : Hid _ := k1
      have HK2 : Hid (ScrV _ sz _ _ _) := k2.next k3
      have HK4 : Hid _ := k4
      have HX4 : Hid _ := Grd.carry (Grd.carry HX3.out c1') k3
      have HSN : Hid _ := store_new V1
      clear HTO hO c1' hbV k1 k2 k3 k4 HX3 HB3
      go_upto_region 9 with (refine wpList_store_row rfl 32 (.tmp 13) _ rfl V1.heap.size (scrA sz (.slice a1 n1 c1) (.slice a2 n2 c2) (.slice a3 n3 c3)) rfl rfl _ _ HSN.out (by kernel_rfl) rfl (scr_one _ _ _ _ _ _ _ _ _ _) ?_)
      clear HSN
      generalize ((V1.alloc (.cells #[.int .i64 0, .int .i64 0, .slice none 0 0, .int .i64 0, .int .i64 0, .bool false, .int .i64 0, .int .i64 0, .int .i64 0, .int .i64 0, .int .i64 0, .int .i64 0, .slice none 0 0, .int .i64 0, .int .i64 0, .int .i64 0, .int .i64 0, .int .i64 0, .int .i64 0, .int .i32 0, .string ⟨#[]⟩, .slice none 0 0] 32)).setRow V1.heap.size (scrA sz (.slice a1 n1 c1) (.slice a2 n2 c2) (.slice a3 n3 c3))) = Y at *
      go_upto_region 11 with fail
      go_cut [110] from 15 to 110 (fun c wx => c = .bool (thereB s y x) ∧ wx = Y)
      case first =>
        obtain ⟨⟨c0, c1', -⟩, ⟨c11, -⟩, -⟩ := scr_cells HX4.out
        go_wp2_with fail
        all_goals go_meet
        all_goals refine ⟨congrArg Value.bool ?_, rfl⟩
        all_goals (unfold thereB; rw [Bool.eq_iff_iff]; simp; try omega)
      case rest =>
        obtain ⟨rfl, rfl⟩ := hcut
        cases ht : thereB s y x with
        | true =>
          have h : bits .and .i64 s.modes 2 = 0 ∧ 1 ≤ y ∧ y ≤ s.h ∧ 1 ≤ x ∧ x ≤ s.w := by simpa [thereB] using ht
          obtain ⟨h1, h2, h3, h4, h5⟩ := h
          have hb2 : hasB s.modes 2 = false := by unfold hasB; rw [h1]; rfl
          have e1 : sz.x = x - 1 := by rw [HEZ.out.2.2.2.1]; unfold cnt withinI; omega
          have e2 : sz.y = y - 1 := by rw [HEZ.out.2.2.2.2]; unfold rowTo; rw [hb2, if_neg (by simp)]; unfold cnt withinI; omega
          obtain ⟨⟨-, -, -, d3, d4, -⟩, -, -⟩ := scr_cells HK1.out
          rw [e1] at d3
          rw [e2] at d4
          have q1 : IntKind.i64.wrap (x - 1) = x - 1 := wrap_id _ (by omega) (by omega)
          have q2 : IntKind.i64.wrap (y - 1) = y - 1 := wrap_id _ (by omega) (by omega)
          clear h1 ht
          go_wp2_with fail
          go_ret
          exact ⟨rfl, HK4.out⟩
        | false =>
          obtain ⟨⟨d0, d1, d2, -⟩, -, -⟩ := scr_cells HK1.out
          obtain ⟨⟨c0, c1', c2', -⟩, -, -⟩ := scr_cells HX4.out
          rw [HEZ.out.1] at d0
          rw [HEZ.out.2.1] at d1
          have hc1 := HK2.out.c
          rw [HEZ.out.2.2.1] at hc1
          have HSG := Grd.same_any_big s.w s.h _ _ s.cs _ hc1 ((HCM.out _ HK4.out).v.c.below HK4.out) (by have := HRR.out.cl; have := Nat.mul_le_mul HRR.out.n2 HRR.out.h2; omega)
          go_wp2_with fail
          refine HSG.mono ?_
          rintro e V2 ⟨rfl, b4⟩
          have HB5 : Hid (Below w.heap.size w V2) := HK4.out.trans (b4.mono HK4.out.size)
          clear HSG b4
          go_wp2_with fail
          go_ret
          exact ⟨rfl, HB5.out⟩
theorem moveBack_walk (s : Scr) (cv tv gv : Value) (n y x : Int) (w : World) (hT : Txt.Tab w) (hV : ScrV w s cv tv gv) (hF : Fits s) :
    Calls Tryd.prog 7 #[.agg (scrA s cv tv gv), .int .i64 n, .int .i64 y, .int .i64 x] w fun e w' => e = .returned (.bool true) ∧ Below w.heap.size w w' := by
  by_cases hz : scrErr s = 0
  · obtain ⟨N, H, hR⟩ := right_of s hz
    exact moveBack_good s cv tv gv n y x w hT hV hF N H hR
  · exact moveBack_bad s cv tv gv n y x w hT hV hF hz
end Put
end Go.Proofs.YtnkeahfcpbepjaaDoor
