/- One rune, where nothing rolls and nothing is moved to make room. -/
import Derived.Test.YtnkeahfcpbepjaaDoorPartM
import Derived.Test.YtnkeahfcpbepjaaDoorPartI
import Derived.Test.YtnkeahfcpbepjaaDoorPartL
import Derived.Test.YtnkeahfcpbepjaaDoorPartF
namespace Go.Proofs.YtnkeahfcpbepjaaDoor
open Go.ChangeShapes Go.WideShapes Go.ChangeAt Go.RowKit
namespace Put
open Grd (C SliceAt CellsAt gridErr z0 nilV flat rowsL)
open Sty (isSt)
open Txt (wd)
/-- Where a rune of k cells begins. -/
def startS (s : Scr) (k : Int) : Scr := if brkB s k then feedS { s with x := 0 } else s
def printP (q : Scr × List (List C)) (r : Int) : Scr × List (List C) :=
  ({ advS (startS q.1 (wd r)) (wd r) with last := r }, q.2.set (startS q.1 (wd r)).y.toNat (putRune ((startS q.1 (wd r)).sf, (startS q.1 (wd r)).sb, (startS q.1 (wd r)).sx) (q.2.getD (startS q.1 (wd r)).y.toNat []) (startS q.1 (wd r)).x.toNat r))
def stepOk (q : Scr × List (List C)) (r : Int) : Bool :=
  decide (wd r ≠ 0 ∧ wd r ≤ q.1.w ∧ 0 ≤ q.1.x ∧ q.1.x ≤ 120 ∧ 1 ≤ q.1.w ∧ q.1.w ≤ 120 ∧ 1 ≤ q.1.h ∧ q.1.h ≤ 60 ∧ 0 ≤ q.1.y ∧ q.1.y ≤ 60 ∧ (brkB q.1 (wd r) = true → q.1.y ≠ q.1.bot)) &&
  decide ((startS q.1 (wd r)).w = q.1.w ∧ 0 ≤ (startS q.1 (wd r)).x ∧ (startS q.1 (wd r)).x < q.1.w ∧ 0 ≤ (startS q.1 (wd r)).y ∧ (startS q.1 (wd r)).y.toNat < q.2.length ∧ fitsB (startS q.1 (wd r)) (wd r) = true ∧ hasB (startS q.1 (wd r)).modes 1 = false ∧
    ((q.2.getD (startS q.1 (wd r)).y.toNat []).length : Int) = q.1.w ∧ gridErr q.1.w 1 (q.2.getD (startS q.1 (wd r)).y.toNat []) = 0 ∧ isSt ((startS q.1 (wd r)).sf, (startS q.1 (wd r)).sb, (startS q.1 (wd r)).sx) = true)
theorem print_step (W : World) (M N p : Nat) (q : Scr × List (List C)) (r : Int) (hT : Txt.Tab W) (hN : ∀ X, Below N W X → Txt.Tab X) (hS : ShAt 109 W M N p q.1 q.2) (hok : stepOk q r = true) :
    Calls Tryd.prog 59 #[.pointer (some ⟨p, 0, none⟩), .int .i32 r] W (Ran W M N p (printP q r).1 (printP q r).2) := by
  unfold stepOk at hok
  rw [Bool.and_eq_true, decide_eq_true_eq, decide_eq_true_eq] at hok
  obtain ⟨⟨a1, a2, a3, a4, a5, a6, a7, a8, a9, a10, a11⟩, b1, b2, b3, b4, b5, b6, b7, b8, b9, b10⟩ := hok
  unfold printP
  obtain ⟨s1, hs1⟩ : ∃ s1, s1 = startS q.1 (wd r) := ⟨_, rfl⟩
  rw [← hs1] at b1 b2 b3 b4 b5 b6 b7 b8 b9 b10 ⊢
  refine print_main W M N p q.1 s1 q.2 q.2 q.2 _ r hT hS a1 a2 a3 a4 a5 a6 ⟨?_, ?_, b1, b2, by omega⟩ b6 (fun h => by rw [b7] at h; cases h) (fun _ => rfl) ?_
  · intro hb X _ hX
    have h := feed_plain X M N p { q.1 with x := 0 } q.2 hX a9 a10 a7 a8 (a11 hb)
    rw [hs1]
    unfold startS
    rw [hb]
    exact h
  · intro hb
    rw [hs1]
    unfold startS
    rw [hb]
    exact ⟨rfl, rfl⟩
  · intro X hX hSX
    exact write_any X M N p s1 q.2 (hN X hX) hSX r q.1.w.toNat s1.x.toNat s1.y.toNat b5 _ rfl (by omega) (by omega) (by omega) (by omega) (by omega) (by rw [Int.toNat_of_nonneg (by omega)]; exact b9) b10 a1 (by
      have h : wd r ≤ s1.w - s1.x := by simpa [fitsB] using b6
      omega)
end Put
end Go.Proofs.YtnkeahfcpbepjaaDoor

/- The closed fact of the laws on screens: three runes on two columns. -/
namespace Go.Proofs.YtnkeahfcpbepjaaDoor
set_option linter.unusedVariables false
open Go.ChangeShapes Go.WideShapes Go.ChangeAt Go.RowKit
namespace Put
open Grd (C SliceAt CellsAt gridErr z0 nilV flat rowsL)
open Txt (wd)
def abc : ByteArray := ⟨#[97, 98, 99]⟩
def stq : Nat → Scr × List (List C)
  | 0 => (newScr 2 2, rowsL 2 (newScr 2 2).cs 2)
  | 1 => printP (newScr 2 2, rowsL 2 (newScr 2 2).cs 2) 97
  | 2 => printP (printP (newScr 2 2, rowsL 2 (newScr 2 2).cs 2) 97) 98
  | _ => printP (printP (printP (newScr 2 2, rowsL 2 (newScr 2 2).cs 2) 97) 98) 99
theorem abc_runes : Txt.runes abc = [(97, 1), (98, 1), (99, 1)] := by decide +kernel
theorem ok0 : stepOk (stq 0) 97 = true := by decide +kernel
theorem ok1 : stepOk (stq 1) 98 = true := by decide +kernel
theorem ok2 : stepOk (stq 2) 99 = true := by decide +kernel
theorem new22_ok : scrErr (newScr 2 2) = 0 := by decide +kernel
theorem new22_grid : gridErr (2 : Nat) (2 : Nat) (newScr 2 2).cs = 0 := by decide +kernel
theorem new22_fits : Fits (newScr 2 2) := ⟨by decide, by decide, by decide, by decide, by decide, by decide, by decide +kernel⟩
theorem end_x : (stq 3).1.x = 1 := by decide +kernel
theorem end_y : (stq 3).1.y = 1 := by decide +kernel
theorem end_late : (stq 3).1.late = false := by decide +kernel
theorem end_last : (stq 3).1.last = 99 := by decide +kernel
def abcCs : List C := [(97, 0, 0, 0), (98, 0, 0, 0), (99, 0, 0, 0), (32, 0, 0, 0)]
theorem end_cs : (stq 3).2.flatten = abcCs := by decide +kernel
theorem end_rows : RowsOk (stq 3).1 (stq 3).2 := by
  have hl : (stq 3).2.length = 2 := by decide +kernel
  have hg : (stq 3).1.gone = [] := by decide +kernel
  have h0 : (stq 3).2.getD 0 [] ≠ [] := by decide +kernel
  have h1 : (stq 3).2.getD 1 [] ≠ [] := by decide +kernel
  refine ⟨by rw [hl]; omega, by rw [hl]; omega, fun i hi => ?_, by rw [end_cs]; decide, by rw [hg]; decide, fun i hi => by rw [hg] at hi; exact absurd hi (by simp)⟩
  rw [hl] at hi
  match i, hi with
  | 0, _ => exact h0
  | 1, _ => exact h1
theorem plain_text : Plain 58 := by
  intro args W
  kernel_rfl
theorem abc_does (B M : Nat) (w : World) (hT : Txt.Tab w) (hB : w.cell? ⟨B, 0, none⟩ = some (.string abc)) : Does 58 #[.pointer (some ⟨B, 0, none⟩)] M w (stq 0).1 (stq 3).1 (stq 0).2 (stq 3).2 := by
  have h := text1_does abc B M w stq hB
  rw [abc_runes] at h
  refine h ?_
  intro i hi X p hb hS
  have hTX := Grd.Tab.next hT hb
  have hN : ∀ Y, Below w.heap.size X Y → Txt.Tab Y := fun Y hY => Grd.Tab.next hT (hb.trans hY)
  match i, hi with
  | 0, _ => exact print_step X M w.heap.size p (stq 0) 97 hTX hN hS ok0
  | 1, _ => exact print_step X M w.heap.size p (stq 1) 98 hTX hN hS ok1
  | 2, _ => exact print_step X M w.heap.size p (stq 2) 99 hTX hN hS ok2
theorem abc_text (cv tv gv : Value) (w0 w : World) (hT : Txt.Tab w) (hV : ScrV w0 (newScr 2 2) cv tv gv) (hb0 : Below w0.heap.size w0 w) : Calls Tryd.prog 18 #[.agg (scrA (newScr 2 2) cv tv gv), .string abc] w (Made w0 w { (stq 3).1 with cs := abcCs } 0) := by
  have h := putText_any (newScr 2 2) { (stq 3).1 with cs := abcCs } cv tv gv abc (by decide) w0 w hT hV hb0 new22_fits
  rw [new22_ok] at h
  refine h fun W B hW hB => ?_
  exact change_good 2 2 (newScr 2 2) (stq 3).1 (stq 3).2 cv tv gv _ plain_text _ w0 W hV (hb0.trans (hW.mono hb0.size)) new22_fits rfl rfl new22_grid (fun w1 hw1 => abc_does B _ w1 (Grd.Tab.next (Grd.Tab.next hT hW) hw1) (cell_stay hw1 hB)) end_rows abcCs end_cs
set_option maxHeartbeats 4000000 in
set_option maxRecDepth 100000 in
theorem printed_any (w : World) (hT : Txt.Tab w) : Calls Tryd.prog 11 #[] w fun e w' => e = .returned (.bool true) ∧ Below w.heap.size w w' := by
  have HN := new_good' 2 2 w (by decide)
  have HT : Hid (∀ W, Below w.heap.size w W → Txt.Tab W) := fun W h => Grd.Tab.next hT h
  clear hT
  go_enter Tryd.func11, Tryd.ntmps11
  go_wp2_with fail
  refine HN.mono ?_
  rintro e W1 ⟨cv, tv, gv, rfl, hO, b1⟩
  obtain ⟨a1, n1, c1, a2, n2, c2, a3, n3, c3, rfl, rfl, rfl⟩ := hO.shapes
  generalize hs : newScr 2 2 = s at *
  have x1 := heap_alloc_new W1 (.cells #[.int .i64 0, .int .i64 0, .slice none 0 0, .int .i64 0, .int .i64 0, .bool false, .int .i64 0, .int .i64 0, .int .i64 0, .int .i64 0, .int .i64 0, .int .i64 0, .slice none 0 0, .int .i64 0, .int .i64 0, .int .i64 0, .int .i64 0, .int .i64 0, .int .i64 0, .int .i32 0, .string ⟨#[]⟩, .slice none 0 0] 32)
  have HX1 : Hid ((W1.alloc (.cells #[.int .i64 0, .int .i64 0, .slice none 0 0, .int .i64 0, .int .i64 0, .bool false, .int .i64 0, .int .i64 0, .int .i64 0, .int .i64 0, .int .i64 0, .int .i64 0, .slice none 0 0, .int .i64 0, .int .i64 0, .int .i64 0, .int .i64 0, .int .i64 0, .int .i64 0, .int .i32 0, .string ⟨#[]⟩, .slice none 0 0] 32)).heap[W1.heap.size]? = _) := x1
  have HV : Hid (ScrV W1 s _ _ _) := hO.scr
  have HB1 : Hid (Below w.heap.size w W1) := b1
  clear HN hO b1 x1
  go_upto_region 2 with (refine wpList_store_row rfl 32 (.tmp 1) _ rfl W1.heap.size (scrA s (.slice a1 n1 c1) (.slice a2 n2 c2) (.slice a3 n3 c3)) rfl rfl _ _ HX1.out (by kernel_rfl) rfl (scr_one _ _ _ _ _ _ _ _ _ _) ?_)
  have HX2 : Hid (((W1.alloc (.cells #[.int .i64 0, .int .i64 0, .slice none 0 0, .int .i64 0, .int .i64 0, .bool false, .int .i64 0, .int .i64 0, .int .i64 0, .int .i64 0, .int .i64 0, .int .i64 0, .slice none 0 0, .int .i64 0, .int .i64 0, .int .i64 0, .int .i64 0, .int .i64 0, .int .i64 0, .int .i32 0, .string ⟨#[]⟩, .slice none 0 0] 32)).setRow W1.heap.size (scrA s (.slice a1 n1 c1) (.slice a2 n2 c2) (.slice a3 n3 c3))).heap[W1.heap.size]? = some (.cells (scrA s (.slice a1 n1 c1) (.slice a2 n2 c2) (.slice a3 n3 c3)) 32 (0, 0))) := setRow_heap _ _ _ _ _ _ HX1.out
  have HBX : Hid (Below W1.heap.size W1 ((W1.alloc (.cells #[.int .i64 0, .int .i64 0, .slice none 0 0, .int .i64 0, .int .i64 0, .bool false, .int .i64 0, .int .i64 0, .int .i64 0, .int .i64 0, .int .i64 0, .int .i64 0, .slice none 0 0, .int .i64 0, .int .i64 0, .int .i64 0, .int .i64 0, .int .i64 0, .int .i64 0, .int .i32 0, .string ⟨#[]⟩, .slice none 0 0] 32)).setRow W1.heap.size (scrA s (.slice a1 n1 c1) (.slice a2 n2 c2) (.slice a3 n3 c3)))) := below_setRow ((Below.refl _ _).alloc (Nat.le_refl _) _) (Nat.le_refl _) _
  have HHS : Hid (newScr 2 2 = s) := hs
  clear HX1 hs
  generalize ((W1.alloc (.cells #[.int .i64 0, .int .i64 0, .slice none 0 0, .int .i64 0, .int .i64 0, .bool false, .int .i64 0, .int .i64 0, .int .i64 0, .int .i64 0, .int .i64 0, .int .i64 0, .slice none 0 0, .int .i64 0, .int .i64 0, .int .i64 0, .int .i64 0, .int .i64 0, .int .i64 0, .int .i32 0, .string ⟨#[]⟩, .slice none 0 0] 32)).setRow W1.heap.size (scrA s (.slice a1 n1 c1) (.slice a2 n2 c2) (.slice a3 n3 c3))) = X at *
  have HTX : Calls Tryd.prog 18 #[.agg (scrA s (.slice a1 n1 c1) (.slice a2 n2 c2) (.slice a3 n3 c3)), .string ⟨#[97, 98, 99]⟩] X (Made W1 X { (stq 3).1 with cs := abcCs } 0) := by
    have hv := HV.out
    rw [← HHS.out] at hv ⊢
    exact abc_text _ _ _ W1 X (HT.out X (HB1.out.trans (HBX.out.mono HB1.out.size))) hv HBX.out
  have h1 := end_x
  have h2 := end_y
  have h3 := end_late
  have h4 := end_last
  obtain ⟨s2, hs2⟩ : ∃ s2 : Scr, s2 = { (stq 3).1 with cs := abcCs } := ⟨_, rfl⟩
  have k1 : s2.x = 1 := by rw [hs2]; exact h1
  have k2 : s2.y = 1 := by rw [hs2]; exact h2
  have k3 : s2.late = false := by rw [hs2]; exact h3
  have k4 : s2.last = 99 := by rw [hs2]; exact h4
  have k5 : s2.cs = abcCs := by rw [hs2]
  rw [← hs2] at HTX
  have K : Hid (s2.x = 1 ∧ s2.y = 1 ∧ s2.late = false ∧ s2.last = 99 ∧ s2.cs = abcCs) := ⟨k1, k2, k3, k4, k5⟩
  clear h1 h2 h3 h4 hs2 k1 k2 k3 k4 k5
  go_wp2_with (refine wpList_load_row rfl 32 (.tmp 1) rfl W1.heap.size rfl _ _ _ _ HX2.out Tryd.underlying32 rfl (by kernel_rfl) ?_)
  refine HTX.mono ?_
  rintro e W2 ⟨cv', tv', gv', rfl, hO, b2⟩
  obtain ⟨a4, n4, c4, a5, n5, c5, a6, n6, c6, -, rfl, rfl⟩ := hO.shapes
  have hc := hO.c
  rw [K.out.2.2.2.2] at hc
  rcases hc with ⟨he, -⟩ | ⟨g, cap, rest, t, hv, hg, hl, hm, hh⟩
  · exact absurd he (by decide)
  subst hv
  have x2 := heap_alloc_new W2 (.cells #[.int .i64 0, .int .i64 0, .slice none 0 0, .int .i64 0, .int .i64 0, .bool false, .int .i64 0, .int .i64 0, .int .i64 0, .int .i64 0, .int .i64 0, .int .i64 0, .slice none 0 0, .int .i64 0, .int .i64 0, .int .i64 0, .int .i64 0, .int .i64 0, .int .i64 0, .int .i32 0, .string ⟨#[]⟩, .slice none 0 0] 32)
  have HX3 : Hid ((W2.alloc (.cells #[.int .i64 0, .int .i64 0, .slice none 0 0, .int .i64 0, .int .i64 0, .bool false, .int .i64 0, .int .i64 0, .int .i64 0, .int .i64 0, .int .i64 0, .int .i64 0, .slice none 0 0, .int .i64 0, .int .i64 0, .int .i64 0, .int .i64 0, .int .i64 0, .int .i64 0, .int .i32 0, .string ⟨#[]⟩, .slice none 0 0] 32)).heap[W2.heap.size]? = _) := x2
  have HX4 : Hid (((W2.alloc (.cells #[.int .i64 0, .int .i64 0, .slice none 0 0, .int .i64 0, .int .i64 0, .bool false, .int .i64 0, .int .i64 0, .int .i64 0, .int .i64 0, .int .i64 0, .int .i64 0, .slice none 0 0, .int .i64 0, .int .i64 0, .int .i64 0, .int .i64 0, .int .i64 0, .int .i64 0, .int .i32 0, .string ⟨#[]⟩, .slice none 0 0] 32)).setRow W2.heap.size (scrA s2 (.slice (some ⟨g, 0, none⟩) 4 cap) (.slice a5 n5 c5) (.slice a6 n6 c6))).heap[W2.heap.size]? = some (.cells (scrA s2 (.slice (some ⟨g, 0, none⟩) 4 cap) (.slice a5 n5 c5) (.slice a6 n6 c6)) 32 (0, 0))) := setRow_heap _ _ _ _ _ _ HX3.out
  have hb2 : Below w.heap.size w W2 := (HB1.out.trans (HBX.out.mono HB1.out.size)).trans (b2.mono (HB1.out.trans (HBX.out.mono HB1.out.size)).size)
  have HBY : Hid (Below w.heap.size w ((W2.alloc (.cells #[.int .i64 0, .int .i64 0, .slice none 0 0, .int .i64 0, .int .i64 0, .bool false, .int .i64 0, .int .i64 0, .int .i64 0, .int .i64 0, .int .i64 0, .int .i64 0, .slice none 0 0, .int .i64 0, .int .i64 0, .int .i64 0, .int .i64 0, .int .i64 0, .int .i64 0, .int .i32 0, .string ⟨#[]⟩, .slice none 0 0] 32)).setRow W2.heap.size (scrA s2 (.slice (some ⟨g, 0, none⟩) 4 cap) (.slice a5 n5 c5) (.slice a6 n6 c6)))) := below_setRow (hb2.alloc hb2.size _) hb2.size _
  have HG : Hid (CellsAt ((W2.alloc (.cells #[.int .i64 0, .int .i64 0, .slice none 0 0, .int .i64 0, .int .i64 0, .bool false, .int .i64 0, .int .i64 0, .int .i64 0, .int .i64 0, .int .i64 0, .int .i64 0, .slice none 0 0, .int .i64 0, .int .i64 0, .int .i64 0, .int .i64 0, .int .i64 0, .int .i64 0, .int .i32 0, .string ⟨#[]⟩, .slice none 0 0] 32)).setRow W2.heap.size (scrA s2 (.slice (some ⟨g, 0, none⟩) 4 cap) (.slice a5 n5 c5) (.slice a6 n6 c6))) g 0 abcCs) := by
    refine Grd.cellsAt_flat (t := t) (rest := rest) ?_
    rw [setRow_other _ _ _ _ (Nat.ne_of_lt (heap_lt hh)), Below.heap_alloc _ _ _ (heap_lt hh)]
    exact hh
  clear HTX hO b2 x2 hh hb2 HX2 HBX HB1 HV
  go_upto_region 3 with (refine wpList_store_row rfl 32 (.tmp 3) _ rfl W2.heap.size (scrA s2 (.slice (some ⟨g, 0, none⟩) 4 cap) (.slice a5 n5 c5) (.slice a6 n6 c6)) rfl rfl _ _ HX3.out (by kernel_rfl) rfl (scr_one _ _ _ _ _ _ _ _ _ _) ?_)
  clear HX3
  generalize ((W2.alloc (.cells #[.int .i64 0, .int .i64 0, .slice none 0 0, .int .i64 0, .int .i64 0, .bool false, .int .i64 0, .int .i64 0, .int .i64 0, .int .i64 0, .int .i64 0, .int .i64 0, .slice none 0 0, .int .i64 0, .int .i64 0, .int .i64 0, .int .i64 0, .int .i64 0, .int .i64 0, .int .i32 0, .string ⟨#[]⟩, .slice none 0 0] 32)).setRow W2.heap.size (scrA s2 (.slice (some ⟨g, 0, none⟩) 4 cap) (.slice a5 n5 c5) (.slice a6 n6 c6))) = Y at *
  obtain ⟨⟨-, -, d2, d3, d4, d5, -⟩, ⟨-, -, -, -, -, -, -, -, d19, -⟩, -⟩ := scr_cells HX4.out
  rw [K.out.1] at d3
  rw [K.out.2.1] at d4
  rw [K.out.2.2.1] at d5
  rw [K.out.2.2.2.1] at d19
  obtain ⟨e8, -⟩ := HG.out 2 (by decide)
  have e8' : Y.cell? ⟨g, 8, none⟩ = some (.int .i32 99) := e8
  clear e8
  go_wp2_with fail
  go_ret
  exact ⟨rfl, HBY.out⟩
end Put
end Go.Proofs.YtnkeahfcpbepjaaDoor

/- The law WipeAll. -/
namespace Go.Proofs.YtnkeahfcpbepjaaDoor
set_option linter.unusedVariables false
open Go.ChangeShapes Go.WideShapes Go.ChangeAt Go.RowKit
namespace Put
open Grd (C SliceAt CellsAt gridErr z0 nilV flat rowsL RightRow)
open Sty (isSt)
theorem cells4w {W : World} {R : Nat} {t : TypeId} {v0 v1 v2 v3 : Value} (h : W.heap[R]? = some (.cells #[v0, v1, v2, v3] t (0, 0))) : W.cell? ⟨R, 0, none⟩ = some v0 ∧ W.cell? ⟨R, 1, none⟩ = some v1 ∧ W.cell? ⟨R, 2, none⟩ = some v2 ∧ W.cell? ⟨R, 3, none⟩ = some v3 := by
  refine ⟨?_, ?_, ?_, ?_⟩ <;> simp [World.cell?, h]
theorem plain_wa : Plain 35 := by
  intro args W
  kernel_rfl
set_option maxHeartbeats 1000000 in
theorem wa_blank (bk : Int) (B : Nat) (W : World) (hB : W.cell? ⟨B, 7, none⟩ = some (.int .i64 bk)) : Calls Tryd.prog 35 #[.agg #[.int .i32 32, .int .i64 0, .int .i64 bk, .int .i64 0], .pointer (some ⟨B, 0, none⟩)] W fun e w' => e = .returned (.bool false) ∧ Below W.heap.size W w' := by
  have nq := Grd.neq_cell 32 0 bk 0
  have x0 := heap_alloc_new W (.cells #[.int .i32 32, .int .i64 0, .int .i64 bk, .int .i64 0] 63)
  have kb : Below W.heap.size W (W.alloc (.cells #[.int .i32 32, .int .i64 0, .int .i64 bk, .int .i64 0] 63)) := (Below.refl _ _).alloc (Nat.le_refl _) _
  obtain ⟨c0, c1, c2, c3⟩ := cells4w x0
  have q := cell_stay kb hB
  have HKB : Hid _ := kb
  clear x0 kb hB
  go_enter Tryd.func35, Tryd.ntmps35
  go_wp2_with fail
  go_ret
  exact ⟨rfl, HKB.out⟩
set_option maxHeartbeats 2000000 in
theorem index_none (bk : Int) (B b o c L : Nat) (w : World) (hB : w.cell? ⟨B, 7, none⟩ = some (.int .i64 bk)) (hC : CellsAt w b o (List.replicate L (32, 0, bk, 0))) (hL : L ≤ 7200) :
    Calls Tryd.prog 85 #[.slice (some ⟨b, o, none⟩) L c, .func (.func 35) #[] #[.pointer (some ⟨B, 0, none⟩)]] w fun e w' => e = .returned (.int .i64 (-1)) ∧ Below w.heap.size w w' := by
  have HC : Hid (CellsAt w b o (List.replicate L (32, 0, bk, 0))) := hC
  have HCL : Hid (∀ W, Below w.heap.size w W → Calls Tryd.prog 35 #[.agg #[.int .i32 32, .int .i64 0, .int .i64 bk, .int .i64 0], .pointer (some ⟨B, 0, none⟩)] W fun e w' => e = .returned (.bool false) ∧ Below W.heap.size W w') := fun W h => wa_blank bk B W (cell_stay h hB)
  have hpl := plain_wa
  unfold Plain at hpl
  clear hC hB
  go_enter Tryd.func85, Tryd.ntmps85
  go_wp2_with fail
  go_loopg [8] L (fun q i wr => ∃ k : Nat, i = .int .i64 (k : Int) ∧ k ≤ L ∧ L - k ≤ q ∧ Below w.heap.size w wr)
  case atStart => exact ⟨0, rfl, by omega, by omega, Below.refl _ _⟩
  case round =>
    obtain ⟨k, rfl, hk, hq, hb⟩ := hrel
    by_cases hlt : k < L
    · have lt1 : ((k : Int) < (L : Int)) := by omega
      obtain ⟨p0, p1, p2, p3⟩ := HC.out.below hb k (by rw [List.length_replicate]; exact hlt)
      have hc : (List.replicate L ((32, 0, bk, 0) : C)).getD k z0 = (32, 0, bk, 0) := by simp [List.getD, hlt]
      rw [hc] at p0 p1 p2 p3
      dsimp only at p0 p1 p2 p3
      have HB : Hid (Below w.heap.size w wr) := hb
      clear hc hb
      go_wp2_with fail
      refine (HCL.out _ HB.out).mono ?_
      rintro e V ⟨rfl, b1⟩
      have HBV : Hid (Below w.heap.size w V) := HB.out.trans (b1.mono HB.out.size)
      clear b1 p0 p1 p2 p3
      go_wp2_with fail
      go_roundg (L - (k + 1))
      case measure => omega
      case rel => exact ⟨k + 1, by go_num, by omega, by omega, HBV.out⟩
    · have lt1 : ¬ ((k : Int) < (L : Int)) := by omega
      go_wp2_with fail
      go_ret
      exact ⟨rfl, hb⟩
theorem contains_none (bk : Int) (B b o c L : Nat) (w : World) (hB : w.cell? ⟨B, 7, none⟩ = some (.int .i64 bk)) (hC : CellsAt w b o (List.replicate L (32, 0, bk, 0))) (hL : L ≤ 7200) :
    Calls Tryd.prog 34 #[.slice (some ⟨b, o, none⟩) L c, .func (.func 35) #[] #[.pointer (some ⟨B, 0, none⟩)]] w fun e w' => e = .returned (.bool false) ∧ Below w.heap.size w w' := by
  have H := index_none bk B b o c L w hB hC hL
  clear hB hC
  go_enter Tryd.func34, Tryd.ntmps34
  go_wp2_with fail
  refine H.mono ?_
  rintro e V ⟨rfl, b1⟩
  go_wp2_with fail
  go_ret
  exact ⟨rfl, b1⟩
theorem screen_all {s : Scr} {n hh : Nat} (hR : RightS s n hh) : (screenS s 2 n hh).flatten = List.replicate (hh * n) (32, 0, s.sb, 0) := by
  have y0 := hR.y0
  have y1 := hR.y1
  have x0 := hR.x0
  have x1 := hR.x1
  have h0 := rightRows_of hR
  have hyl : s.y.toNat < (rowsL n s.cs hh).length := by rw [Grd.rowsL_len]; omega
  have e : screenS s 2 n hh = List.replicate hh (List.replicate n (32, 0, s.sb, 0)) := by
    refine rows_ext (by rw [(screenS_right hR 2).1, List.length_replicate]) fun i hi => ?_
    rw [(screenS_right hR 2).1] at hi
    have e2 : (List.replicate hh (List.replicate n ((32, 0, s.sb, 0) : C))).getD i [] = List.replicate n (32, 0, s.sb, 0) := by simp [List.getD, hi]
    rw [e2]
    unfold screenS
    rw [wipeTo_get _ _ _ _ _ _ _ (by rw [(lineS_right hR 2).1]; exact hi)]
    have s1 : spanA 2 s.y.toNat hh = (0, hh) := rfl
    have s2 : spanA 2 s.x.toNat n = (0, n) := rfl
    rw [s1]
    by_cases hy : i = s.y.toNat
    · subst hy
      rw [if_neg (by omega)]
      unfold lineS lineRow
      rw [getD_set_same _ _ _ _ hyl, s2]
      show wipeRow s.sb _ 0 n = _
      rw [wipe_whole s.sb _ n (by rw [(h0 _ hyl).1]; exact Nat.le_refl _), (h0 _ hyl).1]
    · rw [if_pos ⟨Nat.zero_le _, hi, hy⟩]
  rw [e, List.flatten_replicate_replicate]
theorem line_line {s : Scr} {n hh : Nat} (hR : RightS s n hh) (k : Int) : lineS { s with late := false, cs := (lineS s k n hh).flatten } k n hh = lineS s k n hh := by
  have y0 := hR.y0
  have y1 := hR.y1
  have h0 := rightRows_of hR
  have hyl : s.y.toNat < (rowsL n s.cs hh).length := by rw [Grd.rowsL_len]; omega
  obtain ⟨h1, h2⟩ := lineS_right hR k
  have hr := (right_rows hR _ h1 h2).2
  show (rowsL n (lineS s k n hh).flatten hh).set s.y.toNat (wipeRow s.sb ((rowsL n (lineS s k n hh).flatten hh).getD s.y.toNat []) (spanA k s.x.toNat n).1 (spanA k s.x.toNat n).2) = _
  rw [hr]
  unfold lineS lineRow
  rw [getD_set_same _ _ _ _ hyl, List.set_set, wipe_wipe _ _ _ _ (h0 _ hyl).2 (back_style hR)]
theorem right_err' {s : Scr} {n hh : Nat} (h : RightS s n hh) : scrErr s = 0 := by
  have hz := h.gz
  rw [← h.w, ← h.h] at hz
  have hp : placeOk s = true := by
    have := h.w
    have := h.h
    have := h.x0
    have := h.x1
    have := h.y0
    have := h.y1
    have := h.kx0
    have := h.kx1
    have := h.ky0
    have := h.ky1
    have := h.t0
    have := h.t1
    have := h.t2
    have := h.t3
    simp only [placeOk, hasC, regionOk, Bool.and_eq_true, Bool.or_eq_true, decide_eq_true_eq]
    omega
  have hr : restOk s = true := by
    simp only [restOk, Bool.and_eq_true, Bool.or_eq_true, Bool.not_eq_true', decide_eq_true_eq, decide_eq_false_iff_not]
    exact ⟨by rw [h.w, h.tl], h.la, h.ti⟩
  have hg : goneErr s.gone = 0 := by
    unfold goneErr
    rw [if_neg (by have := h.gl; omega)]
    have hb : goneBad s.gone = false := by
      unfold goneBad
      rw [List.any_eq_false]
      intro row hrow
      simp [h.gr row hrow]
    rw [hb]
    rfl
  unfold scrErr
  rw [if_neg (by rw [hz]; simp), if_neg (by rw [hp]; simp), if_neg (by rw [h.late]; simp), if_neg (by rw [h.looks]; simp), if_neg (by rw [hr]; simp), hg]
theorem right_small' {s : Scr} {n hh : Nat} (h : RightS s n hh) : Small s := by
  refine ⟨?_, ?_, ?_, ?_⟩
  · have h1 := h.cl
    have h2 := Nat.mul_le_mul h.n2 h.h2
    omega
  · have := h.tl
    have := h.n2
    omega
  · have := h.gl
    omega
  · intro row hrow
    have := (grid_size (h.gr row hrow)).2.1
    omega
theorem kept_w {w W : World} {A : Array Value} (hB : Below w.heap.size w W) :
    ((W.alloc (.cells #[.int .i64 0, .int .i64 0, .slice none 0 0, .int .i64 0, .int .i64 0, .bool false, .int .i64 0, .int .i64 0, .int .i64 0, .int .i64 0, .int .i64 0, .int .i64 0, .slice none 0 0, .int .i64 0, .int .i64 0, .int .i64 0, .int .i64 0, .int .i64 0, .int .i64 0, .int .i32 0, .string ⟨#[]⟩, .slice none 0 0] 32)).setRow W.heap.size A).heap[W.heap.size]? = some (.cells A 32 (0, 0)) ∧ Below W.heap.size W ((W.alloc (.cells #[.int .i64 0, .int .i64 0, .slice none 0 0, .int .i64 0, .int .i64 0, .bool false, .int .i64 0, .int .i64 0, .int .i64 0, .int .i64 0, .int .i64 0, .int .i64 0, .slice none 0 0, .int .i64 0, .int .i64 0, .int .i64 0, .int .i64 0, .int .i64 0, .int .i64 0, .int .i32 0, .string ⟨#[]⟩, .slice none 0 0] 32)).setRow W.heap.size A) ∧ Below w.heap.size w ((W.alloc (.cells #[.int .i64 0, .int .i64 0, .slice none 0 0, .int .i64 0, .int .i64 0, .bool false, .int .i64 0, .int .i64 0, .int .i64 0, .int .i64 0, .int .i64 0, .int .i64 0, .slice none 0 0, .int .i64 0, .int .i64 0, .int .i64 0, .int .i64 0, .int .i64 0, .int .i64 0, .int .i32 0, .string ⟨#[]⟩, .slice none 0 0] 32)).setRow W.heap.size A) ∧ (W.alloc (.cells #[.int .i64 0, .int .i64 0, .slice none 0 0, .int .i64 0, .int .i64 0, .bool false, .int .i64 0, .int .i64 0, .int .i64 0, .int .i64 0, .int .i64 0, .int .i64 0, .slice none 0 0, .int .i64 0, .int .i64 0, .int .i64 0, .int .i64 0, .int .i64 0, .int .i64 0, .int .i32 0, .string ⟨#[]⟩, .slice none 0 0] 32)).heap[W.heap.size]? = some (.cells #[.int .i64 0, .int .i64 0, .slice none 0 0, .int .i64 0, .int .i64 0, .bool false, .int .i64 0, .int .i64 0, .int .i64 0, .int .i64 0, .int .i64 0, .int .i64 0, .slice none 0 0, .int .i64 0, .int .i64 0, .int .i64 0, .int .i64 0, .int .i64 0, .int .i64 0, .int .i32 0, .string ⟨#[]⟩, .slice none 0 0] 32 (0, 0)) := by
  have h1 : Below W.heap.size W ((W.alloc (.cells #[.int .i64 0, .int .i64 0, .slice none 0 0, .int .i64 0, .int .i64 0, .bool false, .int .i64 0, .int .i64 0, .int .i64 0, .int .i64 0, .int .i64 0, .int .i64 0, .slice none 0 0, .int .i64 0, .int .i64 0, .int .i64 0, .int .i64 0, .int .i64 0, .int .i64 0, .int .i32 0, .string ⟨#[]⟩, .slice none 0 0] 32)).setRow W.heap.size A) := below_setRow ((Below.refl _ _).alloc (Nat.le_refl _) _) (Nat.le_refl _) _
  exact ⟨setRow_heap _ _ _ _ _ _ (heap_alloc_new W _), h1, hB.trans (h1.mono hB.size), heap_alloc_new W _⟩
set_option maxHeartbeats 8000000 in
set_option maxRecDepth 100000 in
theorem wipeAll_bad (s : Scr) (cv tv gv : Value) (k : Int) (w : World) (hT : Txt.Tab w) (hV : ScrV w s cv tv gv) (hF : Fits s) (hz : scrErr s ≠ 0) :
    Calls Tryd.prog 8 #[.agg (scrA s cv tv gv), .int .i64 k] w fun e w' => e = .returned (.bool true) ∧ Below w.heap.size w w' := by
  have x0 := heap_alloc_new w (.cells (scrA s cv tv gv) 32)
  have kb : Below w.heap.size w (w.alloc (.cells (scrA s cv tv gv) 32)) := (Below.refl _ _).alloc (Nat.le_refl _) _
  have HP : Hid (∀ W, Below w.heap.size w W → Calls Tryd.prog 11 #[] W fun e w' => e = .returned (.bool true) ∧ Below W.heap.size W w') := fun W h => printed_any W (Grd.Tab.next hT h)
  have HSC := wscreen_bad (w0 := w) ⟨Grd.Tab.next hT kb, hV, kb, hF⟩ hz 2
  have HX0 : Hid _ := x0
  have HKB : Hid _ := kb
  have hzb : (scrErr s != 0) = true := by simp [bne, hz]
  clear x0 kb hT hV hF hz
  generalize scrErr s = er at *
  go_enter Tryd.func8, Tryd.ntmps8
  go_wp2_with (refine wpList_load_row rfl 32 (.tmp 2) rfl w.heap.size rfl _ _ _ _ HX0.out Tryd.underlying32 rfl (by kernel_rfl) ?_)
  refine HSC.mono ?_
  rintro e V1 ⟨cv1, tv1, gv1, rfl, hO1, b1⟩
  obtain ⟨d1, m1, e1, d2, m2, e2, d3, m3, e3, rfl, rfl, rfl⟩ := hO1.shapes
  have HB1 : Hid (Below w.heap.size w V1) := HKB.out.trans (b1.mono HKB.out.size)
  obtain ⟨k1, k2, k3, k4⟩ := kept_w (A := scrA zScr (.slice d1 m1 e1) (.slice d2 m2 e2) (.slice d3 m3 e3)) HB1.out
  have HL3 : Hid _ := k3
  have HL4 : Hid _ := k4
  clear hO1 b1 k1 k2 k3 k4 HSC
  go_upto_region 2 with (refine wpList_store_row rfl 32 (.tmp 5) _ rfl V1.heap.size (scrA zScr (.slice d1 m1 e1) (.slice d2 m2 e2) (.slice d3 m3 e3)) rfl rfl _ _ HL4.out (by kernel_rfl) rfl (scr_one _ _ _ _ _ _ _ _ _ _) ?_)
  clear HL4
  generalize ((V1.alloc (.cells #[.int .i64 0, .int .i64 0, .slice none 0 0, .int .i64 0, .int .i64 0, .bool false, .int .i64 0, .int .i64 0, .int .i64 0, .int .i64 0, .int .i64 0, .int .i64 0, .slice none 0 0, .int .i64 0, .int .i64 0, .int .i64 0, .int .i64 0, .int .i64 0, .int .i64 0, .int .i32 0, .string ⟨#[]⟩, .slice none 0 0] 32)).setRow V1.heap.size (scrA zScr (.slice d1 m1 e1) (.slice d2 m2 e2) (.slice d3 m3 e3))) = X at *
  go_wp2_with fail
  refine (HP.out _ HL3.out).mono ?_
  rintro e V2 ⟨rfl, b2⟩
  have HB2 : Hid (Below w.heap.size w V2) := HL3.out.trans (b2.mono HL3.out.size)
  clear b2
  go_wp2_with fail
  refine (HP.out _ HB2.out).mono ?_
  rintro e V3 ⟨rfl, b3⟩
  have HB3 : Hid (Below w.heap.size w V3) := HB2.out.trans (b3.mono HB2.out.size)
  clear b3
  go_wp2_with fail
  go_ret
  exact ⟨rfl, HB3.out⟩
set_option maxHeartbeats 8000000 in
set_option maxRecDepth 100000 in
theorem wipeAll_good (s : Scr) (cv tv gv : Value) (k : Int) (w : World) (hT : Txt.Tab w) (hV : ScrV w s cv tv gv) (hF : Fits s) (n hh : Nat) (hR : RightS s n hh) :
    Calls Tryd.prog 8 #[.agg (scrA s cv tv gv), .int .i64 k] w fun e w' => e = .returned (.bool true) ∧ Below w.heap.size w w' := by
  have x0 := heap_alloc_new w (.cells (scrA s cv tv gv) 32)
  have kb : Below w.heap.size w (w.alloc (.cells (scrA s cv tv gv) 32)) := (Below.refl _ _).alloc (Nat.le_refl _) _
  have HP : Hid (∀ W, Below w.heap.size w W → Calls Tryd.prog 11 #[] W fun e w' => e = .returned (.bool true) ∧ Below W.heap.size W w') := fun W h => printed_any W (Grd.Tab.next hT h)
  have hz := right_err' hR
  have HSC := wscreen_good (w0 := w) ⟨Grd.Tab.next hT kb, hV, kb, hF⟩ hR hz 2 (by omega)
  rw [screen_all hR] at HSC
  obtain ⟨sy, hsy⟩ : ∃ sy : Scr, sy = { s with late := false, cs := (lineS s k n hh).flatten } := ⟨_, rfl⟩
  have hRy : RightS sy n hh := by rw [hsy]; exact (right_rows hR _ (lineS_right hR k).1 (lineS_right hR k).2).1
  have hFy : Fits sy := by rw [hsy]; exact ⟨hF.m0, hF.m1, hF.k0, hF.k1, hF.tl, hF.gl, hF.bl⟩
  have HL1 : Hid (∀ W, Below w.heap.size w W → Calls Tryd.prog 36 #[.agg (scrA s cv tv gv), .int .i64 k] W (Made w W sy 0)) := fun W h => by rw [hsy]; exact wline_good (w0 := w) ⟨Grd.Tab.next hT h, hV, h, hF⟩ hR hz k
  have hyy : { sy with late := false, cs := (lineS sy k n hh).flatten } = sy := by
    rw [hsy]
    show { s with late := false, cs := (lineS { s with late := false, cs := (lineS s k n hh).flatten } k n hh).flatten } = _
    rw [line_line hR k]
  have HL2 : Hid (∀ w0 W cv' tv' gv', Below w.heap.size w W → ScrV w0 sy cv' tv' gv' → Below w0.heap.size w0 W → Calls Tryd.prog 36 #[.agg (scrA sy cv' tv' gv'), .int .i64 k] W (Made w0 W sy 0)) := fun w0 W cv' tv' gv' h hv hb => by
    have h2 := wline_good (w0 := w0) ⟨Grd.Tab.next hT h, hv, hb, hFy⟩ hRy (right_err' hRy) k
    rw [hyy] at h2
    exact h2
  have HSM : Hid (Small sy) := right_small' hRy
  have hL : hh * n ≤ 7200 := by have := Nat.mul_le_mul hR.h2 hR.n2; omega
  have hLp : 0 < hh * n := Nat.mul_pos hR.h1 hR.n1
  have HX0 : Hid _ := x0
  have HKB : Hid _ := kb
  clear x0 kb hT hV hF hz hsy hRy hFy hyy hR
  generalize hLL : hh * n = L at *
  clear hLL
  obtain ⟨sx, hsx⟩ : ∃ sx : Scr, sx = { s with late := false, cs := List.replicate L (32, 0, s.sb, 0) } := ⟨_, rfl⟩
  rw [← hsx] at HSC
  have HSX : Hid (sx.cs = List.replicate L (32, 0, s.sb, 0)) := by unfold Hid; rw [hsx]
  clear hsx
  go_enter Tryd.func8, Tryd.ntmps8
  go_wp2_with (refine wpList_load_row rfl 32 (.tmp 2) rfl w.heap.size rfl _ _ _ _ HX0.out Tryd.underlying32 rfl (by kernel_rfl) ?_)
  refine HSC.mono ?_
  rintro e V1 ⟨cv1, tv1, gv1, rfl, hO1, b1⟩
  have hcs := hO1.scr.c
  rw [HSX.out] at hcs
  rcases hcs with ⟨he, -⟩ | ⟨-, cb, co, cc, rfl, hcc1, hcc2, hCC⟩
  · have hl0 := congrArg List.length he
    rw [List.length_replicate] at hl0
    simp at hl0
    omega
  rw [List.length_replicate] at hO1 hcc1
  obtain ⟨d1, m1, e1, d2, m2, e2, d3, m3, e3, h1, rfl, rfl⟩ := hO1.shapes
  rw [List.length_replicate]
  clear h1 d1 m1 e1
  have HB1 : Hid (Below w.heap.size w V1) := HKB.out.trans (b1.mono HKB.out.size)
  have HX1 : Hid (V1.heap[w.heap.size]? = _) := Grd.carry HX0.out b1
  have HCC : Hid (CellsAt V1 cb co (List.replicate L (32, 0, s.sb, 0))) := hCC
  obtain ⟨k1, k2, k3, k4⟩ := kept_w (A := scrA sx (.slice (some ⟨cb, co, none⟩) L cc) (.slice d2 m2 e2) (.slice d3 m3 e3)) HB1.out
  have HM1 : Hid _ := k1
  have HM3 : Hid _ := k3
  have HM4 : Hid _ := k4
  have HX2 : Hid _ := Grd.carry HX1.out k2
  have HC2 : Hid (CellsAt _ cb co (List.replicate L (32, 0, s.sb, 0))) := hCC.below k2
  clear hO1 b1 k1 k2 k3 k4 HSC hCC HCC HX0 HKB
  go_upto_region 2 with (refine wpList_store_row rfl 32 (.tmp 5) _ rfl V1.heap.size (scrA sx (.slice (some ⟨cb, co, none⟩) L cc) (.slice d2 m2 e2) (.slice d3 m3 e3)) rfl rfl _ _ HM4.out (by kernel_rfl) rfl (scr_one _ _ _ _ _ _ _ _ _ _) ?_)
  clear HM4 HX1 HB1
  generalize ((V1.alloc (.cells #[.int .i64 0, .int .i64 0, .slice none 0 0, .int .i64 0, .int .i64 0, .bool false, .int .i64 0, .int .i64 0, .int .i64 0, .int .i64 0, .int .i64 0, .int .i64 0, .slice none 0 0, .int .i64 0, .int .i64 0, .int .i64 0, .int .i64 0, .int .i64 0, .int .i64 0, .int .i32 0, .string ⟨#[]⟩, .slice none 0 0] 32)).setRow V1.heap.size (scrA sx (.slice (some ⟨cb, co, none⟩) L cc) (.slice d2 m2 e2) (.slice d3 m3 e3))) = X at *
  go_wp2_with fail
  refine (HP.out _ HM3.out).mono ?_
  rintro e V2 ⟨rfl, b2⟩
  have HB2 : Hid (Below w.heap.size w V2) := HM3.out.trans (b2.mono HM3.out.size)
  have HX3 : Hid (V2.heap[w.heap.size]? = _) := Grd.carry HX2.out b2
  have hM2 := Grd.carry HM1.out b2
  have c2 := (scr_cells hM2).1.2.2.1
  have c7 := (scr_cells HX3.out).1.2.2.2.2.2.2.2.1
  have HCN := contains_none s.sb w.heap.size cb co cc L V2 c7 (HC2.out.below b2) hL
  clear b2 HX2 HM1 HC2 HM3 hM2 c7
  go_wp2_with fail
  refine HCN.mono ?_
  rintro e V3 ⟨rfl, b3⟩
  have HB3 : Hid (Below w.heap.size w V3) := HB2.out.trans (b3.mono HB2.out.size)
  have HX4 : Hid (V3.heap[w.heap.size]? = _) := Grd.carry HX3.out b3
  clear b3 HX3 HB2 HCN c2
  go_wp2_with (refine wpList_load_row rfl 32 (.tmp 2) rfl w.heap.size rfl _ _ _ _ HX4.out Tryd.underlying32 rfl (by kernel_rfl) ?_)
  refine (HL1.out _ HB3.out).mono ?_
  rintro e V4 ⟨cv4, tv4, gv4, rfl, hO4, b4⟩
  obtain ⟨f1, p1, g1, f2, p2, g2, f3, p3, g3, rfl, rfl, rfl⟩ := hO4.shapes
  have HB4 : Hid (Below w.heap.size w V4) := HB3.out.trans (b4.mono HB3.out.size)
  have HV4 : Hid (ScrV V4 sy _ _ _) := hO4.scr
  obtain ⟨k1, k2, k3, k4⟩ := kept_w (A := scrA sy (.slice f1 p1 g1) (.slice f2 p2 g2) (.slice f3 p3 g3)) HB4.out
  have HN1 : Hid _ := k1
  have HN2 : Hid _ := k2
  have HN3 : Hid _ := k3
  have HN4 : Hid _ := k4
  clear hO4 b4 k1 k2 k3 k4 HX4 HB3
  go_upto_region 7 with (refine wpList_store_row rfl 32 (.tmp 7) _ rfl V4.heap.size (scrA sy (.slice f1 p1 g1) (.slice f2 p2 g2) (.slice f3 p3 g3)) rfl rfl _ _ HN4.out (by kernel_rfl) rfl (scr_one _ _ _ _ _ _ _ _ _ _) ?_)
  have HLL := HL2.out V4 _ _ _ _ HN3.out HV4.out HN2.out
  clear HN4
  generalize ((V4.alloc (.cells #[.int .i64 0, .int .i64 0, .slice none 0 0, .int .i64 0, .int .i64 0, .bool false, .int .i64 0, .int .i64 0, .int .i64 0, .int .i64 0, .int .i64 0, .int .i64 0, .slice none 0 0, .int .i64 0, .int .i64 0, .int .i64 0, .int .i64 0, .int .i64 0, .int .i64 0, .int .i32 0, .string ⟨#[]⟩, .slice none 0 0] 32)).setRow V4.heap.size (scrA sy (.slice f1 p1 g1) (.slice f2 p2 g2) (.slice f3 p3 g3))) = Y at *
  go_wp2_with (refine wpList_load_row rfl 32 (.tmp 7) rfl V4.heap.size rfl _ _ _ _ HN1.out Tryd.underlying32 rfl (by kernel_rfl) ?_)
  refine HLL.mono ?_
  rintro e V5 ⟨cv5, tv5, gv5, rfl, hO5, b5⟩
  obtain ⟨i1, q1, j1, i2, q2, j2, i3, q3, j3, rfl, rfl, rfl⟩ := hO5.shapes
  have HB5 : Hid (Below w.heap.size w V5) := HN3.out.trans (b5.mono HN3.out.size)
  have HY5 : Hid (V5.heap[V4.heap.size]? = _) := Grd.carry HN1.out b5
  have HV5 : Hid (ScrV V5 sy (.slice f1 p1 g1) (.slice f2 p2 g2) (.slice f3 p3 g3)) := (HV4.out.next HN2.out).next b5
  have HW5 : Hid (ScrV V5 sy (.slice i1 q1 j1) (.slice i2 q2 j2) (.slice i3 q3 j3)) := hO5.scr
  obtain ⟨k1, k2, k3, k4⟩ := kept_w (A := scrA sy (.slice i1 q1 j1) (.slice i2 q2 j2) (.slice i3 q3 j3)) HB5.out
  have HO1 : Hid _ := k1
  have HO3 : Hid _ := k3
  have HO4 : Hid _ := k4
  have HY6 : Hid _ := Grd.carry HY5.out k2
  have HV6 : Hid (ScrV _ sy (.slice f1 p1 g1) (.slice f2 p2 g2) (.slice f3 p3 g3)) := HV5.out.next k2
  have HW6 : Hid (ScrV _ sy (.slice i1 q1 j1) (.slice i2 q2 j2) (.slice i3 q3 j3)) := HW5.out.next k2
  clear hO5 b5 k1 k2 k3 k4 HLL HN1 HN2 HN3 HL1 HL2 HP
  go_upto_region 8 with (refine wpList_store_row rfl 32 (.tmp 8) _ rfl V5.heap.size (scrA sy (.slice i1 q1 j1) (.slice i2 q2 j2) (.slice i3 q3 j3)) rfl rfl _ _ HO4.out (by kernel_rfl) rfl (scr_one _ _ _ _ _ _ _ _ _ _) ?_)
  clear HO4 HY5 HV5 HW5
  generalize ((V5.alloc (.cells #[.int .i64 0, .int .i64 0, .slice none 0 0, .int .i64 0, .int .i64 0, .bool false, .int .i64 0, .int .i64 0, .int .i64 0, .int .i64 0, .int .i64 0, .int .i64 0, .slice none 0 0, .int .i64 0, .int .i64 0, .int .i64 0, .int .i64 0, .int .i64 0, .int .i64 0, .int .i32 0, .string ⟨#[]⟩, .slice none 0 0] 32)).setRow V5.heap.size (scrA sy (.slice i1 q1 j1) (.slice i2 q2 j2) (.slice i3 q3 j3))) = U at *
  go_wp2_with (first
    | (refine BigFrame.wpList_want rfl fun K hK => wp_load_row 32 (.tmp 7) rfl V4.heap.size rfl _ _ _ _ HY6.out Tryd.underlying32 rfl (by kernel_rfl) (hK _ _ ?_))
    | (refine BigFrame.wpList_want rfl fun K hK => wp_load_row 32 (.tmp 8) rfl V5.heap.size rfl _ _ _ _ HO1.out Tryd.underlying32 rfl (by kernel_rfl) (hK _ _ ?_)))
  refine (sameScreen_any sy _ _ _ _ _ _ U HV6.out HW6.out HSM.out).mono ?_
  rintro e V6 ⟨rfl, b6⟩
  have HB6 : Hid (Below w.heap.size w V6) := HO3.out.trans (b6.mono HO3.out.size)
  clear b6
  go_wp2_with fail
  go_ret
  exact ⟨rfl, HB6.out⟩
theorem wipeAll_walk (s : Scr) (cv tv gv : Value) (k : Int) (w : World) (hT : Txt.Tab w) (hV : ScrV w s cv tv gv) (hF : Fits s) :
    Calls Tryd.prog 8 #[.agg (scrA s cv tv gv), .int .i64 k] w fun e w' => e = .returned (.bool true) ∧ Below w.heap.size w w' := by
  by_cases hz : scrErr s = 0
  · obtain ⟨n, hh, hR⟩ := right_of s hz
    exact wipeAll_good s cv tv gv k w hT hV hF n hh hR
  · exact wipeAll_bad s cv tv gv k w hT hV hF hz
end Put
end Go.Proofs.YtnkeahfcpbepjaaDoor
