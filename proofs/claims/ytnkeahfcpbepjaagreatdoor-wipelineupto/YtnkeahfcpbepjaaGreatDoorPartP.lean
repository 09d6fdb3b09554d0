/- One rune, where nothing rolls and nothing is moved to make room. -/
import Derived.Test.YtnkeahfcpbepjaaGreatDoorPartO
import Derived.Test.YtnkeahfcpbepjaaGreatDoorPartI
import Derived.Test.YtnkeahfcpbepjaaGreatDoorPartL
import Derived.Test.YtnkeahfcpbepjaaGreatDoorPartM
import Derived.Test.YtnkeahfcpbepjaaGreatDoorPartN
import Derived.Test.YtnkeahfcpbepjaaGreatDoorPartK
namespace Go.Proofs.YtnkeahfcpbepjaaGreatDoor
open Go.ChangeShapes Go.WideShapes Go.ChangeAt Go.RowKit
namespace Put
open Grd (C SliceAt CellsAt gridErr z0 nilV flat rowsL)
open Sty (isSt)
open Txt (wd)
/-- Where a rune of k cells begins. -/
def startS (s : Scr) (k : Int) : Scr := if brkB s k then feedS { s with x := 0 } else s
def printP (q : Scr × List (List C)) (r : Int) : Scr × List (List C) :=
  ({ advS (startS q.1 (wd r)) (wd r) with last := r }, q.2.set (startS q.1 (wd r)).y.toNat (putRune ((startS q.1 (wd r)).sf, (startS q.1 (wd r)).sb, (startS q.1 (wd r)).sx) (q.2.getD (startS q.1 (wd r)).y.toNat []) (startS q.1 (wd r)).x.toNat r))
def stepOk (q : Scr × List (List C)) (r : Int) : Bool :=
  decide (wd r ≠ 0 ∧ wd r ≤ q.1.w ∧ 0 ≤ q.1.x ∧ q.1.x ≤ 120 ∧ 1 ≤ q.1.w ∧ q.1.w ≤ 120 ∧ 1 ≤ q.1.h ∧ q.1.h ≤ 60 ∧ 0 ≤ q.1.y ∧ q.1.y ≤ 60 ∧ (brkB q.1 (wd r) = true → q.1.y ≠ q.1.bot)) &&
  decide ((startS q.1 (wd r)).w = q.1.w ∧ 0 ≤ (startS q.1 (wd r)).x ∧ (startS q.1 (wd r)).x < q.1.w ∧ 0 ≤ (startS q.1 (wd r)).y ∧ (startS q.1 (wd r)).y.toNat < q.2.length ∧ fitsB (startS q.1 (wd r)) (wd r) = true ∧ hasB (startS q.1 (wd r)).modes 1 = false ∧
    ((q.2.getD (startS q.1 (wd r)).y.toNat []).length : Int) = q.1.w ∧ gridErr q.1.w 1 (q.2.getD (startS q.1 (wd r)).y.toNat []) = 0 ∧ isSt ((startS q.1 (wd r)).sf, (startS q.1 (wd r)).sb, (startS q.1 (wd r)).sx) = true)
theorem print_step (W : World) (M N p : Nat) (q : Scr × List (List C)) (r : Int) (hT : Txt.Tab W) (hN : ∀ X, Below N W X → Txt.Tab X) (hS : ShAt 64 W M N p q.1 q.2) (hok : stepOk q r = true) :
    Calls Tryz.prog 36 #[.pointer (some ⟨p, 0, none⟩), .int .i32 r] W (Ran W M N p (printP q r).1 (printP q r).2) := by
  unfold stepOk at hok
  rw [Bool.and_eq_true, decide_eq_true_eq, decide_eq_true_eq] at hok
  obtain ⟨⟨a1, a2, a3, a4, a5, a6, a7, a8, a9, a10, a11⟩, b1, b2, b3, b4, b5, b6, b7, b8, b9, b10⟩ := hok
  unfold printP
  obtain ⟨s1, hs1⟩ : ∃ s1, s1 = startS q.1 (wd r) := ⟨_, rfl⟩
  rw [← hs1] at b1 b2 b3 b4 b5 b6 b7 b8 b9 b10 ⊢
  refine print_main W M N p q.1 s1 q.2 q.2 q.2 _ r hT hS a1 a2 a3 a4 a5 a6 ⟨?_, ?_, b1, b2, by omega⟩ b6 (fun h => by rw [b7] at h; cases h) (fun _ => rfl) ?_
  · intro hb X _ hX
    have h := feed_plain X M N p { q.1 with x := 0 } q.2 hX a9 a10 a7 a8 (a11 hb)
    rw [hs1]
    unfold startS
    rw [hb]
    exact h
  · intro hb
    rw [hs1]
    unfold startS
    rw [hb]
    exact ⟨rfl, rfl⟩
  · intro X hX hSX
    exact write_any X M N p s1 q.2 (hN X hX) hSX r q.1.w.toNat s1.x.toNat s1.y.toNat b5 _ rfl (by omega) (by omega) (by omega) (by omega) (by omega) (by rw [Int.toNat_of_nonneg (by omega)]; exact b9) b10 a1 (by
      have h : wd r ≤ s1.w - s1.x := by simpa [fitsB] using b6
      omega)
end Put
end Go.Proofs.YtnkeahfcpbepjaaGreatDoor

/- The closed fact of the laws on screens: three runes on two columns. -/
namespace Go.Proofs.YtnkeahfcpbepjaaGreatDoor
set_option linter.unusedVariables false
open Go.ChangeShapes Go.WideShapes Go.ChangeAt Go.RowKit
namespace Put
open Grd (C SliceAt CellsAt gridErr z0 nilV flat rowsL)
open Txt (wd)
def abc : ByteArray := ⟨#[97, 98, 99]⟩
def stq : Nat → Scr × List (List C)
  | 0 => (newScr 2 2, rowsL 2 (newScr 2 2).cs 2)
  | 1 => printP (newScr 2 2, rowsL 2 (newScr 2 2).cs 2) 97
  | 2 => printP (printP (newScr 2 2, rowsL 2 (newScr 2 2).cs 2) 97) 98
  | _ => printP (printP (printP (newScr 2 2, rowsL 2 (newScr 2 2).cs 2) 97) 98) 99
theorem abc_runes : Txt.runes abc = [(97, 1), (98, 1), (99, 1)] := by decide +kernel
theorem ok0 : stepOk (stq 0) 97 = true := by decide +kernel
theorem ok1 : stepOk (stq 1) 98 = true := by decide +kernel
theorem ok2 : stepOk (stq 2) 99 = true := by decide +kernel
theorem new22_ok : scrErr (newScr 2 2) = 0 := by decide +kernel
theorem new22_grid : gridErr (2 : Nat) (2 : Nat) (newScr 2 2).cs = 0 := by decide +kernel
theorem new22_fits : Fits (newScr 2 2) := ⟨by decide, by decide, by decide, by decide, by decide, by decide, by decide +kernel⟩
theorem end_x : (stq 3).1.x = 1 := by decide +kernel
theorem end_y : (stq 3).1.y = 1 := by decide +kernel
theorem end_late : (stq 3).1.late = false := by decide +kernel
theorem end_last : (stq 3).1.last = 99 := by decide +kernel
def abcCs : List C := [(97, 0, 0, 0), (98, 0, 0, 0), (99, 0, 0, 0), (32, 0, 0, 0)]
theorem end_cs : (stq 3).2.flatten = abcCs := by decide +kernel
theorem end_rows : RowsOk (stq 3).1 (stq 3).2 := by
  have hl : (stq 3).2.length = 2 := by decide +kernel
  have hg : (stq 3).1.gone = [] := by decide +kernel
  have h0 : (stq 3).2.getD 0 [] ≠ [] := by decide +kernel
  have h1 : (stq 3).2.getD 1 [] ≠ [] := by decide +kernel
  refine ⟨by rw [hl]; omega, by rw [hl]; omega, fun i hi => ?_, by rw [end_cs]; decide, by rw [hg]; decide, fun i hi => by rw [hg] at hi; exact absurd hi (by simp)⟩
  rw [hl] at hi
  match i, hi with
  | 0, _ => exact h0
  | 1, _ => exact h1
theorem plain_text : Plain 152 := by
  intro args W
  kernel_rfl
theorem abc_does (B M : Nat) (w : World) (hT : Txt.Tab w) (hB : w.cell? ⟨B, 0, none⟩ = some (.string abc)) : Does 152 #[.pointer (some ⟨B, 0, none⟩)] M w (stq 0).1 (stq 3).1 (stq 0).2 (stq 3).2 := by
  have h := text1_does abc B M w stq hB
  rw [abc_runes] at h
  refine h ?_
  intro i hi X p hb hS
  have hTX := Grd.Tab.next hT hb
  have hN : ∀ Y, Below w.heap.size X Y → Txt.Tab Y := fun Y hY => Grd.Tab.next hT (hb.trans hY)
  match i, hi with
  | 0, _ => exact print_step X M w.heap.size p (stq 0) 97 hTX hN hS ok0
  | 1, _ => exact print_step X M w.heap.size p (stq 1) 98 hTX hN hS ok1
  | 2, _ => exact print_step X M w.heap.size p (stq 2) 99 hTX hN hS ok2
theorem abc_text (cv tv gv : Value) (w0 w : World) (hT : Txt.Tab w) (hV : ScrV w0 (newScr 2 2) cv tv gv) (hb0 : Below w0.heap.size w0 w) : Calls Tryz.prog 117 #[.agg (scrA (newScr 2 2) cv tv gv), .string abc] w (Made w0 w { (stq 3).1 with cs := abcCs } 0) := by
  have h := putText_any (newScr 2 2) { (stq 3).1 with cs := abcCs } cv tv gv abc (by decide) w0 w hT hV hb0 new22_fits
  rw [new22_ok] at h
  refine h fun W B hW hB => ?_
  exact change_good 2 2 (newScr 2 2) (stq 3).1 (stq 3).2 cv tv gv _ plain_text _ w0 W hV (hb0.trans (hW.mono hb0.size)) new22_fits rfl rfl new22_grid (fun w1 hw1 => abc_does B _ w1 (Grd.Tab.next (Grd.Tab.next hT hW) hw1) (cell_stay hw1 hB)) end_rows abcCs end_cs
set_option maxHeartbeats 4000000 in
set_option maxRecDepth 100000 in
theorem printed_any (w : World) (hT : Txt.Tab w) : Calls Tryz.prog 63 #[] w fun e w' => e = .returned (.bool true) ∧ Below w.heap.size w w' := by
  have HN := new_good' 2 2 w (by decide)
  have HT : Hid (∀ W, Below w.heap.size w W → Txt.Tab W) := fun W h => Grd.Tab.next hT h
  clear hT
  go_enter Tryz.func63, Tryz.ntmps63
  go_wp2_with fail
  refine HN.mono ?_
  rintro e W1 ⟨cv, tv, gv, rfl, hO, b1⟩
  obtain ⟨a1, n1, c1, a2, n2, c2, a3, n3, c3, rfl, rfl, rfl⟩ := hO.shapes
  generalize hs : newScr 2 2 = s at *
  have x1 := heap_alloc_new W1 (.cells #[.int .i64 0, .int .i64 0, .slice none 0 0, .int .i64 0, .int .i64 0, .bool false, .int .i64 0, .int .i64 0, .int .i64 0, .int .i64 0, .int .i64 0, .int .i64 0, .slice none 0 0, .int .i64 0, .int .i64 0, .int .i64 0, .int .i64 0, .int .i64 0, .int .i64 0, .int .i32 0, .string ⟨#[]⟩, .slice none 0 0] 32)
  have HX1 : Hid ((W1.alloc (.cells #[.int .i64 0, .int .i64 0, .slice none 0 0, .int .i64 0, .int .i64 0, .bool false, .int .i64 0, .int .i64 0, .int .i64 0, .int .i64 0, .int .i64 0, .int .i64 0, .slice none 0 0, .int .i64 0, .int .i64 0, .int .i64 0, .int .i64 0, .int .i64 0, .int .i64 0, .int .i32 0, .string ⟨#[]⟩, .slice none 0 0] 32)).heap[W1.heap.size]? = _) := x1
  have HV : Hid (ScrV W1 s _ _ _) := hO.scr
  have HB1 : Hid (Below w.heap.size w W1) := b1
  clear HN hO b1 x1
  go_upto_region 2 with (refine wpList_store_row rfl 32 (.tmp 1) _ rfl W1.heap.size (scrA s (.slice a1 n1 c1) (.slice a2 n2 c2) (.slice a3 n3 c3)) rfl rfl _ _ HX1.out (by kernel_rfl) rfl (scr_one _ _ _ _ _ _ _ _ _ _) ?_)
  have HX2 : Hid (((W1.alloc (.cells #[.int .i64 0, .int .i64 0, .slice none 0 0, .int .i64 0, .int .i64 0, .bool false, .int .i64 0, .int .i64 0, .int .i64 0, .int .i64 0, .int .i64 0, .int .i64 0, .slice none 0 0, .int .i64 0, .int .i64 0, .int .i64 0, .int .i64 0, .int .i64 0, .int .i64 0, .int .i32 0, .string ⟨#[]⟩, .slice none 0 0] 32)).setRow W1.heap.size (scrA s (.slice a1 n1 c1) (.slice a2 n2 c2) (.slice a3 n3 c3))).heap[W1.heap.size]? = some (.cells (scrA s (.slice a1 n1 c1) (.slice a2 n2 c2) (.slice a3 n3 c3)) 32 (0, 0))) := setRow_heap _ _ _ _ _ _ HX1.out
  have HBX : Hid (Below W1.heap.size W1 ((W1.alloc (.cells #[.int .i64 0, .int .i64 0, .slice none 0 0, .int .i64 0, .int .i64 0, .bool false, .int .i64 0, .int .i64 0, .int .i64 0, .int .i64 0, .int .i64 0, .int .i64 0, .slice none 0 0, .int .i64 0, .int .i64 0, .int .i64 0, .int .i64 0, .int .i64 0, .int .i64 0, .int .i32 0, .string ⟨#[]⟩, .slice none 0 0] 32)).setRow W1.heap.size (scrA s (.slice a1 n1 c1) (.slice a2 n2 c2) (.slice a3 n3 c3)))) := below_setRow ((Below.refl _ _).alloc (Nat.le_refl _) _) (Nat.le_refl _) _
  have HHS : Hid (newScr 2 2 = s) := hs
  clear HX1 hs
  generalize ((W1.alloc (.cells #[.int .i64 0, .int .i64 0, .slice none 0 0, .int .i64 0, .int .i64 0, .bool false, .int .i64 0, .int .i64 0, .int .i64 0, .int .i64 0, .int .i64 0, .int .i64 0, .slice none 0 0, .int .i64 0, .int .i64 0, .int .i64 0, .int .i64 0, .int .i64 0, .int .i64 0, .int .i32 0, .string ⟨#[]⟩, .slice none 0 0] 32)).setRow W1.heap.size (scrA s (.slice a1 n1 c1) (.slice a2 n2 c2) (.slice a3 n3 c3))) = X at *
  have HTX : Calls Tryz.prog 117 #[.agg (scrA s (.slice a1 n1 c1) (.slice a2 n2 c2) (.slice a3 n3 c3)), .string ⟨#[97, 98, 99]⟩] X (Made W1 X { (stq 3).1 with cs := abcCs } 0) := by
    have hv := HV.out
    rw [← HHS.out] at hv ⊢
    exact abc_text _ _ _ W1 X (HT.out X (HB1.out.trans (HBX.out.mono HB1.out.size))) hv HBX.out
  have h1 := end_x
  have h2 := end_y
  have h3 := end_late
  have h4 := end_last
  obtain ⟨s2, hs2⟩ : ∃ s2 : Scr, s2 = { (stq 3).1 with cs := abcCs } := ⟨_, rfl⟩
  have k1 : s2.x = 1 := by rw [hs2]; exact h1
  have k2 : s2.y = 1 := by rw [hs2]; exact h2
  have k3 : s2.late = false := by rw [hs2]; exact h3
  have k4 : s2.last = 99 := by rw [hs2]; exact h4
  have k5 : s2.cs = abcCs := by rw [hs2]
  rw [← hs2] at HTX
  have K : Hid (s2.x = 1 ∧ s2.y = 1 ∧ s2.late = false ∧ s2.last = 99 ∧ s2.cs = abcCs) := ⟨k1, k2, k3, k4, k5⟩
  clear h1 h2 h3 h4 hs2 k1 k2 k3 k4 k5
  go_wp2_with (refine wpList_load_row rfl 32 (.tmp 1) rfl W1.heap.size rfl _ _ _ _ HX2.out Tryz.underlying32 rfl (by kernel_rfl) ?_)
  refine HTX.mono ?_
  rintro e W2 ⟨cv', tv', gv', rfl, hO, b2⟩
  obtain ⟨a4, n4, c4, a5, n5, c5, a6, n6, c6, -, rfl, rfl⟩ := hO.shapes
  have hc := hO.c
  rw [K.out.2.2.2.2] at hc
  rcases hc with ⟨he, -⟩ | ⟨g, cap, rest, t, hv, hg, hl, hm, hh⟩
  · exact absurd he (by decide)
  subst hv
  have x2 := heap_alloc_new W2 (.cells #[.int .i64 0, .int .i64 0, .slice none 0 0, .int .i64 0, .int .i64 0, .bool false, .int .i64 0, .int .i64 0, .int .i64 0, .int .i64 0, .int .i64 0, .int .i64 0, .slice none 0 0, .int .i64 0, .int .i64 0, .int .i64 0, .int .i64 0, .int .i64 0, .int .i64 0, .int .i32 0, .string ⟨#[]⟩, .slice none 0 0] 32)
  have HX3 : Hid ((W2.alloc (.cells #[.int .i64 0, .int .i64 0, .slice none 0 0, .int .i64 0, .int .i64 0, .bool false, .int .i64 0, .int .i64 0, .int .i64 0, .int .i64 0, .int .i64 0, .int .i64 0, .slice none 0 0, .int .i64 0, .int .i64 0, .int .i64 0, .int .i64 0, .int .i64 0, .int .i64 0, .int .i32 0, .string ⟨#[]⟩, .slice none 0 0] 32)).heap[W2.heap.size]? = _) := x2
  have HX4 : Hid (((W2.alloc (.cells #[.int .i64 0, .int .i64 0, .slice none 0 0, .int .i64 0, .int .i64 0, .bool false, .int .i64 0, .int .i64 0, .int .i64 0, .int .i64 0, .int .i64 0, .int .i64 0, .slice none 0 0, .int .i64 0, .int .i64 0, .int .i64 0, .int .i64 0, .int .i64 0, .int .i64 0, .int .i32 0, .string ⟨#[]⟩, .slice none 0 0] 32)).setRow W2.heap.size (scrA s2 (.slice (some ⟨g, 0, none⟩) 4 cap) (.slice a5 n5 c5) (.slice a6 n6 c6))).heap[W2.heap.size]? = some (.cells (scrA s2 (.slice (some ⟨g, 0, none⟩) 4 cap) (.slice a5 n5 c5) (.slice a6 n6 c6)) 32 (0, 0))) := setRow_heap _ _ _ _ _ _ HX3.out
  have hb2 : Below w.heap.size w W2 := (HB1.out.trans (HBX.out.mono HB1.out.size)).trans (b2.mono (HB1.out.trans (HBX.out.mono HB1.out.size)).size)
  have HBY : Hid (Below w.heap.size w ((W2.alloc (.cells #[.int .i64 0, .int .i64 0, .slice none 0 0, .int .i64 0, .int .i64 0, .bool false, .int .i64 0, .int .i64 0, .int .i64 0, .int .i64 0, .int .i64 0, .int .i64 0, .slice none 0 0, .int .i64 0, .int .i64 0, .int .i64 0, .int .i64 0, .int .i64 0, .int .i64 0, .int .i32 0, .string ⟨#[]⟩, .slice none 0 0] 32)).setRow W2.heap.size (scrA s2 (.slice (some ⟨g, 0, none⟩) 4 cap) (.slice a5 n5 c5) (.slice a6 n6 c6)))) := below_setRow (hb2.alloc hb2.size _) hb2.size _
  have HG : Hid (CellsAt ((W2.alloc (.cells #[.int .i64 0, .int .i64 0, .slice none 0 0, .int .i64 0, .int .i64 0, .bool false, .int .i64 0, .int .i64 0, .int .i64 0, .int .i64 0, .int .i64 0, .int .i64 0, .slice none 0 0, .int .i64 0, .int .i64 0, .int .i64 0, .int .i64 0, .int .i64 0, .int .i64 0, .int .i32 0, .string ⟨#[]⟩, .slice none 0 0] 32)).setRow W2.heap.size (scrA s2 (.slice (some ⟨g, 0, none⟩) 4 cap) (.slice a5 n5 c5) (.slice a6 n6 c6))) g 0 abcCs) := by
    refine Grd.cellsAt_flat (t := t) (rest := rest) ?_
    rw [setRow_other _ _ _ _ (Nat.ne_of_lt (heap_lt hh)), Below.heap_alloc _ _ _ (heap_lt hh)]
    exact hh
  clear HTX hO b2 x2 hh hb2 HX2 HBX HB1 HV
  go_upto_region 3 with (refine wpList_store_row rfl 32 (.tmp 3) _ rfl W2.heap.size (scrA s2 (.slice (some ⟨g, 0, none⟩) 4 cap) (.slice a5 n5 c5) (.slice a6 n6 c6)) rfl rfl _ _ HX3.out (by kernel_rfl) rfl (scr_one _ _ _ _ _ _ _ _ _ _) ?_)
  clear HX3
  generalize ((W2.alloc (.cells #[.int .i64 0, .int .i64 0, .slice none 0 0, .int .i64 0, .int .i64 0, .bool false, .int .i64 0, .int .i64 0, .int .i64 0, .int .i64 0, .int .i64 0, .int .i64 0, .slice none 0 0, .int .i64 0, .int .i64 0, .int .i64 0, .int .i64 0, .int .i64 0, .int .i64 0, .int .i32 0, .string ⟨#[]⟩, .slice none 0 0] 32)).setRow W2.heap.size (scrA s2 (.slice (some ⟨g, 0, none⟩) 4 cap) (.slice a5 n5 c5) (.slice a6 n6 c6))) = Y at *
  obtain ⟨⟨-, -, d2, d3, d4, d5, -⟩, ⟨-, -, -, -, -, -, -, -, d19, -⟩, -⟩ := scr_cells HX4.out
  rw [K.out.1] at d3
  rw [K.out.2.1] at d4
  rw [K.out.2.2.1] at d5
  rw [K.out.2.2.2.1] at d19
  obtain ⟨e8, -⟩ := HG.out 2 (by decide)
  have e8' : Y.cell? ⟨g, 8, none⟩ = some (.int .i32 99) := e8
  clear e8
  go_wp2_with fail
  go_ret
  exact ⟨rfl, HBY.out⟩
end Put
end Go.Proofs.YtnkeahfcpbepjaaGreatDoor

/- trellislaw.does: what a call makes of a screen is what is to be done to it. -/
namespace Go.Proofs.YtnkeahfcpbepjaaGreatDoor
set_option linter.unusedVariables false
open Go.ChangeShapes Go.WideShapes Go.ChangeAt Go.RowKit
namespace Put
open Grd (C SliceAt CellsAt gridErr z0 nilV rowsL RowsAt RowB flat)
/-- A screen is kept in a variable. -/
theorem kept_v {w W : World} {A : Array Value} (hB : Below w.heap.size w W) :
    ((W.alloc (.cells #[.int .i64 0, .int .i64 0, .slice none 0 0, .int .i64 0, .int .i64 0, .bool false, .int .i64 0, .int .i64 0, .int .i64 0, .int .i64 0, .int .i64 0, .int .i64 0, .slice none 0 0, .int .i64 0, .int .i64 0, .int .i64 0, .int .i64 0, .int .i64 0, .int .i64 0, .int .i32 0, .string ⟨#[]⟩, .slice none 0 0] 32)).setRow W.heap.size A).heap[W.heap.size]? = some (.cells A 32 (0, 0)) ∧ Below W.heap.size W ((W.alloc (.cells #[.int .i64 0, .int .i64 0, .slice none 0 0, .int .i64 0, .int .i64 0, .bool false, .int .i64 0, .int .i64 0, .int .i64 0, .int .i64 0, .int .i64 0, .int .i64 0, .slice none 0 0, .int .i64 0, .int .i64 0, .int .i64 0, .int .i64 0, .int .i64 0, .int .i64 0, .int .i32 0, .string ⟨#[]⟩, .slice none 0 0] 32)).setRow W.heap.size A) ∧ Below w.heap.size w ((W.alloc (.cells #[.int .i64 0, .int .i64 0, .slice none 0 0, .int .i64 0, .int .i64 0, .bool false, .int .i64 0, .int .i64 0, .int .i64 0, .int .i64 0, .int .i64 0, .int .i64 0, .slice none 0 0, .int .i64 0, .int .i64 0, .int .i64 0, .int .i64 0, .int .i64 0, .int .i64 0, .int .i32 0, .string ⟨#[]⟩, .slice none 0 0] 32)).setRow W.heap.size A) ∧ (W.alloc (.cells #[.int .i64 0, .int .i64 0, .slice none 0 0, .int .i64 0, .int .i64 0, .bool false, .int .i64 0, .int .i64 0, .int .i64 0, .int .i64 0, .int .i64 0, .int .i64 0, .slice none 0 0, .int .i64 0, .int .i64 0, .int .i64 0, .int .i64 0, .int .i64 0, .int .i64 0, .int .i32 0, .string ⟨#[]⟩, .slice none 0 0] 32)).heap[W.heap.size]? = some (.cells #[.int .i64 0, .int .i64 0, .slice none 0 0, .int .i64 0, .int .i64 0, .bool false, .int .i64 0, .int .i64 0, .int .i64 0, .int .i64 0, .int .i64 0, .int .i64 0, .slice none 0 0, .int .i64 0, .int .i64 0, .int .i64 0, .int .i64 0, .int .i64 0, .int .i64 0, .int .i32 0, .string ⟨#[]⟩, .slice none 0 0] 32 (0, 0)) := by
  have h1 : Below W.heap.size W ((W.alloc (.cells #[.int .i64 0, .int .i64 0, .slice none 0 0, .int .i64 0, .int .i64 0, .bool false, .int .i64 0, .int .i64 0, .int .i64 0, .int .i64 0, .int .i64 0, .int .i64 0, .slice none 0 0, .int .i64 0, .int .i64 0, .int .i64 0, .int .i64 0, .int .i64 0, .int .i64 0, .int .i32 0, .string ⟨#[]⟩, .slice none 0 0] 32)).setRow W.heap.size A) := below_setRow ((Below.refl _ _).alloc (Nat.le_refl _) _) (Nat.le_refl _) _
  exact ⟨setRow_heap _ _ _ _ _ _ (heap_alloc_new W _), h1, hB.trans (h1.mono hB.size), heap_alloc_new W _⟩
theorem ScrV.shapes {W : World} {s : Scr} {cv tv gv : Value} (h : ScrV W s cv tv gv) : ∃ a1 n1 c1 a2 n2 c2 a3 n3 c3, cv = .slice a1 n1 c1 ∧ tv = .slice a2 n2 c2 ∧ gv = .slice a3 n3 c3 := by
  obtain ⟨a1, c1, h1⟩ := h.c.shape
  obtain ⟨a2, c2, h2⟩ := h.t.slice
  obtain ⟨a3, c3, h3⟩ := h.g.slice
  exact ⟨a1, _, c1, a2, _, c2, a3, _, c3, h1, h2, h3⟩
/-- What is to be done to a desk. -/
def Acts (df : FuncId) (caps : Array Value) (w : World) (s s2 : Scr) (rows rows2 : List (List C)) : Prop :=
  ∀ N W p, Below w.heap.size w W → w.heap.size ≤ N → N ≤ W.heap.size → DkAt W N p s rows → Calls Tryz.prog df (#[.pointer (some ⟨p, 0, none⟩)] ++ caps) W fun e W' => e = .returned (.tuple #[]) ∧ DkAt W' N p s2 rows2 ∧ Below N W W'
section
attribute [local go_sem ↓] load_scr
attribute [local go_sem] isScrV
set_option maxHeartbeats 8000000 in
set_option maxRecDepth 100000 in
theorem does_bad (s : Scr) (cv tv gv : Value) (cf : FuncId) (ccaps : Array Value) (dv : Value) (hcf : Plain cf) (w : World) (hT : Txt.Tab w) (hV : ScrV w s cv tv gv) (hB : Bulk s) (hz : scrErr s ≠ 0)
    (hcall : ∀ w0 W cv tv gv, Below w.heap.size w w0 → Met w0 W s cv tv gv → Calls Tryz.prog cf (#[.agg (scrA s cv tv gv)] ++ ccaps) W (Made w0 W zScr (scrErr s))) :
    Calls Tryz.prog 26 #[.agg (scrA s cv tv gv), .func (.func cf) #[] ccaps, dv] w fun e w' => e = .returned (.bool true) ∧ Below w.heap.size w w' := by
  have x0 := heap_alloc_new w (.cells (scrA s cv tv gv) 32)
  have kb : Below w.heap.size w (w.alloc (.cells (scrA s cv tv gv) 32)) := (Below.refl _ _).alloc (Nat.le_refl _) _
  have HP : Hid (∀ W, Below w.heap.size w W → Calls Tryz.prog 63 #[] W fun e w' => e = .returned (.bool true) ∧ Below W.heap.size W w') := fun W h => printed_any W (Grd.Tab.next hT h)
  have HTB : Hid (∀ W, Below w.heap.size w W → Txt.Tab W) := fun W h => Grd.Tab.next hT h
  have HX0 : Hid _ := x0
  have HKB : Hid _ := kb
  have HV : Hid (ScrV w s cv tv gv) := hV
  have HBK : Hid (Bulk s) := hB
  have HC : Hid (∀ w0 W cv tv gv, Below w.heap.size w w0 → Met w0 W s cv tv gv → Calls Tryz.prog cf (#[.agg (scrA s cv tv gv)] ++ ccaps) W (Made w0 W zScr (scrErr s))) := hcall
  have HCK : Hid (∀ W, Below w.heap.size w W → Calls Tryz.prog 65 #[.agg (scrA s cv tv gv)] W fun e w' => e = .returned (.int .i64 (scrErr s)) ∧ Below W.heap.size W w') := fun W h => checkScreen_any s cv tv gv W (hV.next h) hB.f
  have hzb : (scrErr s != 0) = true := by simp [bne, hz]
  have hee : (scrErr s == scrErr s) = true := by simp
  have HOW := ownScreen_any s cv tv gv _ (hV.next kb) hB
  unfold Plain at hcf
  clear x0 kb hT hV hB hz hcall
  generalize scrErr s = er at *
  go_enter Tryz.func26, Tryz.ntmps26
  go_wp2_with (refine wpList_load_row rfl 32 (.tmp 3) rfl w.heap.size rfl _ _ _ _ HX0.out Tryz.underlying32 rfl (by kernel_rfl) ?_)
  refine HOW.mono ?_
  rintro e V1 ⟨cv1, tv1, gv1, rfl, hV1, b1⟩
  obtain ⟨a1, n1, c1, a2, n2, c2, a3, n3, c3, rfl, rfl, rfl⟩ := hV1.shapes
  have HB1 : Hid (Below w.heap.size w V1) := HKB.out.trans (b1.mono HKB.out.size)
  have HX1 : Hid (V1.heap[w.heap.size]? = _) := Grd.carry HX0.out b1
  have HV1 : Hid (ScrV V1 s _ _ _) := hV1
  obtain ⟨k1, k2, k3, k4⟩ := kept_v (A := scrA s (.slice a1 n1 c1) (.slice a2 n2 c2) (.slice a3 n3 c3)) HB1.out
  have HK1 : Hid _ := k1
  have HK2 : Hid _ := k2
  have HK3 : Hid _ := k3
  have HK4 : Hid _ := k4
  have HX2 : Hid _ := Grd.carry HX1.out k2
  have hlt1 := heap_lt k1
  clear HOW hV1 b1 k1 k2 k3 k4
  go_upto_region 2 with (refine wpList_store_row rfl 32 (.tmp 7) _ rfl V1.heap.size (scrA s (.slice a1 n1 c1) (.slice a2 n2 c2) (.slice a3 n3 c3)) rfl rfl _ _ HK4.out (by kernel_rfl) rfl (scr_one _ _ _ _ _ _ _ _ _ _) ?_)
  have HCF := HC.out V1 _ _ _ _ HB1.out ⟨HTB.out _ HK3.out, HV1.out, HK2.out, HBK.out.f⟩
  clear HK4
  generalize ((V1.alloc (.cells #[.int .i64 0, .int .i64 0, .slice none 0 0, .int .i64 0, .int .i64 0, .bool false, .int .i64 0, .int .i64 0, .int .i64 0, .int .i64 0, .int .i64 0, .int .i64 0, .slice none 0 0, .int .i64 0, .int .i64 0, .int .i64 0, .int .i64 0, .int .i64 0, .int .i64 0, .int .i32 0, .string ⟨#[]⟩, .slice none 0 0] 32)).setRow V1.heap.size (scrA s (.slice a1 n1 c1) (.slice a2 n2 c2) (.slice a3 n3 c3))) = X2 at *
  go_wp2_with (refine wpList_load_row rfl 32 (.tmp 7) rfl V1.heap.size rfl _ _ _ _ HK1.out Tryz.underlying32 rfl (by kernel_rfl) ?_)
  refine HCF.mono ?_
  rintro e V3 ⟨cv3, tv3, gv3, rfl, hO3, b3⟩
  obtain ⟨d1, m1, e1, d2, m2, e2, d3, m3, e3, rfl, rfl, rfl⟩ := hO3.shapes
  have HB3 : Hid (Below w.heap.size w V3) := HK3.out.trans (b3.mono HK3.out.size)
  have HX3 : Hid (V3.heap[w.heap.size]? = _) := Grd.carry HX2.out b3
  have HO3 : Hid (V3.heap[V1.heap.size]? = _) := Grd.carry HK1.out b3
  have HV3 : Hid (ScrV V3 s (.slice a1 n1 c1) (.slice a2 n2 c2) (.slice a3 n3 c3)) := (HV1.out.next HK2.out).next b3
  have HZ3 : Hid (ScrV V3 zScr _ _ _) := hO3.scr
  obtain ⟨k1, k2, k3, k4⟩ := kept_v (A := scrA zScr (.slice d1 m1 e1) (.slice d2 m2 e2) (.slice d3 m3 e3)) HB3.out
  have HL1 : Hid _ := k1
  have HL3 : Hid _ := k3
  have HL4 : Hid _ := k4
  have HX4 : Hid _ := Grd.carry HX3.out k2
  have HO4 : Hid _ := Grd.carry HO3.out k2
  have HV4 : Hid (ScrV _ s (.slice a1 n1 c1) (.slice a2 n2 c2) (.slice a3 n3 c3)) := HV3.out.next k2
  have HZ4 : Hid (ScrV _ zScr (.slice d1 m1 e1) (.slice d2 m2 e2) (.slice d3 m3 e3)) := HZ3.out.next k2
  clear HCF hO3 b3 k1 k2 k3 k4 HC HK1 HK2 HK3 HX2 HX1 HX0 HV1 HB1 HKB
  go_upto_region 3 with (refine wpList_store_row rfl 32 (.tmp 8) _ rfl V3.heap.size (scrA zScr (.slice d1 m1 e1) (.slice d2 m2 e2) (.slice d3 m3 e3)) rfl rfl _ _ HL4.out (by kernel_rfl) rfl (scr_one _ _ _ _ _ _ _ _ _ _) ?_)
  clear HL4 HX3 HO3 HV3 HZ3
  generalize ((V3.alloc (.cells #[.int .i64 0, .int .i64 0, .slice none 0 0, .int .i64 0, .int .i64 0, .bool false, .int .i64 0, .int .i64 0, .int .i64 0, .int .i64 0, .int .i64 0, .int .i64 0, .slice none 0 0, .int .i64 0, .int .i64 0, .int .i64 0, .int .i64 0, .int .i64 0, .int .i64 0, .int .i32 0, .string ⟨#[]⟩, .slice none 0 0] 32)).setRow V3.heap.size (scrA zScr (.slice d1 m1 e1) (.slice d2 m2 e2) (.slice d3 m3 e3))) = X4 at *
  go_wp2_with fail
  refine (HP.out _ HL3.out).mono ?_
  rintro e V5 ⟨rfl, b5⟩
  have HB5 : Hid (Below w.heap.size w V5) := HL3.out.trans (b5.mono HL3.out.size)
  have HX5 : Hid (V5.heap[w.heap.size]? = _) := Grd.carry HX4.out b5
  have HO5 : Hid (V5.heap[V1.heap.size]? = _) := Grd.carry HO4.out b5
  have HL5 : Hid (V5.heap[V3.heap.size]? = _) := Grd.carry HL1.out b5
  have HV5 : Hid (ScrV V5 s (.slice a1 n1 c1) (.slice a2 n2 c2) (.slice a3 n3 c3)) := HV4.out.next b5
  have HZ5 : Hid (ScrV V5 zScr (.slice d1 m1 e1) (.slice d2 m2 e2) (.slice d3 m3 e3)) := HZ4.out.next b5
  clear b5 HX4 HO4 HL1 HV4 HZ4 HL3
  go_wp2_with (first
    | (refine BigFrame.wpList_want rfl fun K hK => wp_load_row 32 (.tmp 7) rfl V1.heap.size rfl _ _ _ _ HO5.out Tryz.underlying32 rfl (by kernel_rfl) (hK _ _ ?_))
    | (refine BigFrame.wpList_want rfl fun K hK => wp_load_row 32 (.tmp 3) rfl w.heap.size rfl _ _ _ _ HX5.out Tryz.underlying32 rfl (by kernel_rfl) (hK _ _ ?_)))
  refine (sameScreen_any s _ _ _ cv tv gv V5 HV5.out (HV.out.next HB5.out) HBK.out.small).mono ?_
  rintro e V6 ⟨rfl, b6⟩
  have HB6 : Hid (Below w.heap.size w V6) := HB5.out.trans (b6.mono HB5.out.size)
  have HX6 : Hid (V6.heap[w.heap.size]? = _) := Grd.carry HX5.out b6
  have HL6 : Hid (V6.heap[V3.heap.size]? = _) := Grd.carry HL5.out b6
  have HZ6 : Hid (ScrV V6 zScr (.slice d1 m1 e1) (.slice d2 m2 e2) (.slice d3 m3 e3)) := HZ5.out.next b6
  clear b6 HX5 HO5 HL5 HV5 HZ5 HB5
  go_wp2_with (refine wpList_load_row rfl 32 (.tmp 3) rfl w.heap.size rfl _ _ _ _ HX6.out Tryz.underlying32 rfl (by kernel_rfl) ?_)
  refine (HCK.out _ HB6.out).mono ?_
  rintro e V7 ⟨rfl, b7⟩
  have HB7 : Hid (Below w.heap.size w V7) := HB6.out.trans (b7.mono HB6.out.size)
  have HL7 : Hid (V7.heap[V3.heap.size]? = _) := Grd.carry HL6.out b7
  have HZ7 : Hid (ScrV V7 zScr (.slice d1 m1 e1) (.slice d2 m2 e2) (.slice d3 m3 e3)) := HZ6.out.next b7
  clear b7 HX6 HL6 HZ6 HB6
  go_wp2_with (refine BigFrame.wpList_want rfl fun K hK => wp_load_row 32 (.tmp 8) rfl V3.heap.size rfl _ _ _ _ HL7.out Tryz.underlying32 rfl (by kernel_rfl) (hK _ _ ?_))
  refine (noScreen_any _ _ _ V7 HZ7.out).mono ?_
  rintro e V8 ⟨rfl, b8⟩
  have HB8 : Hid (Below w.heap.size w V8) := HB7.out.trans (b8.mono HB7.out.size)
  clear b8
  go_wp2_with fail
  go_ret
  exact ⟨rfl, HB8.out⟩
set_option maxHeartbeats 8000000 in
set_option maxRecDepth 100000 in
theorem does_good (s s' s2 : Scr) (n hh : Nat) (rows2 : List (List C)) (cv tv gv : Value) (cf df : FuncId) (ccaps dcaps : Array Value) (hcf : Plain cf) (hdf : Plain df) (w : World) (hT : Txt.Tab w) (hV : ScrV w s cv tv gv) (hB : Bulk s) (hR : RightS s n hh) (hz : scrErr s = 0) (hS' : Small s')
    (hdo : Acts df dcaps w s s2 (rowsL n s.cs hh) rows2) (hrl : rows2.length = hh) (hrn : ∀ i, i < rows2.length → (rows2.getD i []).length = n) (heq : { s2 with w := (n : Int), h := (hh : Int), cs := rows2.flatten } = s')
    (hcall : ∀ w0 W cv tv gv, Below w.heap.size w w0 → Met w0 W s cv tv gv → Calls Tryz.prog cf (#[.agg (scrA s cv tv gv)] ++ ccaps) W (Made w0 W s' 0)) :
    Calls Tryz.prog 26 #[.agg (scrA s cv tv gv), .func (.func cf) #[] ccaps, .func (.func df) #[] dcaps] w fun e w' => e = .returned (.bool true) ∧ Below w.heap.size w w' := by
  have x0 := heap_alloc_new w (.cells (scrA s cv tv gv) 32)
  have kb : Below w.heap.size w (w.alloc (.cells (scrA s cv tv gv) 32)) := (Below.refl _ _).alloc (Nat.le_refl _) _
  have HP : Hid (∀ W, Below w.heap.size w W → Calls Tryz.prog 63 #[] W fun e w' => e = .returned (.bool true) ∧ Below W.heap.size W w') := fun W h => printed_any W (Grd.Tab.next hT h)
  have HTB : Hid (∀ W, Below w.heap.size w W → Txt.Tab W) := fun W h => Grd.Tab.next hT h
  have HX0 : Hid _ := x0
  have HKB : Hid _ := kb
  have HV : Hid (ScrV w s cv tv gv) := hV
  have HBK : Hid (Bulk s) := hB
  have HC : Hid (∀ w0 W cv tv gv, Below w.heap.size w w0 → Met w0 W s cv tv gv → Calls Tryz.prog cf (#[.agg (scrA s cv tv gv)] ++ ccaps) W (Made w0 W s' 0)) := hcall
  have HCK : Hid (∀ W, Below w.heap.size w W → Calls Tryz.prog 65 #[.agg (scrA s cv tv gv)] W fun e w' => e = .returned (.int .i64 0) ∧ Below W.heap.size W w') := fun W h => by
    have := checkScreen_any s cv tv gv W (hV.next h) hB.f
    rw [hz] at this
    exact this
  have HRR : Hid (RightS s n hh) := hR
  have HSM : Hid (Small s') := hS'
  have HDO : Hid (Acts df dcaps w s s2 (rowsL n s.cs hh) rows2) := hdo
  have HRL : Hid (rows2.length = hh ∧ (∀ i, i < rows2.length → (rows2.getD i []).length = n) ∧ { s2 with w := (n : Int), h := (hh : Int), cs := rows2.flatten } = s') := ⟨hrl, hrn, heq⟩
  have HOW := ownScreen_any s cv tv gv _ (hV.next kb) hB
  unfold Plain at hcf hdf
  clear x0 kb hT hV hB hz hcall hR hS' hdo hrl hrn heq
  go_enter Tryz.func26, Tryz.ntmps26
  go_wp2_with (refine wpList_load_row rfl 32 (.tmp 3) rfl w.heap.size rfl _ _ _ _ HX0.out Tryz.underlying32 rfl (by kernel_rfl) ?_)
  refine HOW.mono ?_
  rintro e V1 ⟨cv1, tv1, gv1, rfl, hV1, b1⟩
  obtain ⟨a1, n1, c1, a2, n2, c2, a3, n3, c3, rfl, rfl, rfl⟩ := hV1.shapes
  have HB1 : Hid (Below w.heap.size w V1) := HKB.out.trans (b1.mono HKB.out.size)
  have HX1 : Hid (V1.heap[w.heap.size]? = _) := Grd.carry HX0.out b1
  have HV1 : Hid (ScrV V1 s _ _ _) := hV1
  obtain ⟨k1, k2, k3, k4⟩ := kept_v (A := scrA s (.slice a1 n1 c1) (.slice a2 n2 c2) (.slice a3 n3 c3)) HB1.out
  have HK1 : Hid _ := k1
  have HK2 : Hid _ := k2
  have HK3 : Hid _ := k3
  have HK4 : Hid _ := k4
  have HX2 : Hid _ := Grd.carry HX1.out k2
  have hlt1 := heap_lt k1
  clear HOW hV1 b1 k1 k2 k3 k4
  go_upto_region 2 with (refine wpList_store_row rfl 32 (.tmp 7) _ rfl V1.heap.size (scrA s (.slice a1 n1 c1) (.slice a2 n2 c2) (.slice a3 n3 c3)) rfl rfl _ _ HK4.out (by kernel_rfl) rfl (scr_one _ _ _ _ _ _ _ _ _ _) ?_)
  have HCF := HC.out V1 _ _ _ _ HB1.out ⟨HTB.out _ HK3.out, HV1.out, HK2.out, HBK.out.f⟩
  clear HK4
  generalize ((V1.alloc (.cells #[.int .i64 0, .int .i64 0, .slice none 0 0, .int .i64 0, .int .i64 0, .bool false, .int .i64 0, .int .i64 0, .int .i64 0, .int .i64 0, .int .i64 0, .int .i64 0, .slice none 0 0, .int .i64 0, .int .i64 0, .int .i64 0, .int .i64 0, .int .i64 0, .int .i64 0, .int .i32 0, .string ⟨#[]⟩, .slice none 0 0] 32)).setRow V1.heap.size (scrA s (.slice a1 n1 c1) (.slice a2 n2 c2) (.slice a3 n3 c3))) = X2 at *
  go_wp2_with (refine wpList_load_row rfl 32 (.tmp 7) rfl V1.heap.size rfl _ _ _ _ HK1.out Tryz.underlying32 rfl (by kernel_rfl) ?_)
  refine HCF.mono ?_
  rintro e V3 ⟨cv3, tv3, gv3, rfl, hO3, b3⟩
  obtain ⟨d1, m1, e1, d2, m2, e2, d3, m3, e3, rfl, rfl, rfl⟩ := hO3.shapes
  have HB3 : Hid (Below w.heap.size w V3) := HK3.out.trans (b3.mono HK3.out.size)
  have HX3 : Hid (V3.heap[w.heap.size]? = _) := Grd.carry HX2.out b3
  have HO3 : Hid (V3.heap[V1.heap.size]? = _) := Grd.carry HK1.out b3
  have HV3 : Hid (ScrV V3 s (.slice a1 n1 c1) (.slice a2 n2 c2) (.slice a3 n3 c3)) := (HV1.out.next HK2.out).next b3
  have HZ3 : Hid (ScrV V3 s' _ _ _) := hO3.scr
  obtain ⟨k1, k2, k3, k4⟩ := kept_v (A := scrA s' (.slice d1 m1 e1) (.slice d2 m2 e2) (.slice d3 m3 e3)) HB3.out
  have HL1 : Hid _ := k1
  have HL3 : Hid _ := k3
  have HL4 : Hid _ := k4
  have HX4 : Hid _ := Grd.carry HX3.out k2
  have HO4 : Hid _ := Grd.carry HO3.out k2
  have HV4 : Hid (ScrV _ s (.slice a1 n1 c1) (.slice a2 n2 c2) (.slice a3 n3 c3)) := HV3.out.next k2
  have HZ4 : Hid (ScrV _ s' (.slice d1 m1 e1) (.slice d2 m2 e2) (.slice d3 m3 e3)) := HZ3.out.next k2
  clear HCF hO3 b3 k1 k2 k3 k4 HC HK1 HK2 HK3 HX2 HX1 HX0 HV1 HB1 HKB
  go_upto_region 3 with (refine wpList_store_row rfl 32 (.tmp 8) _ rfl V3.heap.size (scrA s' (.slice d1 m1 e1) (.slice d2 m2 e2) (.slice d3 m3 e3)) rfl rfl _ _ HL4.out (by kernel_rfl) rfl (scr_one _ _ _ _ _ _ _ _ _ _) ?_)
  clear HL4 HX3 HO3 HV3 HZ3
  generalize ((V3.alloc (.cells #[.int .i64 0, .int .i64 0, .slice none 0 0, .int .i64 0, .int .i64 0, .bool false, .int .i64 0, .int .i64 0, .int .i64 0, .int .i64 0, .int .i64 0, .int .i64 0, .slice none 0 0, .int .i64 0, .int .i64 0, .int .i64 0, .int .i64 0, .int .i64 0, .int .i64 0, .int .i32 0, .string ⟨#[]⟩, .slice none 0 0] 32)).setRow V3.heap.size (scrA s' (.slice d1 m1 e1) (.slice d2 m2 e2) (.slice d3 m3 e3))) = X4 at *
  go_wp2_with fail
  refine (HP.out _ HL3.out).mono ?_
  rintro e V5 ⟨rfl, b5⟩
  have HB5 : Hid (Below w.heap.size w V5) := HL3.out.trans (b5.mono HL3.out.size)
  have HX5 : Hid (V5.heap[w.heap.size]? = _) := Grd.carry HX4.out b5
  have HO5 : Hid (V5.heap[V1.heap.size]? = _) := Grd.carry HO4.out b5
  have HL5 : Hid (V5.heap[V3.heap.size]? = _) := Grd.carry HL1.out b5
  have HV5 : Hid (ScrV V5 s (.slice a1 n1 c1) (.slice a2 n2 c2) (.slice a3 n3 c3)) := HV4.out.next b5
  have HZ5 : Hid (ScrV V5 s' (.slice d1 m1 e1) (.slice d2 m2 e2) (.slice d3 m3 e3)) := HZ4.out.next b5
  clear b5 HX4 HO4 HL1 HV4 HZ4 HL3
  go_wp2_with (first
    | (refine BigFrame.wpList_want rfl fun K hK => wp_load_row 32 (.tmp 7) rfl V1.heap.size rfl _ _ _ _ HO5.out Tryz.underlying32 rfl (by kernel_rfl) (hK _ _ ?_))
    | (refine BigFrame.wpList_want rfl fun K hK => wp_load_row 32 (.tmp 3) rfl w.heap.size rfl _ _ _ _ HX5.out Tryz.underlying32 rfl (by kernel_rfl) (hK _ _ ?_)))
  refine (sameScreen_any s _ _ _ cv tv gv V5 HV5.out (HV.out.next HB5.out) HBK.out.small).mono ?_
  rintro e V6 ⟨rfl, b6⟩
  have HB6 : Hid (Below w.heap.size w V6) := HB5.out.trans (b6.mono HB5.out.size)
  have HX6 : Hid (V6.heap[w.heap.size]? = _) := Grd.carry HX5.out b6
  have HL6 : Hid (V6.heap[V3.heap.size]? = _) := Grd.carry HL5.out b6
  have HZ6 : Hid (ScrV V6 s' (.slice d1 m1 e1) (.slice d2 m2 e2) (.slice d3 m3 e3)) := HZ5.out.next b6
  clear b6 HX5 HO5 HL5 HV5 HZ5 HB5
  go_wp2_with (refine wpList_load_row rfl 32 (.tmp 3) rfl w.heap.size rfl _ _ _ _ HX6.out Tryz.underlying32 rfl (by kernel_rfl) ?_)
  refine (HCK.out _ HB6.out).mono ?_
  rintro e V7 ⟨rfl, b7⟩
  have HB7 : Hid (Below w.heap.size w V7) := HB6.out.trans (b7.mono HB6.out.size)
  have HL7 : Hid (V7.heap[V3.heap.size]? = _) := Grd.carry HL6.out b7
  have HX7' : Hid (V7.heap[w.heap.size]? = _) := Grd.carry HX6.out b7
  have HZ7 : Hid (ScrV V7 s' (.slice d1 m1 e1) (.slice d2 m2 e2) (.slice d3 m3 e3)) := HZ6.out.next b7
  clear b7 HX6 HL6 HZ6 HB6
  go_upto_region 8 with fail
  have HX7 : Hid (V7.heap[w.heap.size]? = _) := HX7'.out
  go_wp2_with (refine wpList_load_row rfl 32 (.tmp 3) rfl w.heap.size rfl _ _ _ _ HX7.out Tryz.underlying32 rfl (by kernel_rfl) ?_)
  refine (take_any n hh s cv tv gv w V7 HV.out HB7.out HBK.out.f HRR.out.w HRR.out.h HRR.out.gz).mono ?_
  rintro e V8 ⟨p, rfl, hD8, b8⟩
  have HB8 : Hid (Below w.heap.size w V8) := HB7.out.trans (b8.mono HB7.out.size)
  have HDD := HDO.out V7.heap.size V8 p HB8.out HB7.out.size b8.size hD8
  have HB78 : Hid (Below V7.heap.size V7 V8) := b8
  clear b8 hD8
  go_wp2_with fail
  refine HDD.mono ?_
  rintro e V9 ⟨rfl, hD9, b9⟩
  have HB79 : Hid (Below V7.heap.size V7 V9) := HB78.out.trans b9
  have HB9 : Hid (Below w.heap.size w V9) := HB7.out.trans (HB79.out.mono HB7.out.size)
  have HGV : Hid (∀ W, Below V9.heap.size V9 W → Calls Tryz.prog 68 #[.pointer (some ⟨p, 0, none⟩)] W fun e W' => ∃ cv' tv' gv', e = .returned (.agg (scrA s' cv' tv' gv')) ∧ ScrV W' s' cv' tv' gv' ∧ Below W.heap.size W W') := fun W hW => by
    have h := give_any W _ p s2 rows2 (hD9.next hW) n hh HRR.out.n1 HRR.out.n2 HRR.out.h1 HRR.out.h2 HRL.out.1 HRL.out.2.1 _ rfl
    rw [HRL.out.2.2] at h
    exact h
  have HL9 : Hid (V9.heap[V3.heap.size]? = _) := Grd.carry HL7.out HB79.out
  have HZ9 : Hid (ScrV V9 s' (.slice d1 m1 e1) (.slice d2 m2 e2) (.slice d3 m3 e3)) := HZ7.out.next HB79.out
  clear b9 hD9 HDD HL7 HZ7 HX7 HX7' HB7 HB8 HB78 HB79 HCK HDO HP HTB
  go_upto_region 10 with fail
  have SK : Hid (∀ w', Below V9.heap.size V9 w' → Below V9.heap.size V9 w' ∧ ScrPtr w' (.pointer (some ⟨V3.heap.size, 0, none⟩)) ∧ blkAt w' (.pointer (some ⟨V3.heap.size, 0, none⟩)) = scrA s' (.slice d1 m1 e1) (.slice d2 m2 e2) (.slice d3 m3 e3)) := fun w' hb => by
    have hx := Grd.carry HL9.out hb
    exact ⟨hb, (scrPtr_of hx).1, (scrPtr_of hx).2⟩
  have b0 : Below V9.heap.size V9 V9.drew := (Below.refl _ _).drew
  go_region_held3 (fun w' => Below V9.heap.size V9 w' ∧ ScrPtr w' (.pointer (some ⟨V3.heap.size, 0, none⟩)) ∧ blkAt w' (.pointer (some ⟨V3.heap.size, 0, none⟩)) = scrA s' (.slice d1 m1 e1) (.slice d2 m2 e2) (.slice d3 m3 e3))
    (first | exact SK.out _ q2 | exact SK.out _ q1 | exact SK.out _ b0)
    (first
      | (go_at_call 64; refine (sameScreen_any s' _ _ _ _ _ _ _ (HZ9.out.next q1) HG1.out HSM.out).mono ?_; rintro e U2 ⟨rfl, g2⟩; have q2 := q1.trans (g2.mono q1.size); clear g2)
      | (go_at_call 68; refine (HGV.out _ b0).mono ?_; rintro e U1 ⟨y1, y2, y3, rfl, hG1, g1⟩; have q1 := b0.trans (g1.mono b0.size); have HG1 : Hid (ScrV U1 s' y1 y2 y3) := hG1; clear g1 hG1))
  go_wp2_with fail
  go_ret
  exact ⟨rfl, HB9.out.trans (q2.mono HB9.out.size)⟩
end
end Put
end Go.Proofs.YtnkeahfcpbepjaaGreatDoor

/- trellislaw.acts and one: a call, and what a name says. -/
namespace Go.Proofs.YtnkeahfcpbepjaaGreatDoor
set_option linter.unusedVariables false
open Go.ChangeShapes Go.WideShapes Go.ChangeAt Go.RowKit
namespace Put
open Grd (C SliceAt CellsAt gridErr z0 nilV rowsL RowsAt RowB flat)
theorem cell_box {W : World} {R : Nat} {v : Value} {t : TypeId} (h : W.heap[R]? = some (.cells #[v] t (0, 0))) : W.cell? ⟨R, 0, none⟩ = some v := by simp [World.cell?, h]
/-- What a name does to a desk. -/
def ActMakes (what : ByteArray) (n m : Int) (s s2 : Scr) (rows rows2 : List (List C)) : Prop :=
  ∀ N W p, N ≤ W.heap.size → DkAt W N p s rows → Calls Tryz.prog 39 #[.pointer (some ⟨p, 0, none⟩), .string what, .int .i64 n, .int .i64 m] W fun e W' => e = .returned (.tuple #[]) ∧ DkAt W' N p s2 rows2 ∧ Below N W W'
theorem plain_acts : Plain 38 := by
  intro args W
  kernel_rfl
set_option maxHeartbeats 1000000 in
theorem acts1_acts {what : ByteArray} {n m : Int} {s s2 : Scr} {rows rows2 : List (List C)} (h : ActMakes what n m s s2 rows rows2) (B1 B2 B3 : Nat) (w : World) (h1 : w.cell? ⟨B1, 0, none⟩ = some (.string what)) (h2 : w.cell? ⟨B2, 0, none⟩ = some (.int .i64 n)) (h3 : w.cell? ⟨B3, 0, none⟩ = some (.int .i64 m)) :
    Acts 38 #[.pointer (some ⟨B1, 0, none⟩), .pointer (some ⟨B2, 0, none⟩), .pointer (some ⟨B3, 0, none⟩)] w s s2 rows rows2 := by
  intro N W p hb hN hN2 hD
  have q1 := cell_stay hb h1
  have q2 := cell_stay hb h2
  have q3 := cell_stay hb h3
  have H := h N W p hN2 hD
  clear h hD h1 h2 h3 hb
  show Calls _ _ #[.pointer (some ⟨p, 0, none⟩), .pointer (some ⟨B1, 0, none⟩), .pointer (some ⟨B2, 0, none⟩), .pointer (some ⟨B3, 0, none⟩)] _ _
  go_enter Tryz.func38, Tryz.ntmps38
  go_wp2_with fail
  refine H.mono ?_
  rintro e W1 ⟨rfl, hD1, b1⟩
  go_wp2_with fail
  go_end0
  exact ⟨rfl, hD1, b1⟩
set_option maxHeartbeats 2000000 in
set_option maxRecDepth 100000 in
theorem acts_calls (s : Scr) (cv tv gv fv : Value) (what : ByteArray) (n m : Int) (w : World) (hV : ScrV w s cv tv gv)
    (hD : ∀ W B1 B2 B3, Below w.heap.size w W → W.cell? ⟨B1, 0, none⟩ = some (.string what) → W.cell? ⟨B2, 0, none⟩ = some (.int .i64 n) → W.cell? ⟨B3, 0, none⟩ = some (.int .i64 m) → Calls Tryz.prog 26 #[.agg (scrA s cv tv gv), fv, .func (.func 38) #[] #[.pointer (some ⟨B1, 0, none⟩), .pointer (some ⟨B2, 0, none⟩), .pointer (some ⟨B3, 0, none⟩)]] W fun e w' => e = .returned (.bool true) ∧ Below W.heap.size W w') :
    Calls Tryz.prog 12 #[.agg (scrA s cv tv gv), fv, .string what, .int .i64 n, .int .i64 m] w fun e w' => e = .returned (.bool true) ∧ Below w.heap.size w w' := by
  obtain ⟨ca, cc, rfl⟩ := hV.c.shape
  obtain ⟨ta, tc, rfl⟩ := hV.t.slice
  obtain ⟨ga, gc, rfl⟩ := hV.g.slice
  have hkb : Below w.heap.size w ((((w.alloc (.cells (scrA s (.slice ca s.cs.length cc) (.slice ta s.tabs.length tc) (.slice ga s.gone.length gc)) 32)).alloc (.cells #[.string what] 9)).alloc (.cells #[.int .i64 n] 3)).alloc (.cells #[.int .i64 m] 3)) := (((((Below.refl _ _).alloc (by simp) _).alloc (by simp) _).alloc (by simp; omega) _).alloc (by simp; omega) _)
  have hx0 : (w.alloc (.cells (scrA s (.slice ca s.cs.length cc) (.slice ta s.tabs.length tc) (.slice ga s.gone.length gc)) 32)).heap[w.heap.size]? = some (.cells (scrA s (.slice ca s.cs.length cc) (.slice ta s.tabs.length tc) (.slice ga s.gone.length gc)) 32 (0, 0)) := by
    have h := heap_alloc_new w (.cells (scrA s (.slice ca s.cs.length cc) (.slice ta s.tabs.length tc) (.slice ga s.gone.length gc)) 32)
    have e : w.heap.size = w.heap.size := by simp
    rw [e] at h
    exact h
  have hx0 := (Below.heap_alloc (w.alloc (.cells (scrA s (.slice ca s.cs.length cc) (.slice ta s.tabs.length tc) (.slice ga s.gone.length gc)) 32)) (.cells #[.string what] 9) _ (heap_lt hx0)).trans hx0
  have hx0 := (Below.heap_alloc ((w.alloc (.cells (scrA s (.slice ca s.cs.length cc) (.slice ta s.tabs.length tc) (.slice ga s.gone.length gc)) 32)).alloc (.cells #[.string what] 9)) (.cells #[.int .i64 n] 3) _ (heap_lt hx0)).trans hx0
  have hx0 := (Below.heap_alloc (((w.alloc (.cells (scrA s (.slice ca s.cs.length cc) (.slice ta s.tabs.length tc) (.slice ga s.gone.length gc)) 32)).alloc (.cells #[.string what] 9)).alloc (.cells #[.int .i64 n] 3)) (.cells #[.int .i64 m] 3) _ (heap_lt hx0)).trans hx0
  have hx1 : ((w.alloc (.cells (scrA s (.slice ca s.cs.length cc) (.slice ta s.tabs.length tc) (.slice ga s.gone.length gc)) 32)).alloc (.cells #[.string what] 9)).heap[w.heap.size + 1]? = some (.cells #[.string what] 9 (0, 0)) := by
    have h := heap_alloc_new (w.alloc (.cells (scrA s (.slice ca s.cs.length cc) (.slice ta s.tabs.length tc) (.slice ga s.gone.length gc)) 32)) (.cells #[.string what] 9)
    have e : (w.alloc (.cells (scrA s (.slice ca s.cs.length cc) (.slice ta s.tabs.length tc) (.slice ga s.gone.length gc)) 32)).heap.size = w.heap.size + 1 := by simp
    rw [e] at h
    exact h
  have hx1 := (Below.heap_alloc ((w.alloc (.cells (scrA s (.slice ca s.cs.length cc) (.slice ta s.tabs.length tc) (.slice ga s.gone.length gc)) 32)).alloc (.cells #[.string what] 9)) (.cells #[.int .i64 n] 3) _ (heap_lt hx1)).trans hx1
  have hx1 := (Below.heap_alloc (((w.alloc (.cells (scrA s (.slice ca s.cs.length cc) (.slice ta s.tabs.length tc) (.slice ga s.gone.length gc)) 32)).alloc (.cells #[.string what] 9)).alloc (.cells #[.int .i64 n] 3)) (.cells #[.int .i64 m] 3) _ (heap_lt hx1)).trans hx1
  have hx2 : (((w.alloc (.cells (scrA s (.slice ca s.cs.length cc) (.slice ta s.tabs.length tc) (.slice ga s.gone.length gc)) 32)).alloc (.cells #[.string what] 9)).alloc (.cells #[.int .i64 n] 3)).heap[w.heap.size + 2]? = some (.cells #[.int .i64 n] 3 (0, 0)) := by
    have h := heap_alloc_new ((w.alloc (.cells (scrA s (.slice ca s.cs.length cc) (.slice ta s.tabs.length tc) (.slice ga s.gone.length gc)) 32)).alloc (.cells #[.string what] 9)) (.cells #[.int .i64 n] 3)
    have e : ((w.alloc (.cells (scrA s (.slice ca s.cs.length cc) (.slice ta s.tabs.length tc) (.slice ga s.gone.length gc)) 32)).alloc (.cells #[.string what] 9)).heap.size = w.heap.size + 2 := by simp
    rw [e] at h
    exact h
  have hx2 := (Below.heap_alloc (((w.alloc (.cells (scrA s (.slice ca s.cs.length cc) (.slice ta s.tabs.length tc) (.slice ga s.gone.length gc)) 32)).alloc (.cells #[.string what] 9)).alloc (.cells #[.int .i64 n] 3)) (.cells #[.int .i64 m] 3) _ (heap_lt hx2)).trans hx2
  have hx3 : ((((w.alloc (.cells (scrA s (.slice ca s.cs.length cc) (.slice ta s.tabs.length tc) (.slice ga s.gone.length gc)) 32)).alloc (.cells #[.string what] 9)).alloc (.cells #[.int .i64 n] 3)).alloc (.cells #[.int .i64 m] 3)).heap[w.heap.size + 3]? = some (.cells #[.int .i64 m] 3 (0, 0)) := by
    have h := heap_alloc_new (((w.alloc (.cells (scrA s (.slice ca s.cs.length cc) (.slice ta s.tabs.length tc) (.slice ga s.gone.length gc)) 32)).alloc (.cells #[.string what] 9)).alloc (.cells #[.int .i64 n] 3)) (.cells #[.int .i64 m] 3)
    have e : (((w.alloc (.cells (scrA s (.slice ca s.cs.length cc) (.slice ta s.tabs.length tc) (.slice ga s.gone.length gc)) 32)).alloc (.cells #[.string what] 9)).alloc (.cells #[.int .i64 n] 3)).heap.size = w.heap.size + 3 := by simp
    rw [e] at h
    exact h
  have HX0 : Hid _ := hx0
  have HKB : Hid _ := hkb
  have HC := hD _ (w.heap.size + 1) (w.heap.size + 2) (w.heap.size + 3) hkb (cell_box hx1) (cell_box hx2) (cell_box hx3)
  clear hkb hV hD hx0 hx1 hx2 hx3
  go_enter Tryz.func12, Tryz.ntmps12
  go_upto_region 1 with fail
  generalize ((((w.alloc (.cells (scrA s (.slice ca s.cs.length cc) (.slice ta s.tabs.length tc) (.slice ga s.gone.length gc)) 32)).alloc (.cells #[.string what] 9)).alloc (.cells #[.int .i64 n] 3)).alloc (.cells #[.int .i64 m] 3)) = X at *
  go_wp2_with (refine wpList_load_row rfl 32 (.tmp 5) rfl w.heap.size rfl _ _ _ _ HX0.out Tryz.underlying32 rfl (by kernel_rfl) ?_)
  refine HC.mono ?_
  rintro e V ⟨rfl, b⟩
  have HB : Hid (Below w.heap.size w V) := HKB.out.trans (b.mono HKB.out.size)
  clear HC b
  go_wp2_with fail
  go_ret
  exact ⟨rfl, HB.out⟩
set_option maxHeartbeats 2000000 in
set_option maxRecDepth 100000 in
theorem one1_calls (s s' : Scr) (cv tv gv : Value) (cf : FuncId) (hcf : Plain cf) (n : Int) (B1 B2 : Nat) (er : Int) (w0 w : World) (hV : ScrV w0 s cv tv gv) (hM : w0.heap.size ≤ w.heap.size) (h1 : w.cell? ⟨B1, 0, none⟩ = some (.func (.func cf) #[] #[])) (h2 : w.cell? ⟨B2, 0, none⟩ = some (.int .i64 n))
    (hC : ∀ W, Below w.heap.size w W → Calls Tryz.prog cf #[.agg (scrA s cv tv gv), .int .i64 n] W (Made w0 W s' er)) :
    Calls Tryz.prog 32 #[.agg (scrA s cv tv gv), .pointer (some ⟨B1, 0, none⟩), .pointer (some ⟨B2, 0, none⟩)] w (Made w0 w s' er) := by
  obtain ⟨ca, cc, rfl⟩ := hV.c.shape
  obtain ⟨ta, tc, rfl⟩ := hV.t.slice
  obtain ⟨ga, gc, rfl⟩ := hV.g.slice
  have hkb : Below w.heap.size w ((w.alloc (.cells (scrA s (.slice ca s.cs.length cc) (.slice ta s.tabs.length tc) (.slice ga s.gone.length gc)) 32)).alloc (.cells #[.int .i64 0, .int .i64 0, .slice none 0 0, .int .i64 0, .int .i64 0, .bool false, .int .i64 0, .int .i64 0, .int .i64 0, .int .i64 0, .int .i64 0, .int .i64 0, .slice none 0 0, .int .i64 0, .int .i64 0, .int .i64 0, .int .i64 0, .int .i64 0, .int .i64 0, .int .i32 0, .string ⟨#[]⟩, .slice none 0 0] 32)) := (((Below.refl _ _).alloc (by simp) _).alloc (by simp) _)
  have hx0 : (w.alloc (.cells (scrA s (.slice ca s.cs.length cc) (.slice ta s.tabs.length tc) (.slice ga s.gone.length gc)) 32)).heap[w.heap.size]? = some (.cells (scrA s (.slice ca s.cs.length cc) (.slice ta s.tabs.length tc) (.slice ga s.gone.length gc)) 32 (0, 0)) := by
    have h := heap_alloc_new w (.cells (scrA s (.slice ca s.cs.length cc) (.slice ta s.tabs.length tc) (.slice ga s.gone.length gc)) 32)
    have e : w.heap.size = w.heap.size := by simp
    rw [e] at h
    exact h
  have hx0 := (Below.heap_alloc (w.alloc (.cells (scrA s (.slice ca s.cs.length cc) (.slice ta s.tabs.length tc) (.slice ga s.gone.length gc)) 32)) (.cells #[.int .i64 0, .int .i64 0, .slice none 0 0, .int .i64 0, .int .i64 0, .bool false, .int .i64 0, .int .i64 0, .int .i64 0, .int .i64 0, .int .i64 0, .int .i64 0, .slice none 0 0, .int .i64 0, .int .i64 0, .int .i64 0, .int .i64 0, .int .i64 0, .int .i64 0, .int .i32 0, .string ⟨#[]⟩, .slice none 0 0] 32) _ (heap_lt hx0)).trans hx0
  have hx1 : ((w.alloc (.cells (scrA s (.slice ca s.cs.length cc) (.slice ta s.tabs.length tc) (.slice ga s.gone.length gc)) 32)).alloc (.cells #[.int .i64 0, .int .i64 0, .slice none 0 0, .int .i64 0, .int .i64 0, .bool false, .int .i64 0, .int .i64 0, .int .i64 0, .int .i64 0, .int .i64 0, .int .i64 0, .slice none 0 0, .int .i64 0, .int .i64 0, .int .i64 0, .int .i64 0, .int .i64 0, .int .i64 0, .int .i32 0, .string ⟨#[]⟩, .slice none 0 0] 32)).heap[w.heap.size + 1]? = some (.cells #[.int .i64 0, .int .i64 0, .slice none 0 0, .int .i64 0, .int .i64 0, .bool false, .int .i64 0, .int .i64 0, .int .i64 0, .int .i64 0, .int .i64 0, .int .i64 0, .slice none 0 0, .int .i64 0, .int .i64 0, .int .i64 0, .int .i64 0, .int .i64 0, .int .i64 0, .int .i32 0, .string ⟨#[]⟩, .slice none 0 0] 32 (0, 0)) := by
    have h := heap_alloc_new (w.alloc (.cells (scrA s (.slice ca s.cs.length cc) (.slice ta s.tabs.length tc) (.slice ga s.gone.length gc)) 32)) (.cells #[.int .i64 0, .int .i64 0, .slice none 0 0, .int .i64 0, .int .i64 0, .bool false, .int .i64 0, .int .i64 0, .int .i64 0, .int .i64 0, .int .i64 0, .int .i64 0, .slice none 0 0, .int .i64 0, .int .i64 0, .int .i64 0, .int .i64 0, .int .i64 0, .int .i64 0, .int .i32 0, .string ⟨#[]⟩, .slice none 0 0] 32)
    have e : (w.alloc (.cells (scrA s (.slice ca s.cs.length cc) (.slice ta s.tabs.length tc) (.slice ga s.gone.length gc)) 32)).heap.size = w.heap.size + 1 := by simp
    rw [e] at h
    exact h
  have HX0 : Hid _ := hx0
  have HXR : Hid _ := hx1
  have HKB : Hid _ := hkb
  have HC := hC _ hkb
  have q1 := cell_stay hkb h1
  have q2 := cell_stay hkb h2
  have hsz : w.heap.size ≤ ((w.alloc (.cells (scrA s (.slice ca s.cs.length cc) (.slice ta s.tabs.length tc) (.slice ga s.gone.length gc)) 32)).alloc (.cells #[.int .i64 0, .int .i64 0, .slice none 0 0, .int .i64 0, .int .i64 0, .bool false, .int .i64 0, .int .i64 0, .int .i64 0, .int .i64 0, .int .i64 0, .int .i64 0, .slice none 0 0, .int .i64 0, .int .i64 0, .int .i64 0, .int .i64 0, .int .i64 0, .int .i64 0, .int .i32 0, .string ⟨#[]⟩, .slice none 0 0] 32)).heap.size := hkb.size
  unfold Plain at hcf
  clear hkb hV hC hx0 hx1 h1 h2
  go_enter Tryz.func32, Tryz.ntmps32
  go_upto_region 1 with fail
  generalize ((w.alloc (.cells (scrA s (.slice ca s.cs.length cc) (.slice ta s.tabs.length tc) (.slice ga s.gone.length gc)) 32)).alloc (.cells #[.int .i64 0, .int .i64 0, .slice none 0 0, .int .i64 0, .int .i64 0, .bool false, .int .i64 0, .int .i64 0, .int .i64 0, .int .i64 0, .int .i64 0, .int .i64 0, .slice none 0 0, .int .i64 0, .int .i64 0, .int .i64 0, .int .i64 0, .int .i64 0, .int .i64 0, .int .i32 0, .string ⟨#[]⟩, .slice none 0 0] 32)) = X at *
  go_wp2_with (refine wpList_load_row rfl 32 (.tmp 3) rfl w.heap.size rfl _ _ _ _ HX0.out Tryz.underlying32 rfl (by kernel_rfl) ?_)
  refine HC.mono ?_
  rintro e V ⟨cv', tv', gv', rfl, hO, c2⟩
  obtain ⟨a1, n1, c1, a2, n2, c2', a3, n3, c3, rfl, rfl, rfl⟩ := hO.shapes
  have HO : Hid (ScrO V 0 _ s' _ _ _) := hO
  have HR : Hid (V.heap[w.heap.size + 1]? = _) := Grd.carry HXR.out c2
  have HB : Hid (Below w.heap.size w V) := HKB.out.trans (c2.mono HKB.out.size)
  clear hO c2 HC q1 q2
  go_wp2_with (refine wpList_store_row rfl 32 (.tmp 4) (.tmp 10) rfl (w.heap.size + 1) (scrA s' (.slice a1 n1 c1) (.slice a2 n2 c2') (.slice a3 n3 c3)) rfl rfl _ _ HR.out (by kernel_rfl) rfl (scr_one _ _ _ _ _ _ _ _ _ _) ?_)
  (try simp only [Exit.inBlock, Exit.then])
  refine bodyPost_ret (v := .tuple #[.agg (scrA s' (.slice a1 n1 c1) (.slice a2 n2 c2') (.slice a3 n3 c3)), .int .i64 er]) ?_ rfl ⟨_, _, _, rfl, ?_, below_setRow HB.out (by omega) _⟩
  · exact Grd.results_row_tmp rfl _ _ (w.heap.size + 1) _ _ _ _ rfl (setRow_heap _ _ _ _ _ _ HR.out) Tryz.underlying32 rfl (by kernel_rfl) _ rfl
  · exact (ScrO.off HO.out HR.out screen_is (by omega) fun k hk => setRow_other _ _ _ _ hk).mono hsz
set_option maxHeartbeats 2000000 in
set_option maxRecDepth 100000 in
theorem one_calls (s : Scr) (cv tv gv : Value) (cf : FuncId) (what : ByteArray) (n : Int) (w : World) (hV : ScrV w s cv tv gv)
    (hD : ∀ W B1 B2, Below w.heap.size w W → W.cell? ⟨B1, 0, none⟩ = some (.func (.func cf) #[] #[]) → W.cell? ⟨B2, 0, none⟩ = some (.int .i64 n) → Calls Tryz.prog 12 #[.agg (scrA s cv tv gv), .func (.func 32) #[] #[.pointer (some ⟨B1, 0, none⟩), .pointer (some ⟨B2, 0, none⟩)], .string what, .int .i64 n, .int .i64 0] W fun e w' => e = .returned (.bool true) ∧ Below W.heap.size W w') :
    Calls Tryz.prog 8 #[.agg (scrA s cv tv gv), .func (.func cf) #[] #[], .string what, .int .i64 n] w fun e w' => e = .returned (.bool true) ∧ Below w.heap.size w w' := by
  obtain ⟨ca, cc, rfl⟩ := hV.c.shape
  obtain ⟨ta, tc, rfl⟩ := hV.t.slice
  obtain ⟨ga, gc, rfl⟩ := hV.g.slice
  have hkb : Below w.heap.size w (((w.alloc (.cells (scrA s (.slice ca s.cs.length cc) (.slice ta s.tabs.length tc) (.slice ga s.gone.length gc)) 32)).alloc (.cells #[.func (.func cf) #[] #[]] 34)).alloc (.cells #[.int .i64 n] 3)) := ((((Below.refl _ _).alloc (by simp) _).alloc (by simp) _).alloc (by simp; omega) _)
  have hx0 : (w.alloc (.cells (scrA s (.slice ca s.cs.length cc) (.slice ta s.tabs.length tc) (.slice ga s.gone.length gc)) 32)).heap[w.heap.size]? = some (.cells (scrA s (.slice ca s.cs.length cc) (.slice ta s.tabs.length tc) (.slice ga s.gone.length gc)) 32 (0, 0)) := by
    have h := heap_alloc_new w (.cells (scrA s (.slice ca s.cs.length cc) (.slice ta s.tabs.length tc) (.slice ga s.gone.length gc)) 32)
    have e : w.heap.size = w.heap.size := by simp
    rw [e] at h
    exact h
  have hx0 := (Below.heap_alloc (w.alloc (.cells (scrA s (.slice ca s.cs.length cc) (.slice ta s.tabs.length tc) (.slice ga s.gone.length gc)) 32)) (.cells #[.func (.func cf) #[] #[]] 34) _ (heap_lt hx0)).trans hx0
  have hx0 := (Below.heap_alloc ((w.alloc (.cells (scrA s (.slice ca s.cs.length cc) (.slice ta s.tabs.length tc) (.slice ga s.gone.length gc)) 32)).alloc (.cells #[.func (.func cf) #[] #[]] 34)) (.cells #[.int .i64 n] 3) _ (heap_lt hx0)).trans hx0
  have hx1 : ((w.alloc (.cells (scrA s (.slice ca s.cs.length cc) (.slice ta s.tabs.length tc) (.slice ga s.gone.length gc)) 32)).alloc (.cells #[.func (.func cf) #[] #[]] 34)).heap[w.heap.size + 1]? = some (.cells #[.func (.func cf) #[] #[]] 34 (0, 0)) := by
    have h := heap_alloc_new (w.alloc (.cells (scrA s (.slice ca s.cs.length cc) (.slice ta s.tabs.length tc) (.slice ga s.gone.length gc)) 32)) (.cells #[.func (.func cf) #[] #[]] 34)
    have e : (w.alloc (.cells (scrA s (.slice ca s.cs.length cc) (.slice ta s.tabs.length tc) (.slice ga s.gone.length gc)) 32)).heap.size = w.heap.size + 1 := by simp
    rw [e] at h
    exact h
  have hx1 := (Below.heap_alloc ((w.alloc (.cells (scrA s (.slice ca s.cs.length cc) (.slice ta s.tabs.length tc) (.slice ga s.gone.length gc)) 32)).alloc (.cells #[.func (.func cf) #[] #[]] 34)) (.cells #[.int .i64 n] 3) _ (heap_lt hx1)).trans hx1
  have hx2 : (((w.alloc (.cells (scrA s (.slice ca s.cs.length cc) (.slice ta s.tabs.length tc) (.slice ga s.gone.length gc)) 32)).alloc (.cells #[.func (.func cf) #[] #[]] 34)).alloc (.cells #[.int .i64 n] 3)).heap[w.heap.size + 2]? = some (.cells #[.int .i64 n] 3 (0, 0)) := by
    have h := heap_alloc_new ((w.alloc (.cells (scrA s (.slice ca s.cs.length cc) (.slice ta s.tabs.length tc) (.slice ga s.gone.length gc)) 32)).alloc (.cells #[.func (.func cf) #[] #[]] 34)) (.cells #[.int .i64 n] 3)
    have e : ((w.alloc (.cells (scrA s (.slice ca s.cs.length cc) (.slice ta s.tabs.length tc) (.slice ga s.gone.length gc)) 32)).alloc (.cells #[.func (.func cf) #[] #[]] 34)).heap.size = w.heap.size + 2 := by simp
    rw [e] at h
    exact h
  have HX0 : Hid _ := hx0
  have HKB : Hid _ := hkb
  have HC := hD _ (w.heap.size + 1) (w.heap.size + 2) hkb (cell_box hx1) (cell_box hx2)
  have q2 := cell_box hx2
  clear hkb hV hD hx0 hx1 hx2
  go_enter Tryz.func8, Tryz.ntmps8
  go_upto_region 1 with fail
  generalize (((w.alloc (.cells (scrA s (.slice ca s.cs.length cc) (.slice ta s.tabs.length tc) (.slice ga s.gone.length gc)) 32)).alloc (.cells #[.func (.func cf) #[] #[]] 34)).alloc (.cells #[.int .i64 n] 3)) = X at *
  go_wp2_with (refine wpList_load_row rfl 32 (.tmp 4) rfl w.heap.size rfl _ _ _ _ HX0.out Tryz.underlying32 rfl (by kernel_rfl) ?_)
  refine HC.mono ?_
  rintro e V ⟨rfl, b⟩
  have HB : Hid (Below w.heap.size w V) := HKB.out.trans (b.mono HKB.out.size)
  clear HC b q2
  go_wp2_with fail
  go_ret
  exact ⟨rfl, HB.out⟩
theorem plain_one : Plain 32 := by
  intro args W
  kernel_rfl
/-- What a call makes, and what is to be done, of a right screen. -/
def Agrees (what : ByteArray) (n m : Int) (s s' : Scr) (nn hh : Nat) : Prop := Small s' ∧ ∃ s2 rows2, ActMakes what n m s s2 (rowsL nn s.cs hh) rows2 ∧ rows2.length = hh ∧ (∀ i, i < rows2.length → (rows2.getD i []).length = nn) ∧ { s2 with w := (nn : Int), h := (hh : Int), cs := rows2.flatten } = s'
/-- A call, by a name. -/
theorem acts_any (s : Scr) (cv tv gv : Value) (cf : FuncId) (hcf : Plain cf) (ccaps : Array Value) (what : ByteArray) (n m : Int) (w : World) (hT : Txt.Tab w) (hV : ScrV w s cv tv gv) (hB : Bulk s) (s' : Scr)
    (hbad : scrErr s ≠ 0 → ∀ w0 W cv tv gv, Below w.heap.size w w0 → Met w0 W s cv tv gv → Calls Tryz.prog cf (#[.agg (scrA s cv tv gv)] ++ ccaps) W (Made w0 W zScr (scrErr s)))
    (hgood : ∀ nn hh, RightS s nn hh → (∀ w0 W cv tv gv, Below w.heap.size w w0 → Met w0 W s cv tv gv → Calls Tryz.prog cf (#[.agg (scrA s cv tv gv)] ++ ccaps) W (Made w0 W s' 0)) ∧ Agrees what n m s s' nn hh) :
    Calls Tryz.prog 12 #[.agg (scrA s cv tv gv), .func (.func cf) #[] ccaps, .string what, .int .i64 n, .int .i64 m] w fun e w' => e = .returned (.bool true) ∧ Below w.heap.size w w' :=
  acts_calls s cv tv gv _ what n m w hV fun W B1 B2 B3 hW h1 h2 h3 => by
    by_cases hz : scrErr s = 0
    · obtain ⟨nn, hh, hR⟩ := right_of s hz
      obtain ⟨hc, hS, s2, rows2, hA, hrl, hrn, heq⟩ := hgood nn hh hR
      exact does_good s s' s2 nn hh rows2 cv tv gv cf _ ccaps _ hcf plain_acts W (Grd.Tab.next hT hW) (hV.next hW) hB hR hz hS (acts1_acts hA B1 B2 B3 W h1 h2 h3) hrl hrn heq fun w0 W' cv' tv' gv' hb hm => hc w0 W' cv' tv' gv' (hW.trans (hb.mono hW.size)) hm
    · exact does_bad s cv tv gv cf ccaps _ hcf W (Grd.Tab.next hT hW) (hV.next hW) hB hz fun w0 W' cv' tv' gv' hb hm => hbad hz w0 W' cv' tv' gv' (hW.trans (hb.mono hW.size)) hm
/-- A call with one number, by a name. -/
theorem one_any (s : Scr) (cv tv gv : Value) (cf : FuncId) (hcf : Plain cf) (what : ByteArray) (n : Int) (w : World) (hT : Txt.Tab w) (hV : ScrV w s cv tv gv) (hB : Bulk s) (s' : Scr)
    (hbad : scrErr s ≠ 0 → ∀ w0 W cv tv gv, Met w0 W s cv tv gv → Calls Tryz.prog cf #[.agg (scrA s cv tv gv), .int .i64 n] W (Made w0 W zScr (scrErr s)))
    (hgood : ∀ nn hh, RightS s nn hh → (∀ w0 W cv tv gv, Met w0 W s cv tv gv → Calls Tryz.prog cf #[.agg (scrA s cv tv gv), .int .i64 n] W (Made w0 W s' 0)) ∧ Agrees what n 0 s s' nn hh) :
    Calls Tryz.prog 8 #[.agg (scrA s cv tv gv), .func (.func cf) #[] #[], .string what, .int .i64 n] w fun e w' => e = .returned (.bool true) ∧ Below w.heap.size w w' :=
  one_calls s cv tv gv cf what n w hV fun W B1 B2 hW h1 h2 =>
    acts_any s cv tv gv _ plain_one _ what n 0 W (Grd.Tab.next hT hW) (hV.next hW) hB s'
      (fun hz w0 W' cv' tv' gv' hb hm => one1_calls s zScr cv' tv' gv' cf hcf n B1 B2 _ w0 W' hm.v hm.b.size (cell_stay (hb.trans (hm.b.mono hb.size)) h1) (cell_stay (hb.trans (hm.b.mono hb.size)) h2) fun V hV' => hbad hz w0 V cv' tv' gv' (hm.next hV'))
      (fun nn hh hR => ⟨fun w0 W' cv' tv' gv' hb hm => one1_calls s s' cv' tv' gv' cf hcf n B1 B2 _ w0 W' hm.v hm.b.size (cell_stay (hb.trans (hm.b.mono hb.size)) h1) (cell_stay (hb.trans (hm.b.mono hb.size)) h2) fun V hV' => (hgood nn hh hR).1 w0 V cv' tv' gv' (hm.next hV'), (hgood nn hh hR).2⟩)
end Put
end Go.Proofs.YtnkeahfcpbepjaaGreatDoor

/- The desk's empty; Act: line, chars. -/
namespace Go.Proofs.YtnkeahfcpbepjaaGreatDoor
open Go.ChangeShapes Go.WideShapes Go.ChangeAt Go.RowKit
namespace Put
open Grd (C SliceAt CellsAt gridErr z0 nilV rowsL RowsAt RowB flat words putRow mendL RightRow OwnG)
open Sty (isSt)
set_option maxHeartbeats 4000000 in
theorem empty_any (p n : Nat) (bk : Int) (W : World) (h0 : W.cell? ⟨p, 0, none⟩ = some (.int .i64 (n : Int))) (h7 : W.cell? ⟨p, 7, none⟩ = some (.int .i64 bk)) (hn1 : 1 ≤ n) (hn2 : n ≤ 120) :
    Calls Tryz.prog 95 #[.pointer (some ⟨p, 0, none⟩)] W fun e W' => ∃ v g, e = .returned v ∧ W.heap.size ≤ g ∧ RowB W' g v (List.replicate n (32, 0, bk, 0)) ∧ Below W.heap.size W W' := by
  have b0 : Below W.heap.size W W.drew := (Below.refl _ _).drew
  have s0 := cell_stay b0 h0
  have HB : Hid (∀ V, Below W.heap.size W V → Calls Tryz.prog 99 #[.pointer (some ⟨p, 0, none⟩)] V fun e V' => e = .returned (.agg #[.int .i32 32, .int .i64 0, .int .i64 bk, .int .i64 0]) ∧ Below V.heap.size V V') := fun V hV => dblank_any p bk V (cell_stay hV h7)
  have H0 : Hid (W.cell? ⟨p, 0, none⟩ = some (.int .i64 (n : Int))) := h0
  have HRP : Hid (∀ V : World, Calls Tryz.prog 98 #[.slice (some ⟨V.heap.size, 0, none⟩) 1 1, .int .i64 (n : Int)] (V.alloc (.cells #[.int .i32 32, .int .i64 0, .int .i64 bk, .int .i64 0] 91)) fun e w' => ∃ v', e = .returned v' ∧ OwnG w' (V.alloc (.cells #[.int .i32 32, .int .i64 0, .int .i64 bk, .int .i64 0] 91)).heap.size v' (List.replicate n (32, 0, bk, 0)) ∧ Below (V.alloc (.cells #[.int .i32 32, .int .i64 0, .int .i64 bk, .int .i64 0] 91)).heap.size (V.alloc (.cells #[.int .i32 32, .int .i64 0, .int .i64 bk, .int .i64 0] 91)) w') := fun V => Grd.repeat_one V.heap.size 0 1 n (32, 0, bk, 0) _ (Grd.cellsAt_flat (rest := []) (t := 91) (heap_alloc_new V _)) hn1 (by omega)
  clear h0 h7
  go_enter Tryz.func95, Tryz.ntmps95
  go_upto_region 1 with fail
  go_region_held3 (fun w' => w'.cell? ⟨p, 0, none⟩ = some (.int .i64 (n : Int)))
    (first | exact s3 | exact s2 | exact s1 | exact s0)
    (first
      | (go_at_call 98; refine (HRP.out V1).mono ?_; rintro e V2 ⟨v2, rfl, ho, b2⟩; have q3 := q2.trans (b2.mono q2.size); have s3 := cell_stay q3 H0.out; obtain ⟨g, hg1, hr⟩ := own_rowB ho; obtain ⟨na, nc, rfl⟩ := rowB_shape hr; have HR : Hid _ := hr; have hg2 : W.heap.size ≤ g := (by have := q2.size; omega); clear b2 ho hr hg1)
      | (go_at_call 99; refine (HB.out _ b0).mono ?_; rintro e V1 ⟨rfl, b1⟩; have q1 := b0.trans (b1.mono b0.size); have s1 := cell_stay q1 H0.out; have q2 := q1.alloc q1.size (.cells #[.int .i32 32, .int .i64 0, .int .i64 bk, .int .i64 0] 91); have s2 := cell_stay q2 H0.out; clear b1))
  go_wp2_with fail
  go_ret
  have h : RowB V2 g (.slice na (List.replicate n ((32, 0, bk, 0) : C)).length nc) (List.replicate n (32, 0, bk, 0)) := HR.out
  rw [List.length_replicate] at h
  exact ⟨.slice na n nc, g, rfl, hg2, h, q3⟩
theorem DkAt.onTime {W : World} {N p : Nat} {s : Scr} {rows : List (List C)} (h : DkAt W N p s rows) : DkAt (W.setCell ⟨p, 5, none⟩ (.bool false)) N p { s with late := false } rows ∧ Below N W (W.setCell ⟨p, 5, none⟩ (.bool false)) := ⟨h.set 5 _ (fun _ _ _ _ => rfl) rfl rfl, (Below.refl _ _).setCell h.lo _⟩
set_option maxHeartbeats 4000000 in
set_option maxRecDepth 100000 in
theorem act_line (k m : Int) (s : Scr) (rows : List (List C)) (n y x : Nat) (hw : s.w = n) (hys : s.y = y) (hxs : s.x = x) (hn : n ≤ 120) (hy : y < rows.length) (hrl : rows.length ≤ 60) (hxn : x < n) (hR : RightRows n rows) :
    ActMakes ⟨#[108, 105, 110, 101]⟩ k m s { s with late := false } rows (rows.set y (lineRow s k x n (rows.getD y []))) := by
  intro N W p hN hD
  obtain ⟨c0, c1, c3, c4, c5, c9, c10, c11, c19, f⟩ := hD.words
  have f5 := f 5
  obtain ⟨hD1, hb1⟩ := hD.onTime
  have HL := dline_any _ N p { s with late := false } rows (by have := hb1.size; omega) hD1 k n y x hw hys hxs hn hy hrl hxn hR
  have HB : Hid _ := hb1
  clear c0 c1 c3 c4 c9 c10 c11 c19 f hD hD1 hb1 hw hys hxs hR
  go_enter Tryz.func39, Tryz.ntmps39
  go_wp2_with fail
  refine HL.mono ?_
  rintro e V ⟨rfl, h1, h2⟩
  have HD1 : Hid _ := h1
  have HB2 : Hid (Below N W V) := HB.out.trans h2
  clear h1 h2 HL
  go_wp2_with fail
  go_end0
  exact ⟨rfl, HD1.out, HB2.out⟩
theorem chars_same (k : Int) (x n : Nat) (hx : x < n) : min (x + (min (max k 1) (n : Int)).toNat) n = charsEnd k x n := by unfold charsEnd; omega
set_option maxHeartbeats 8000000 in
set_option maxRecDepth 100000 in
theorem act_chars (k m : Int) (s : Scr) (rows : List (List C)) (n y x : Nat) (hw : s.w = n) (hys : s.y = y) (hxs : s.x = x) (hn : n ≤ 120) (hy : y < rows.length) (hrl : rows.length ≤ 60) (hxn : x < n) (hR : RightRows n rows) :
    ActMakes ⟨#[99, 104, 97, 114, 115]⟩ k m s { s with late := false } rows (rows.set y (wipeRow s.sb (rows.getD y []) x (charsEnd k x n))) := by
  intro N W p hN hD
  obtain ⟨c0, c1, c3, c4, c5, c9, c10, c11, c19, f⟩ := hD.words
  have f5 := f 5
  obtain ⟨hD1, hb1⟩ := hD.onTime
  obtain ⟨mm, hmm⟩ : ∃ mm : Nat, mm = (min (max k 1) (n : Int)).toNat := ⟨_, rfl⟩
  have hmi : min (max k 1) (n : Int) = (mm : Int) := by omega
  have hm1 := Grd.max2 k 1
  have hm2 := Grd.min2 (max k 1) (n : Int)
  rw [hmi] at hm2
  have hmb : mm ≤ 120 := by omega
  have hw2 : IntKind.i64.wrap ((x : Int) + (mm : Int)) = (x : Int) + (mm : Int) := wrap_id _ (by omega) (by omega)
  have hlo := hD.lo
  generalize hX : (W.setCell ⟨p, 5, none⟩ (.bool false)) = X at *
  have HX : Hid ((W.setCell ⟨p, 5, none⟩ (.bool false)) = X) := hX
  have HWD : Hid (∀ V rows', DkAt V N p { s with late := false } rows' → V.cell? ⟨p, 4, none⟩ = some (.int .i64 (y : Int)) ∧ V.cell? ⟨p, 3, none⟩ = some (.int .i64 (x : Int)) ∧ V.cell? ⟨p, 0, none⟩ = some (.int .i64 (n : Int))) := fun V rows' h => by
    obtain ⟨d0, d1, d3, d4, -⟩ := h.words
    have d0' : V.cell? ⟨p, 0, none⟩ = some (.int .i64 s.w) := d0
    have d3' : V.cell? ⟨p, 3, none⟩ = some (.int .i64 s.x) := d3
    have d4' : V.cell? ⟨p, 4, none⟩ = some (.int .i64 s.y) := d4
    rw [hw] at d0'
    rw [hxs] at d3'
    rw [hys] at d4'
    exact ⟨d4', d3', d0'⟩
  have HW : Hid (Calls Tryz.prog 96 #[.pointer (some ⟨p, 0, none⟩), .int .i64 (y : Int), .int .i64 (x : Int), .int .i64 ((x : Int) + (mm : Int))] X.drew fun e W' => e = .returned (.tuple #[]) ∧ DkAt W' N p { s with late := false } (rows.set y (wipeRow s.sb (rows.getD y []) x (charsEnd k x n))) ∧ Below N X.drew W') := by
    have h := deskWipe_any X.drew N p { s with late := false } rows (by have := hb1.size; show N ≤ X.heap.size; omega) (hD1.next ((Below.refl _ _).drew)) n y x (x + mm) hw hn hy (by omega) hrl (by omega) (by omega) (by omega) (hR y hy).1 (by omega)
    rw [show min (x + mm) n = charsEnd k x n by rw [hmm]; exact chars_same k x n hxn, show ((x + mm : Nat) : Int) = (x : Int) + (mm : Int) by omega] at h
    exact h
  have s0 := HWD.out X.drew rows (hD1.next ((Below.refl _ _).drew))
  have HB : Hid (Below N W X.drew) := hb1.drew
  clear c0 c1 c3 c4 c9 c10 c11 c19 f hD hD1 hb1 hw hys hxs hR hmm hmi hX
  generalize max k 1 = mx at *
  generalize rows.set y (wipeRow s.sb (rows.getD y []) x (charsEnd k x n)) = rows' at *
  go_enter Tryz.func39, Tryz.ntmps39
  go_upto_region 69 with fail
  rw [HX.out]
  go_region_held3 (fun w' => w'.cell? ⟨p, 4, none⟩ = some (.int .i64 (y : Int)) ∧ w'.cell? ⟨p, 3, none⟩ = some (.int .i64 (x : Int)) ∧ w'.cell? ⟨p, 0, none⟩ = some (.int .i64 (n : Int)))
    (first | exact s2 | exact s0)
    (first | (go_at_call 96; refine HW.out.mono ?_; rintro e V ⟨rfl, h1, h2⟩; have s2 := HWD.out V _ h1; have HD1 : Hid _ := h1; have HB2 : Hid _ := HB.out.trans h2; clear h1 h2))
  go_wp2_with fail
  go_end0
  exact ⟨rfl, HD1.out, HB2.out⟩
end Put
end Go.Proofs.YtnkeahfcpbepjaaGreatDoor

/- Act: screen. -/
namespace Go.Proofs.YtnkeahfcpbepjaaGreatDoor
open Go.ChangeShapes Go.WideShapes Go.ChangeAt Go.RowKit
namespace Put
open Grd (C SliceAt CellsAt gridErr z0 nilV rowsL RowsAt RowB flat words putRow mendL RightRow OwnG)
open Sty (isSt)
/-- Does a kind reach a row? -/
def hits (k : Int) (y i : Nat) : Bool := decide (k = 2 ∨ (k ≤ 0 ∧ y < i) ∨ (k = 1 ∧ i < y))
def wipeC (rows : List (List C)) (n : Nat) (bk : Int) (k : Int) (y j : Nat) : List (List C) := (List.range rows.length).map fun i => if i < j ∧ hits k y i = true then List.replicate n (32, 0, bk, 0) else rows.getD i []
theorem wipeC_len (rows : List (List C)) (n : Nat) (bk k : Int) (y j : Nat) : (wipeC rows n bk k y j).length = rows.length := by simp [wipeC]
theorem wipeC_get (rows : List (List C)) (n : Nat) (bk k : Int) (y j i : Nat) (hi : i < rows.length) : (wipeC rows n bk k y j).getD i [] = if i < j ∧ hits k y i = true then List.replicate n (32, 0, bk, 0) else rows.getD i [] := by
  simp [wipeC, List.getD, hi]
theorem wipeC_zero (rows : List (List C)) (n : Nat) (bk k : Int) (y : Nat) : wipeC rows n bk k y 0 = rows := by
  refine rows_ext (wipeC_len _ _ _ _ _ _) fun i hi => ?_
  rw [wipeC_len] at hi
  rw [wipeC_get _ _ _ _ _ _ _ hi, if_neg (by omega)]
theorem wipeC_no (rows : List (List C)) (n : Nat) (bk k : Int) (y j : Nat) (h : hits k y j = false) : wipeC rows n bk k y (j + 1) = wipeC rows n bk k y j := by
  refine rows_ext (by rw [wipeC_len, wipeC_len]) fun i hi => ?_
  rw [wipeC_len] at hi
  rw [wipeC_get _ _ _ _ _ _ _ hi, wipeC_get _ _ _ _ _ _ _ hi]
  by_cases e : i = j
  · subst e
    rw [if_neg (by rw [h]; simp), if_neg (by rw [h]; simp)]
  · by_cases h2 : i < j ∧ hits k y i = true
    · rw [if_pos h2, if_pos ⟨by omega, h2.2⟩]
    · rw [if_neg h2, if_neg (fun h3 => h2 ⟨by omega, h3.2⟩)]
theorem wipeC_yes (rows : List (List C)) (n : Nat) (bk k : Int) (y j : Nat) (hj : j < rows.length) (h : hits k y j = true) : (wipeC rows n bk k y j).set j (List.replicate n (32, 0, bk, 0)) = wipeC rows n bk k y (j + 1) := by
  refine rows_ext (by rw [List.length_set, wipeC_len, wipeC_len]) fun i hi => ?_
  rw [List.length_set, wipeC_len] at hi
  by_cases e : i = j
  · subst e
    rw [getD_set_same _ _ _ _ (by rw [wipeC_len]; exact hi), wipeC_get _ _ _ _ _ _ _ hi, if_pos ⟨by omega, h⟩]
  · rw [getD_set_ne _ _ _ _ _ e, wipeC_get _ _ _ _ _ _ _ hi, wipeC_get _ _ _ _ _ _ _ hi]
    by_cases h2 : i < j ∧ hits k y i = true
    · rw [if_pos h2, if_pos ⟨by omega, h2.2⟩]
    · rw [if_neg h2, if_neg (fun h3 => h2 ⟨by omega, h3.2⟩)]
/-- What the program's Screen leaves, the reference's leaves. -/
theorem wipeC_to (rows : List (List C)) (n : Nat) (bk k : Int) (y : Nat) (hy : y < rows.length) (hk : k ≤ 2) (h2 : k = 2 → rows.getD y [] = List.replicate n (32, 0, bk, 0)) : wipeC rows n bk k y rows.length = wipeTo rows n bk (spanA k y rows.length).1 (spanA k y rows.length).2 y := by
  refine rows_ext (by rw [wipeC_len, wipeTo_len]) fun i hi => ?_
  rw [wipeC_len] at hi
  rw [wipeC_get _ _ _ _ _ _ _ hi, wipeTo_get _ _ _ _ _ _ _ hi]
  unfold hits
  by_cases k0 : k ≤ 0
  · rw [show spanA k y rows.length = (y, rows.length) by unfold spanA; rw [if_pos k0]]
    by_cases hc : y < i
    · rw [if_pos ⟨hi, by rw [decide_eq_true_eq]; omega⟩, if_pos (by simp only; omega)]
    · rw [if_neg (by rw [decide_eq_true_eq]; omega), if_neg (by simp only; omega)]
  · by_cases k1 : k = 1
    · rw [show spanA k y rows.length = (0, y + 1) by unfold spanA; rw [if_neg k0, if_pos k1]]
      by_cases hc : i < y
      · rw [if_pos ⟨hi, by rw [decide_eq_true_eq]; omega⟩, if_pos (by simp only; omega)]
      · rw [if_neg (by rw [decide_eq_true_eq]; omega), if_neg (by simp only; omega)]
    · have k2 : k = 2 := by omega
      rw [show spanA k y rows.length = (0, rows.length) by unfold spanA; rw [if_neg k0, if_neg k1, if_pos k2]]
      rw [if_pos ⟨hi, by rw [decide_eq_true_eq]; omega⟩]
      by_cases hc : i = y
      · subst hc
        rw [if_neg (by simp only; omega), h2 k2]
      · rw [if_pos (by simp only; omega)]
theorem rowB_rep {V : World} {g n nc : Nat} {na : Option Addr} {c : C} (h : RowB V g (.slice na (List.replicate n c).length nc) (List.replicate n c)) : RowB V g (.slice na n nc) (List.replicate n c) := by
  rw [List.length_replicate] at h
  exact h
theorem DkA.noGone {W : World} {N p : Nat} {s : Scr} {rows : List (List C)} {cv tv gv rv : Value} {gvs vs : List Value} {gs : List Nat} (h : DkA W N p s rows cv tv gv rv gvs vs gs) : DkA (W.setCell ⟨p, 21, none⟩ (.slice none 0 0)) N p { s with gone := [] } rows cv tv (.slice none 0 0) rv [] vs gs := by
  have ho : ∀ q, q ≠ p → (W.setCell ⟨p, 21, none⟩ (.slice none 0 0)).heap[q]? = W.heap[q]? := fun q hq => store_off hq
  exact ⟨store_at h.blk rfl, h.lo, h.cvs, own_apart h.tabs h.blk (by decide) ho, GoneV.of (World.ownsRow_nil _ _ _ _), ⟨rfl, fun i hi => absurd hi (by simp)⟩, fun i hi => absurd hi (by simp), own_apart h.rws h.blk (by decide) ho, RowsAt.apart h.rin h.blk (by decide) ho, fun k _ h2 => by cases h2⟩
set_option maxHeartbeats 8000000 in
set_option maxRecDepth 100000 in
theorem act_more (k m : Int) (s : Scr) (rows : List (List C)) (hk : ¬ k ≤ 2) : ActMakes ⟨#[115, 99, 114, 101, 101, 110]⟩ k m s (if k = 3 then { s with gone := [] } else s) rows rows := by
  intro N W p hN hD
  have hk3 : 3 ≤ k := by omega
  by_cases h3 : k = 3
  · rw [if_pos h3]
    obtain ⟨cv, tv, gv, rv, gvs, vs, gs, hA⟩ := hD
    obtain ⟨-, ⟨-, -, -, -, -, -, -, -, -, -, c21, -⟩, f⟩ := sh_cells hA.blk
    have f21 := f 21
    have HE : Hid (DkAt (W.setCell ⟨p, 21, none⟩ (.slice none 0 0)) N p { s with gone := [] } rows ∧ Below N W (W.setCell ⟨p, 21, none⟩ (.slice none 0 0))) := ⟨⟨_, _, _, _, _, _, _, hA.noGone⟩, (Below.refl _ _).setCell hA.lo _⟩
    clear hA f hk hk3
    subst h3
    go_enter Tryz.func39, Tryz.ntmps39
    go_wp2_with fail
    exact bodyPost_ret (v := .tuple #[]) (results_none rfl _ _ _) rfl ⟨rfl, HE.out⟩
  · rw [if_neg h3]
    have hkb : (k == 3) = false := by rw [beq_eq_false_iff_ne]; exact h3
    have HD : Hid (DkAt W N p s rows) := hD
    clear hD h3
    go_enter Tryz.func39, Tryz.ntmps39
    go_wp2_with fail
    exact bodyPost_ret (v := .tuple #[]) (results_none rfl _ _ _) rfl ⟨rfl, HD.out, Below.refl _ _⟩
set_option maxHeartbeats 16000000 in
set_option maxRecDepth 100000 in
theorem act_wscreen (k m : Int) (s : Scr) (rows : List (List C)) (n y x : Nat) (hk : k ≤ 2) (hw : s.w = n) (hys : s.y = y) (hxs : s.x = x) (hn1 : 1 ≤ n) (hn : n ≤ 120) (hy : y < rows.length) (hrl : rows.length ≤ 60) (hxn : x < n) (hR : RightRows n rows) :
    ActMakes ⟨#[115, 99, 114, 101, 101, 110]⟩ k m s { s with late := false } rows (wipeC (rows.set y (lineRow s k x n (rows.getD y []))) n s.sb k y rows.length) := by
  intro N W p hN hD
  obtain ⟨c0, c1, c3, c4, c5, c9, c10, c11, c19, f⟩ := hD.words
  have f5 := f 5
  obtain ⟨hD1, hb1⟩ := hD.onTime
  have HL := dline_any _ N p { s with late := false } rows (by have := hb1.size; omega) hD1 k n y x hw hys hxs hn hy hrl hxn hR
  have HB : Hid _ := hb1
  have HSW : Hid (s.w = n ∧ s.y = y) := ⟨hw, hys⟩
  have hk3 : ¬ (3 : Int) ≤ k := by omega
  have hkb : (k == 3) = false := by rw [beq_eq_false_iff_ne]; omega
  have hNW : Hid (N ≤ W.heap.size) := hN
  clear c0 c1 c3 c4 c9 c10 c11 c19 f hD hD1 hb1 hw hys hxs hR hN
  obtain ⟨R, hRR⟩ : ∃ R, R = rows.set y (lineRow s k x n (rows.getD y [])) := ⟨_, rfl⟩
  have hRl : R.length = rows.length := by rw [hRR, List.length_set]
  obtain ⟨L, hL⟩ : ∃ L, L = rows.length := ⟨_, rfl⟩
  have HL2 : Hid (Calls Tryz.prog 94 #[.pointer (some ⟨p, 0, none⟩), .int .i64 k] (W.setCell ⟨p, 5, none⟩ (.bool false)) fun e W' => e = .returned (.tuple #[]) ∧ DkAt W' N p { s with late := false } R ∧ Below N (W.setCell ⟨p, 5, none⟩ (.bool false)) W') := by unfold Hid; rw [hRR]; exact HL
  rw [← hRR, ← hL]
  rw [← hL] at hRl hrl hy
  clear HL hRR hL
  go_enter Tryz.func39, Tryz.ntmps39
  go_wp2_with fail
  refine HL2.out.mono ?_
  rintro e V ⟨rfl, h1, h2⟩
  have HB2 : Hid (Below N W V) := HB.out.trans h2
  have HDV : Hid (DkAt V N p { s with late := false } R) := h1
  obtain ⟨cv, tv, gv, rv, gvs, vs, gs, hA⟩ := h1
  obtain ⟨ra, rc, hrv⟩ := own_slice hA.rws
  obtain ⟨-, ⟨-, -, -, -, -, -, -, -, -, -, -, c22⟩, -⟩ := sh_cells hA.blk
  rw [hrv, hRl] at c22
  clear h2 HL2 hA hrv
  go_wp2_with fail
  clear c22
  go_loopg [356] L (fun q i wr => ∃ j : Nat, i = .int .i64 (j : Int) ∧ j ≤ L ∧ L - j ≤ q ∧ DkAt wr N p { s with late := false } (wipeC R n s.sb k y j) ∧ Below N W wr)
  case atStart => exact ⟨0, rfl, by omega, by omega, by rw [wipeC_zero]; exact HDV.out, HB2.out⟩
  case round =>
    clear HDV HB2
    obtain ⟨j, rfl, hj, hq, hDj, hBj⟩ := hrel
    by_cases hlt : j < L
    · have lt1 : (j : Int) < (L : Int) := by omega
      have HDJ : Hid (DkAt wr N p { s with late := false } (wipeC R n s.sb k y j)) := hDj
      have HBJ : Hid (Below N W wr) := hBj
      obtain ⟨d0, d1, d3, d4, -⟩ := hDj.words
      have d4' : wr.cell? ⟨p, 4, none⟩ = some (.int .i64 (y : Int)) := by rw [← HSW.out.2]; exact d4
      clear d0 d1 d3 d4 hDj hBj
      by_cases hh : hits k y j = true
      · have HNX := wipeC_yes R n s.sb k y j (by omega) hh
        have HNY : Hid ((wipeC R n s.sb k y j).set j (List.replicate n (32, 0, s.sb, 0)) = wipeC R n s.sb k y (j + 1)) := HNX
        have hc : k = 2 ∨ (k ≤ 0 ∧ y < j) ∨ (k = 1 ∧ j < y) := by simpa [hits] using hh
        clear HNX hh
        obtain ⟨cv, tv, gv, rv, gvs, vs, gs, hA⟩ := HDJ.out
        have hwl : (wipeC R n s.sb k y j).length = L := by rw [wipeC_len, hRl]
        obtain ⟨G, rc, hrv, hGN, hrc1, hrc2, -, hcell, A, hGA⟩ := own_cells hA.rws (by omega)
        subst hrv
        obtain ⟨⟨e0, -, -, -, -, -, -, e7, -⟩, ⟨-, -, -, -, -, -, -, -, -, -, -, c22⟩, -⟩ := sh_cells hA.blk
        have e0' : wr.cell? ⟨p, 0, none⟩ = some (.int .i64 (n : Int)) := by rw [← HSW.out.1]; exact e0
        have e7' : wr.cell? ⟨p, 7, none⟩ = some (.int .i64 s.sb) := e7
        have dG := hcell j (by omega)
        have HPG : Hid (p ≠ G) := fun e' => by
          have hb := hA.blk
          rw [e', hGA] at hb
          injection hb with hb
          injection hb with _ hb _
          exact absurd hb (by decide)
        have HFR : Hid (∀ V, Below wr.heap.size wr V → V.frozen? ⟨G, j, none⟩ = false) := fun V hV => frozen_cells (Grd.carry hGA hV) j
        have HEM : Hid (∀ V, Below wr.heap.size wr V → Calls Tryz.prog 95 #[.pointer (some ⟨p, 0, none⟩)] V fun e W' => ∃ v g, e = .returned v ∧ V.heap.size ≤ g ∧ RowB W' g v (List.replicate n (32, 0, s.sb, 0)) ∧ Below V.heap.size V W') := fun V hV => empty_any p n s.sb V (cell_stay hV e0') (cell_stay hV e7') hn1 hn
        have HEND : Hid (∀ V v' g', Below wr.heap.size wr V → wr.heap.size ≤ g' → RowB V g' v' (List.replicate n (32, 0, s.sb, 0)) → DkAt (V.setCell ⟨G, j, none⟩ v') N p { s with late := false } (wipeC R n s.sb k y (j + 1)) ∧ Below N W (V.setCell ⟨G, j, none⟩ v')) := fun V v' g' hV hg' hr' => by
          have h1 := DkA.row (G := G) (c := rc) (hA.next hV) j (by rw [hwl]; exact hlt) g' v' _ (by have := HBJ.out.size; have := hNW.out; omega) hr' (fun i hi => by have := hA.rin.lt i hi; omega) (fun i hi hn' e' => by
            rcases hA.gin.2 i hi with ⟨he', -⟩ | ⟨-, b', o', c', hv', -, -, hC', -⟩
            · exact hn' he'
            · rw [hv'] at e'
              have e2 : b' = g' := by simpa [blkOf] using e'
              have := lt_of_cells hC' hn'
              omega)
          rw [HNY.out] at h1
          exact ⟨⟨_, _, _, _, _, _, _, h1⟩, HBJ.out.trans ((hV.mono (by have := HBJ.out.size; have := hNW.out; omega)).setCell hGN _)⟩
        have HCS : Hid (∀ V, Below wr.heap.size wr V → V.cell? ⟨p, 22, none⟩ = some (.slice (some ⟨G, 0, none⟩) L rc) ∧ V.cell? ⟨G, j, none⟩ = some (vs.getD j nilV)) := fun V hV => ⟨cell_stay hV (by rw [← hwl]; exact c22), cell_stay hV dG⟩
        clear hA hGA hcell e0 e7 e0' e7' hwl dG c22 HDJ
        have b0 : Below wr.heap.size wr wr.drew := (Below.refl _ _).drew
        have s0 := (HCS.out _ b0).1
        rcases hc with k2 | ⟨k0, hyj⟩ | ⟨k1, hyj⟩
        · have t2 : (k == 2) = true := by rw [beq_iff_eq]; exact k2
          clear k2
          go_upto_region 65 with fail
          go_region_held3 (fun w' => w'.cell? ⟨p, 22, none⟩ = some (.slice (some ⟨G, 0, none⟩) L rc))
            (first | exact s2 | exact s1 | exact s0)
            (first | (go_at_call 95; refine (HEM.out _ b0).mono ?_; rintro e V ⟨v', g', rfl, hg', hr', b1⟩; have q1 := b0.trans (b1.mono b0.size); obtain ⟨s1, dJ⟩ := HCS.out _ q1; have fr := HFR.out _ q1; obtain ⟨na, nc, rfl⟩ := rowB_shape hr'; have hr2 := rowB_rep hr'; have s2 := (cell_off HPG.out (v := .slice na n nc) (i := j)).trans s1; have HE : Hid _ := HEND.out V _ g' q1 (by simpa using hg') hr2; clear b1 hr' hr2 hg'))
          go_wp2_with fail
          go_roundg (L - (j + 1))
          case measure => omega
          case rel => exact ⟨j + 1, by go_num, by omega, by omega, HE.out.1, HE.out.2⟩
        · have t2 : (k == 2) = false := by rw [beq_eq_false_iff_ne]; omega
          have t3 : (y : Int) < (j : Int) := by omega
          go_upto_region 65 with fail
          go_region_held3 (fun w' => w'.cell? ⟨p, 22, none⟩ = some (.slice (some ⟨G, 0, none⟩) L rc))
            (first | exact s2 | exact s1 | exact s0)
            (first | (go_at_call 95; refine (HEM.out _ b0).mono ?_; rintro e V ⟨v', g', rfl, hg', hr', b1⟩; have q1 := b0.trans (b1.mono b0.size); obtain ⟨s1, dJ⟩ := HCS.out _ q1; have fr := HFR.out _ q1; obtain ⟨na, nc, rfl⟩ := rowB_shape hr'; have hr2 := rowB_rep hr'; have s2 := (cell_off HPG.out (v := .slice na n nc) (i := j)).trans s1; have HE : Hid _ := HEND.out V _ g' q1 (by simpa using hg') hr2; clear b1 hr' hr2 hg'))
          go_wp2_with fail
          go_roundg (L - (j + 1))
          case measure => omega
          case rel => exact ⟨j + 1, by go_num, by omega, by omega, HE.out.1, HE.out.2⟩
        · have t2 : (k == 2) = false := by rw [beq_eq_false_iff_ne]; omega
          have t1 : (k == 1) = true := by rw [beq_iff_eq]; exact k1
          have t0 : ¬ k ≤ 0 := by omega
          have t3 : (j : Int) < (y : Int) := by omega
          clear k1
          go_upto_region 65 with fail
          go_region_held3 (fun w' => w'.cell? ⟨p, 22, none⟩ = some (.slice (some ⟨G, 0, none⟩) L rc))
            (first | exact s2 | exact s1 | exact s0)
            (first | (go_at_call 95; refine (HEM.out _ b0).mono ?_; rintro e V ⟨v', g', rfl, hg', hr', b1⟩; have q1 := b0.trans (b1.mono b0.size); obtain ⟨s1, dJ⟩ := HCS.out _ q1; have fr := HFR.out _ q1; obtain ⟨na, nc, rfl⟩ := rowB_shape hr'; have hr2 := rowB_rep hr'; have s2 := (cell_off HPG.out (v := .slice na n nc) (i := j)).trans s1; have HE : Hid _ := HEND.out V _ g' q1 (by simpa using hg') hr2; clear b1 hr' hr2 hg'))
          go_wp2_with fail
          go_roundg (L - (j + 1))
          case measure => omega
          case rel => exact ⟨j + 1, by go_num, by omega, by omega, HE.out.1, HE.out.2⟩
      · have hf : hits k y j = false := by simpa using hh
        have HNY : Hid (wipeC R n s.sb k y (j + 1) = wipeC R n s.sb k y j) := wipeC_no R n s.sb k y j hf
        have hc : ¬ (k = 2 ∨ (k ≤ 0 ∧ y < j) ∨ (k = 1 ∧ j < y)) := by simpa [hits] using hf
        clear hh hf
        have t2 : (k == 2) = false := by rw [beq_eq_false_iff_ne]; omega
        by_cases k0 : k ≤ 0
        · have t1 : (k == 1) = false := by rw [beq_eq_false_iff_ne]; omega
          have t3 : ¬ (y : Int) < (j : Int) := by omega
          clear hc
          go_wp2_with fail
          go_roundg (L - (j + 1))
          case measure => omega
          case rel => exact ⟨j + 1, by go_num, by omega, by omega, by rw [HNY.out]; exact HDJ.out, HBJ.out⟩
        · have t1 : (k == 1) = true := by rw [beq_iff_eq]; omega
          have t3 : ¬ (j : Int) < (y : Int) := by omega
          clear hc
          go_wp2_with fail
          go_roundg (L - (j + 1))
          case measure => omega
          case rel => exact ⟨j + 1, by go_num, by omega, by omega, by rw [HNY.out]; exact HDJ.out, HBJ.out⟩
    · have lt1 : ¬ (j : Int) < (L : Int) := by omega
      have hjL : j = L := by omega
      subst hjL
      go_wp2_with fail
      go_end0
      exact ⟨rfl, hDj, hBj⟩
end Put
end Go.Proofs.YtnkeahfcpbepjaaGreatDoor
