/- trellislaw.does: what a call makes of a screen is what is to be done to it. -/
import Derived.Test.YtnkeahfcpbepjaaGreatDoorPartJ
import Derived.Test.YtnkeahfcpbepjaaGreatDoorPartL
import Derived.Test.YtnkeahfcpbepjaaGreatDoorPartN
import Derived.Test.YtnkeahfcpbepjaaGreatDoorPartI
import Derived.BigRegion
import Derived.Deep.RegionHeld3
namespace Go.Proofs.YtnkeahfcpbepjaaGreatDoor
set_option linter.unusedVariables false
open Go.ChangeShapes Go.WideShapes Go.ChangeAt Go.RowKit
namespace Put
open Grd (C SliceAt CellsAt gridErr z0 nilV rowsL RowsAt RowB flat)
/-- A screen is kept in a variable. -/
theorem kept_v {w W : World} {A : Array Value} (hB : Below w.heap.size w W) :
    ((W.alloc (.cells #[.int .i64 0, .int .i64 0, .slice none 0 0, .int .i64 0, .int .i64 0, .bool false, .int .i64 0, .int .i64 0, .int .i64 0, .int .i64 0, .int .i64 0, .int .i64 0, .slice none 0 0, .int .i64 0, .int .i64 0, .int .i64 0, .int .i64 0, .int .i64 0, .int .i64 0, .int .i32 0, .string ⟨#[]⟩, .slice none 0 0] 32)).setRow W.heap.size A).heap[W.heap.size]? = some (.cells A 32 (0, 0)) ∧ Below W.heap.size W ((W.alloc (.cells #[.int .i64 0, .int .i64 0, .slice none 0 0, .int .i64 0, .int .i64 0, .bool false, .int .i64 0, .int .i64 0, .int .i64 0, .int .i64 0, .int .i64 0, .int .i64 0, .slice none 0 0, .int .i64 0, .int .i64 0, .int .i64 0, .int .i64 0, .int .i64 0, .int .i64 0, .int .i32 0, .string ⟨#[]⟩, .slice none 0 0] 32)).setRow W.heap.size A) ∧ Below w.heap.size w ((W.alloc (.cells #[.int .i64 0, .int .i64 0, .slice none 0 0, .int .i64 0, .int .i64 0, .bool false, .int .i64 0, .int .i64 0, .int .i64 0, .int .i64 0, .int .i64 0, .int .i64 0, .slice none 0 0, .int .i64 0, .int .i64 0, .int .i64 0, .int .i64 0, .int .i64 0, .int .i64 0, .int .i32 0, .string ⟨#[]⟩, .slice none 0 0] 32)).setRow W.heap.size A) ∧ (W.alloc (.cells #[.int .i64 0, .int .i64 0, .slice none 0 0, .int .i64 0, .int .i64 0, .bool false, .int .i64 0, .int .i64 0, .int .i64 0, .int .i64 0, .int .i64 0, .int .i64 0, .slice none 0 0, .int .i64 0, .int .i64 0, .int .i64 0, .int .i64 0, .int .i64 0, .int .i64 0, .int .i32 0, .string ⟨#[]⟩, .slice none 0 0] 32)).heap[W.heap.size]? = some (.cells #[.int .i64 0, .int .i64 0, .slice none 0 0, .int .i64 0, .int .i64 0, .bool false, .int .i64 0, .int .i64 0, .int .i64 0, .int .i64 0, .int .i64 0, .int .i64 0, .slice none 0 0, .int .i64 0, .int .i64 0, .int .i64 0, .int .i64 0, .int .i64 0, .int .i64 0, .int .i32 0, .string ⟨#[]⟩, .slice none 0 0] 32 (0, 0)) := by
  have h1 : Below W.heap.size W ((W.alloc (.cells #[.int .i64 0, .int .i64 0, .slice none 0 0, .int .i64 0, .int .i64 0, .bool false, .int .i64 0, .int .i64 0, .int .i64 0, .int .i64 0, .int .i64 0, .int .i64 0, .slice none 0 0, .int .i64 0, .int .i64 0, .int .i64 0, .int .i64 0, .int .i64 0, .int .i64 0, .int .i32 0, .string ⟨#[]⟩, .slice none 0 0] 32)).setRow W.heap.size A) := below_setRow ((Below.refl _ _).alloc (Nat.le_refl _) _) (Nat.le_refl _) _
  exact ⟨setRow_heap _ _ _ _ _ _ (heap_alloc_new W _), h1, hB.trans (h1.mono hB.size), heap_alloc_new W _⟩
theorem ScrV.shapes {W : World} {s : Scr} {cv tv gv : Value} (h : ScrV W s cv tv gv) : ∃ a1 n1 c1 a2 n2 c2 a3 n3 c3, cv = .slice a1 n1 c1 ∧ tv = .slice a2 n2 c2 ∧ gv = .slice a3 n3 c3 := by
  obtain ⟨a1, c1, h1⟩ := h.c.shape
  obtain ⟨a2, c2, h2⟩ := h.t.slice
  obtain ⟨a3, c3, h3⟩ := h.g.slice
  exact ⟨a1, _, c1, a2, _, c2, a3, _, c3, h1, h2, h3⟩
/-- What is to be done to a desk. -/
def Acts (df : FuncId) (caps : Array Value) (w : World) (s s2 : Scr) (rows rows2 : List (List C)) : Prop :=
  ∀ N W p, Below w.heap.size w W → w.heap.size ≤ N → N ≤ W.heap.size → DkAt W N p s rows → Calls Tryz.prog df (#[.pointer (some ⟨p, 0, none⟩)] ++ caps) W fun e W' => e = .returned (.tuple #[]) ∧ DkAt W' N p s2 rows2 ∧ Below N W W'
section
attribute [local go_sem ↓] load_scr
attribute [local go_sem] isScrV
set_option maxHeartbeats 8000000 in
set_option maxRecDepth 100000 in
theorem does_bad (s : Scr) (cv tv gv : Value) (cf : FuncId) (ccaps : Array Value) (dv : Value) (hcf : Plain cf) (w : World) (hT : Txt.Tab w) (hV : ScrV w s cv tv gv) (hB : Bulk s) (hz : scrErr s ≠ 0)
    (hcall : ∀ w0 W cv tv gv, Below w.heap.size w w0 → Met w0 W s cv tv gv → Calls Tryz.prog cf (#[.agg (scrA s cv tv gv)] ++ ccaps) W (Made w0 W zScr (scrErr s))) :
    Calls Tryz.prog 26 #[.agg (scrA s cv tv gv), .func (.func cf) #[] ccaps, dv] w fun e w' => e = .returned (.bool true) ∧ Below w.heap.size w w' := by
  have x0 := heap_alloc_new w (.cells (scrA s cv tv gv) 32)
  have kb : Below w.heap.size w (w.alloc (.cells (scrA s cv tv gv) 32)) := (Below.refl _ _).alloc (Nat.le_refl _) _
  have HP : Hid (∀ W, Below w.heap.size w W → Calls Tryz.prog 63 #[] W fun e w' => e = .returned (.bool true) ∧ Below W.heap.size W w') := fun W h => printed_any W (Grd.Tab.next hT h)
  have HTB : Hid (∀ W, Below w.heap.size w W → Txt.Tab W) := fun W h => Grd.Tab.next hT h
  have HX0 : Hid _ := x0
  have HKB : Hid _ := kb
  have HV : Hid (ScrV w s cv tv gv) := hV
  have HBK : Hid (Bulk s) := hB
  have HC : Hid (∀ w0 W cv tv gv, Below w.heap.size w w0 → Met w0 W s cv tv gv → Calls Tryz.prog cf (#[.agg (scrA s cv tv gv)] ++ ccaps) W (Made w0 W zScr (scrErr s))) := hcall
  have HCK : Hid (∀ W, Below w.heap.size w W → Calls Tryz.prog 65 #[.agg (scrA s cv tv gv)] W fun e w' => e = .returned (.int .i64 (scrErr s)) ∧ Below W.heap.size W w') := fun W h => checkScreen_any s cv tv gv W (hV.next h) hB.f
  have hzb : (scrErr s != 0) = true := by simp [bne, hz]
  have hee : (scrErr s == scrErr s) = true := by simp
  have HOW := ownScreen_any s cv tv gv _ (hV.next kb) hB
  unfold Plain at hcf
  clear x0 kb hT hV hB hz hcall
  generalize scrErr s = er at *
  go_enter Tryz.func26, Tryz.ntmps26
  go_wp2_with (refine wpList_load_row rfl 32 (.tmp 3) rfl w.heap.size rfl _ _ _ _ HX0.out Tryz.underlying32 rfl (by kernel_rfl) ?_)
  refine HOW.mono ?_
  rintro e V1 ⟨cv1, tv1, gv1, rfl, hV1, b1⟩
  obtain ⟨a1, n1, c1, a2, n2, c2, a3, n3, c3, rfl, rfl, rfl⟩ := hV1.shapes
  have HB1 : Hid (Below w.heap.size w V1) := HKB.out.trans (b1.mono HKB.out.size)
  have HX1 : Hid (V1.heap[w.heap.size]? = _) := Grd.carry HX0.out b1
  have HV1 : Hid (ScrV V1 s _ _ _) := hV1
  obtain ⟨k1, k2, k3, k4⟩ := kept_v (A := scrA s (.slice a1 n1 c1) (.slice a2 n2 c2) (.slice a3 n3 c3)) HB1.out
  have HK1 : Hid _ := k1
  have HK2 : Hid _ := k2
  have HK3 : Hid _ := k3
  have HK4 : Hid _ := k4
  have HX2 : Hid _ := Grd.carry HX1.out k2
  have hlt1 := heap_lt k1
  clear HOW hV1 b1 k1 k2 k3 k4
  go_upto_region 2 with (refine wpList_store_row rfl 32 (.tmp 7) _ rfl V1.heap.size (scrA s (.slice a1 n1 c1) (.slice a2 n2 c2) (.slice a3 n3 c3)) rfl rfl _ _ HK4.out (by kernel_rfl) rfl (scr_one _ _ _ _ _ _ _ _ _ _) ?_)
  have HCF := HC.out V1 _ _ _ _ HB1.out ⟨HTB.out _ HK3.out, HV1.out, HK2.out, HBK.out.f⟩
  clear HK4
  generalize ((V1.alloc (.cells #[.int .i64 0, .int .i64 0, .slice none 0 0, .int .i64 0, .int .i64 0, .bool false, .int .i64 0, .int .i64 0, .int .i64 0, .int .i64 0, .int .i64 0, .int .i64 0, .slice none 0 0, .int .i64 0, .int .i64 0, .int .i64 0, .int .i64 0, .int .i64 0, .int .i64 0, .int .i32 0, .string ⟨#[]⟩, .slice none 0 0] 32)).setRow V1.heap.size (scrA s (.slice a1 n1 c1) (.slice a2 n2 c2) (.slice a3 n3 c3))) = X2 at *
  go_wp2_with (refine wpList_load_row rfl 32 (.tmp 7) rfl V1.heap.size rfl _ _ _ _ HK1.out Tryz.underlying32 rfl (by kernel_rfl) ?_)
  refine HCF.mono ?_
  rintro e V3 ⟨cv3, tv3, gv3, rfl, hO3, b3⟩
  obtain ⟨d1, m1, e1, d2, m2, e2, d3, m3, e3, rfl, rfl, rfl⟩ := hO3.shapes
  have HB3 : Hid (Below w.heap.size w V3) := HK3.out.trans (b3.mono HK3.out.size)
  have HX3 : Hid (V3.heap[w.heap.size]? = _) := Grd.carry HX2.out b3
  have HO3 : Hid (V3.heap[V1.heap.size]? = _) := Grd.carry HK1.out b3
  have HV3 : Hid (ScrV V3 s (.slice a1 n1 c1) (.slice a2 n2 c2) (.slice a3 n3 c3)) := (HV1.out.next HK2.out).next b3
  have HZ3 : Hid (ScrV V3 zScr _ _ _) := hO3.scr
  obtain ⟨k1, k2, k3, k4⟩ := kept_v (A := scrA zScr (.slice d1 m1 e1) (.slice d2 m2 e2) (.slice d3 m3 e3)) HB3.out
  have HL1 : Hid _ := k1
  have HL3 : Hid _ := k3
  have HL4 : Hid _ := k4
  have HX4 : Hid _ := Grd.carry HX3.out k2
  have HO4 : Hid _ := Grd.carry HO3.out k2
  have HV4 : Hid (ScrV _ s (.slice a1 n1 c1) (.slice a2 n2 c2) (.slice a3 n3 c3)) := HV3.out.next k2
  have HZ4 : Hid (ScrV _ zScr (.slice d1 m1 e1) (.slice d2 m2 e2) (.slice d3 m3 e3)) := HZ3.out.next k2
  clear HCF hO3 b3 k1 k2 k3 k4 HC HK1 HK2 HK3 HX2 HX1 HX0 HV1 HB1 HKB
  go_upto_region 3 with (refine wpList_store_row rfl 32 (.tmp 8) _ rfl V3.heap.size (scrA zScr (.slice d1 m1 e1) (.slice d2 m2 e2) (.slice d3 m3 e3)) rfl rfl _ _ HL4.out (by kernel_rfl) rfl (scr_one _ _ _ _ _ _ _ _ _ _) ?_)
  clear HL4 HX3 HO3 HV3 HZ3
  generalize ((V3.alloc (.cells #[.int .i64 0, .int .i64 0, .slice none 0 0, .int .i64 0, .int .i64 0, .bool false, .int .i64 0, .int .i64 0, .int .i64 0, .int .i64 0, .int .i64 0, .int .i64 0, .slice none 0 0, .int .i64 0, .int .i64 0, .int .i64 0, .int .i64 0, .int .i64 0, .int .i64 0, .int .i32 0, .string ⟨#[]⟩, .slice none 0 0] 32)).setRow V3.heap.size (scrA zScr (.slice d1 m1 e1) (.slice d2 m2 e2) (.slice d3 m3 e3))) = X4 at *
  go_wp2_with fail
  refine (HP.out _ HL3.out).mono ?_
  rintro e V5 ⟨rfl, b5⟩
  have HB5 : Hid (Below w.heap.size w V5) := HL3.out.trans (b5.mono HL3.out.size)
  have HX5 : Hid (V5.heap[w.heap.size]? = _) := Grd.carry HX4.out b5
  have HO5 : Hid (V5.heap[V1.heap.size]? = _) := Grd.carry HO4.out b5
  have HL5 : Hid (V5.heap[V3.heap.size]? = _) := Grd.carry HL1.out b5
  have HV5 : Hid (ScrV V5 s (.slice a1 n1 c1) (.slice a2 n2 c2) (.slice a3 n3 c3)) := HV4.out.next b5
  have HZ5 : Hid (ScrV V5 zScr (.slice d1 m1 e1) (.slice d2 m2 e2) (.slice d3 m3 e3)) := HZ4.out.next b5
  clear b5 HX4 HO4 HL1 HV4 HZ4 HL3
  go_wp2_with (first
    | (refine BigFrame.wpList_want rfl fun K hK => wp_load_row 32 (.tmp 7) rfl V1.heap.size rfl _ _ _ _ HO5.out Tryz.underlying32 rfl (by kernel_rfl) (hK _ _ ?_))
    | (refine BigFrame.wpList_want rfl fun K hK => wp_load_row 32 (.tmp 3) rfl w.heap.size rfl _ _ _ _ HX5.out Tryz.underlying32 rfl (by kernel_rfl) (hK _ _ ?_)))
  refine (sameScreen_any s _ _ _ cv tv gv V5 HV5.out (HV.out.next HB5.out) HBK.out.small).mono ?_
  rintro e V6 ⟨rfl, b6⟩
  have HB6 : Hid (Below w.heap.size w V6) := HB5.out.trans (b6.mono HB5.out.size)
  have HX6 : Hid (V6.heap[w.heap.size]? = _) := Grd.carry HX5.out b6
  have HL6 : Hid (V6.heap[V3.heap.size]? = _) := Grd.carry HL5.out b6
  have HZ6 : Hid (ScrV V6 zScr (.slice d1 m1 e1) (.slice d2 m2 e2) (.slice d3 m3 e3)) := HZ5.out.next b6
  clear b6 HX5 HO5 HL5 HV5 HZ5 HB5
  go_wp2_with (refine wpList_load_row rfl 32 (.tmp 3) rfl w.heap.size rfl _ _ _ _ HX6.out Tryz.underlying32 rfl (by kernel_rfl) ?_)
  refine (HCK.out _ HB6.out).mono ?_
  rintro e V7 ⟨rfl, b7⟩
  have HB7 : Hid (Below w.heap.size w V7) := HB6.out.trans (b7.mono HB6.out.size)
  have HL7 : Hid (V7.heap[V3.heap.size]? = _) := Grd.carry HL6.out b7
  have HZ7 : Hid (ScrV V7 zScr (.slice d1 m1 e1) (.slice d2 m2 e2) (.slice d3 m3 e3)) := HZ6.out.next b7
  clear b7 HX6 HL6 HZ6 HB6
  go_wp2_with (refine BigFrame.wpList_want rfl fun K hK => wp_load_row 32 (.tmp 8) rfl V3.heap.size rfl _ _ _ _ HL7.out Tryz.underlying32 rfl (by kernel_rfl) (hK _ _ ?_))
  refine (noScreen_any _ _ _ V7 HZ7.out).mono ?_
  rintro e V8 ⟨rfl, b8⟩
  have HB8 : Hid (Below w.heap.size w V8) := HB7.out.trans (b8.mono HB7.out.size)
  clear b8
  go_wp2_with fail
  go_ret
  exact ⟨rfl, HB8.out⟩
set_option maxHeartbeats 8000000 in
set_option maxRecDepth 100000 in
theorem does_good (s s' s2 : Scr) (n hh : Nat) (rows2 : List (List C)) (cv tv gv : Value) (cf df : FuncId) (ccaps dcaps : Array Value) (hcf : Plain cf) (hdf : Plain df) (w : World) (hT : Txt.Tab w) (hV : ScrV w s cv tv gv) (hB : Bulk s) (hR : RightS s n hh) (hz : scrErr s = 0) (hS' : Small s')
    (hdo : Acts df dcaps w s s2 (rowsL n s.cs hh) rows2) (hrl : rows2.length = hh) (hrn : ∀ i, i < rows2.length → (rows2.getD i []).length = n) (heq : { s2 with w := (n : Int), h := (hh : Int), cs := rows2.flatten } = s')
    (hcall : ∀ w0 W cv tv gv, Below w.heap.size w w0 → Met w0 W s cv tv gv → Calls Tryz.prog cf (#[.agg (scrA s cv tv gv)] ++ ccaps) W (Made w0 W s' 0)) :
    Calls Tryz.prog 26 #[.agg (scrA s cv tv gv), .func (.func cf) #[] ccaps, .func (.func df) #[] dcaps] w fun e w' => e = .returned (.bool true) ∧ Below w.heap.size w w' := by
  have x0 := heap_alloc_new w (.cells (scrA s cv tv gv) 32)
  have kb : Below w.heap.size w (w.alloc (.cells (scrA s cv tv gv) 32)) := (Below.refl _ _).alloc (Nat.le_refl _) _
  have HP : Hid (∀ W, Below w.heap.size w W → Calls Tryz.prog 63 #[] W fun e w' => e = .returned (.bool true) ∧ Below W.heap.size W w') := fun W h => printed_any W (Grd.Tab.next hT h)
  have HTB : Hid (∀ W, Below w.heap.size w W → Txt.Tab W) := fun W h => Grd.Tab.next hT h
  have HX0 : Hid _ := x0
  have HKB : Hid _ := kb
  have HV : Hid (ScrV w s cv tv gv) := hV
  have HBK : Hid (Bulk s) := hB
  have HC : Hid (∀ w0 W cv tv gv, Below w.heap.size w w0 → Met w0 W s cv tv gv → Calls Tryz.prog cf (#[.agg (scrA s cv tv gv)] ++ ccaps) W (Made w0 W s' 0)) := hcall
  have HCK : Hid (∀ W, Below w.heap.size w W → Calls Tryz.prog 65 #[.agg (scrA s cv tv gv)] W fun e w' => e = .returned (.int .i64 0) ∧ Below W.heap.size W w') := fun W h => by
    have := checkScreen_any s cv tv gv W (hV.next h) hB.f
    rw [hz] at this
    exact this
  have HRR : Hid (RightS s n hh) := hR
  have HSM : Hid (Small s') := hS'
  have HDO : Hid (Acts df dcaps w s s2 (rowsL n s.cs hh) rows2) := hdo
  have HRL : Hid (rows2.length = hh ∧ (∀ i, i < rows2.length → (rows2.getD i []).length = n) ∧ { s2 with w := (n : Int), h := (hh : Int), cs := rows2.flatten } = s') := ⟨hrl, hrn, heq⟩
  have HOW := ownScreen_any s cv tv gv _ (hV.next kb) hB
  unfold Plain at hcf hdf
  clear x0 kb hT hV hB hz hcall hR hS' hdo hrl hrn heq
  go_enter Tryz.func26, Tryz.ntmps26
  go_wp2_with (refine wpList_load_row rfl 32 (.tmp 3) rfl w.heap.size rfl _ _ _ _ HX0.out Tryz.underlying32 rfl (by kernel_rfl) ?_)
  refine HOW.mono ?_
  rintro e V1 ⟨cv1, tv1, gv1, rfl, hV1, b1⟩
  obtain ⟨a1, n1, c1, a2, n2, c2, a3, n3, c3, rfl, rfl, rfl⟩ := hV1.shapes
  have HB1 : Hid (Below w.heap.size w V1) := HKB.out.trans (b1.mono HKB.out.size)
  have HX1 : Hid (V1.heap[w.heap.size]? = _) := Grd.carry HX0.out b1
  have HV1 : Hid (ScrV V1 s _ _ _) := hV1
  obtain ⟨k1, k2, k3, k4⟩ := kept_v (A := scrA s (.slice a1 n1 c1) (.slice a2 n2 c2) (.slice a3 n3 c3)) HB1.out
  have HK1 : Hid _ := k1
  have HK2 : Hid _ := k2
  have HK3 : Hid _ := k3
  have HK4 : Hid _ := k4
  have HX2 : Hid _ := Grd.carry HX1.out k2
  have hlt1 := heap_lt k1
  clear HOW hV1 b1 k1 k2 k3 k4
  go_upto_region 2 with (refine wpList_store_row rfl 32 (.tmp 7) _ rfl V1.heap.size (scrA s (.slice a1 n1 c1) (.slice a2 n2 c2) (.slice a3 n3 c3)) rfl rfl _ _ HK4.out (by kernel_rfl) rfl (scr_one _ _ _ _ _ _ _ _ _ _) ?_)
  have HCF := HC.out V1 _ _ _ _ HB1.out ⟨HTB.out _ HK3.out, HV1.out, HK2.out, HBK.out.f⟩
  clear HK4
  generalize ((V1.alloc (.cells #[.int .i64 0, .int .i64 0, .slice none 0 0, .int .i64 0, .int .i64 0, .bool false, .int .i64 0, .int .i64 0, .int .i64 0, .int .i64 0, .int .i64 0, .int .i64 0, .slice none 0 0, .int .i64 0, .int .i64 0, .int .i64 0, .int .i64 0, .int .i64 0, .int .i64 0, .int .i32 0, .string ⟨#[]⟩, .slice none 0 0] 32)).setRow V1.heap.size (scrA s (.slice a1 n1 c1) (.slice a2 n2 c2) (.slice a3 n3 c3))) = X2 at *
  go_wp2_with (refine wpList_load_row rfl 32 (.tmp 7) rfl V1.heap.size rfl _ _ _ _ HK1.out Tryz.underlying32 rfl (by kernel_rfl) ?_)
  refine HCF.mono ?_
  rintro e V3 ⟨cv3, tv3, gv3, rfl, hO3, b3⟩
  obtain ⟨d1, m1, e1, d2, m2, e2, d3, m3, e3, rfl, rfl, rfl⟩ := hO3.shapes
  have HB3 : Hid (Below w.heap.size w V3) := HK3.out.trans (b3.mono HK3.out.size)
  have HX3 : Hid (V3.heap[w.heap.size]? = _) := Grd.carry HX2.out b3
  have HO3 : Hid (V3.heap[V1.heap.size]? = _) := Grd.carry HK1.out b3
  have HV3 : Hid (ScrV V3 s (.slice a1 n1 c1) (.slice a2 n2 c2) (.slice a3 n3 c3)) := (HV1.out.next HK2.out).next b3
  have HZ3 : Hid (ScrV V3 s' _ _ _) := hO3.scr
  obtain ⟨k1, k2, k3, k4⟩ := kept_v (A := scrA s' (.slice d1 m1 e1) (.slice d2 m2 e2) (.slice d3 m3 e3)) HB3.out
  have HL1 : Hid _ := k1
  have HL3 : Hid _ := k3
  have HL4 : Hid _ := k4
  have HX4 : Hid _ := Grd.carry HX3.out k2
  have HO4 : Hid _ := Grd.carry HO3.out k2
  have HV4 : Hid (ScrV _ s (.slice a1 n1 c1) (.slice a2 n2 c2) (.slice a3 n3 c3)) := HV3.out.next k2
  have HZ4 : Hid (ScrV _ s' (.slice d1 m1 e1) (.slice d2 m2 e2) (.slice d3 m3 e3)) := HZ3.out.next k2
  clear HCF hO3 b3 k1 k2 k3 k4 HC HK1 HK2 HK3 HX2 HX1 HX0 HV1 HB1 HKB
  go_upto_region 3 with (refine wpList_store_row rfl 32 (.tmp 8) _ rfl V3.heap.size (scrA s' (.slice d1 m1 e1) (.slice d2 m2 e2) (.slice d3 m3 e3)) rfl rfl _ _ HL4.out (by kernel_rfl) rfl (scr_one _ _ _ _ _ _ _ _ _ _) ?_)
  clear HL4 HX3 HO3 HV3 HZ3
  generalize ((V3.alloc (.cells #[.int .i64 0, .int .i64 0, .slice none 0 0, .int .i64 0, .int .i64 0, .bool false, .int .i64 0, .int .i64 0, .int .i64 0, .int .i64 0, .int .i64 0, .int .i64 0, .slice none 0 0, .int .i64 0, .int .i64 0, .int .i64 0, .int .i64 0, .int .i64 0, .int .i64 0, .int .i32 0, .string ⟨#[]⟩, .slice none 0 0] 32)).setRow V3.heap.size (scrA s' (.slice d1 m1 e1) (.slice d2 m2 e2) (.slice d3 m3 e3))) = X4 at *
  go_wp2_with fail
  refine (HP.out _ HL3.out).mono ?_
  rintro e V5 ⟨rfl, b5⟩
  have HB5 : Hid (Below w.heap.size w V5) := HL3.out.trans (b5.mono HL3.out.size)
  have HX5 : Hid (V5.heap[w.heap.size]? = _) := Grd.carry HX4.out b5
  have HO5 : Hid (V5.heap[V1.heap.size]? = _) := Grd.carry HO4.out b5
  have HL5 : Hid (V5.heap[V3.heap.size]? = _) := Grd.carry HL1.out b5
  have HV5 : Hid (ScrV V5 s (.slice a1 n1 c1) (.slice a2 n2 c2) (.slice a3 n3 c3)) := HV4.out.next b5
  have HZ5 : Hid (ScrV V5 s' (.slice d1 m1 e1) (.slice d2 m2 e2) (.slice d3 m3 e3)) := HZ4.out.next b5
  clear b5 HX4 HO4 HL1 HV4 HZ4 HL3
  go_wp2_with (first
    | (refine BigFrame.wpList_want rfl fun K hK => wp_load_row 32 (.tmp 7) rfl V1.heap.size rfl _ _ _ _ HO5.out Tryz.underlying32 rfl (by kernel_rfl) (hK _ _ ?_))
    | (refine BigFrame.wpList_want rfl fun K hK => wp_load_row 32 (.tmp 3) rfl w.heap.size rfl _ _ _ _ HX5.out Tryz.underlying32 rfl (by kernel_rfl) (hK _ _ ?_)))
  refine (sameScreen_any s _ _ _ cv tv gv V5 HV5.out (HV.out.next HB5.out) HBK.out.small).mono ?_
  rintro e V6 ⟨rfl, b6⟩
  have HB6 : Hid (Below w.heap.size w V6) := HB5.out.trans (b6.mono HB5.out.size)
  have HX6 : Hid (V6.heap[w.heap.size]? = _) := Grd.carry HX5.out b6
  have HL6 : Hid (V6.heap[V3.heap.size]? = _) := Grd.carry HL5.out b6
  have HZ6 : Hid (ScrV V6 s' (.slice d1 m1 e1) (.slice d2 m2 e2) (.slice d3 m3 e3)) := HZ5.out.next b6
  clear b6 HX5 HO5 HL5 HV5 HZ5 HB5
  go_wp2_with (refine wpList_load_row rfl 32 (.tmp 3) rfl w.heap.size rfl _ _ _ _ HX6.out Tryz.underlying32 rfl (by kernel_rfl) ?_)
  refine (HCK.out _ HB6.out).mono ?_
  rintro e V7 ⟨rfl, b7⟩
  have HB7 : Hid (Below w.heap.size w V7) := HB6.out.trans (b7.mono HB6.out.size)
  have HL7 : Hid (V7.heap[V3.heap.size]? = _) := Grd.carry HL6.out b7
  have HX7' : Hid (V7.heap[w.heap.size]? = _) := Grd.carry HX6.out b7
  have HZ7 : Hid (ScrV V7 s' (.slice d1 m1 e1) (.slice d2 m2 e2) (.slice d3 m3 e3)) := HZ6.out.next b7
  clear b7 HX6 HL6 HZ6 HB6
  go_upto_region 8 with fail
  have HX7 : Hid (V7.heap[w.heap.size]? = _) := HX7'.out
  go_wp2_with (refine wpList_load_row rfl 32 (.tmp 3) rfl w.heap.size rfl _ _ _ _ HX7.out Tryz.underlying32 rfl (by kernel_rfl) ?_)
  refine (take_any n hh s cv tv gv w V7 HV.out HB7.out HBK.out.f HRR.out.w HRR.out.h HRR.out.gz).mono ?_
  rintro e V8 ⟨p, rfl, hD8, b8⟩
  have HB8 : Hid (Below w.heap.size w V8) := HB7.out.trans (b8.mono HB7.out.size)
  have HDD := HDO.out V7.heap.size V8 p HB8.out HB7.out.size b8.size hD8
  have HB78 : Hid (Below V7.heap.size V7 V8) := b8
  clear b8 hD8
  go_wp2_with fail
  refine HDD.mono ?_
  rintro e V9 ⟨rfl, hD9, b9⟩
  have HB79 : Hid (Below V7.heap.size V7 V9) := HB78.out.trans b9
  have HB9 : Hid (Below w.heap.size w V9) := HB7.out.trans (HB79.out.mono HB7.out.size)
  have HGV : Hid (∀ W, Below V9.heap.size V9 W → Calls Tryz.prog 68 #[.pointer (some ⟨p, 0, none⟩)] W fun e W' => ∃ cv' tv' gv', e = .returned (.agg (scrA s' cv' tv' gv')) ∧ ScrV W' s' cv' tv' gv' ∧ Below W.heap.size W W') := fun W hW => by
    have h := give_any W _ p s2 rows2 (hD9.next hW) n hh HRR.out.n1 HRR.out.n2 HRR.out.h1 HRR.out.h2 HRL.out.1 HRL.out.2.1 _ rfl
    rw [HRL.out.2.2] at h
    exact h
  have HL9 : Hid (V9.heap[V3.heap.size]? = _) := Grd.carry HL7.out HB79.out
  have HZ9 : Hid (ScrV V9 s' (.slice d1 m1 e1) (.slice d2 m2 e2) (.slice d3 m3 e3)) := HZ7.out.next HB79.out
  clear b9 hD9 HDD HL7 HZ7 HX7 HX7' HB7 HB8 HB78 HB79 HCK HDO HP HTB
  go_upto_region 10 with fail
  have SK : Hid (∀ w', Below V9.heap.size V9 w' → Below V9.heap.size V9 w' ∧ ScrPtr w' (.pointer (some ⟨V3.heap.size, 0, none⟩)) ∧ blkAt w' (.pointer (some ⟨V3.heap.size, 0, none⟩)) = scrA s' (.slice d1 m1 e1) (.slice d2 m2 e2) (.slice d3 m3 e3)) := fun w' hb => by
    have hx := Grd.carry HL9.out hb
    exact ⟨hb, (scrPtr_of hx).1, (scrPtr_of hx).2⟩
  have b0 : Below V9.heap.size V9 V9.drew := (Below.refl _ _).drew
  go_region_held3 (fun w' => Below V9.heap.size V9 w' ∧ ScrPtr w' (.pointer (some ⟨V3.heap.size, 0, none⟩)) ∧ blkAt w' (.pointer (some ⟨V3.heap.size, 0, none⟩)) = scrA s' (.slice d1 m1 e1) (.slice d2 m2 e2) (.slice d3 m3 e3))
    (first | exact SK.out _ q2 | exact SK.out _ q1 | exact SK.out _ b0)
    (first
      | (go_at_call 64; refine (sameScreen_any s' _ _ _ _ _ _ _ (HZ9.out.next q1) HG1.out HSM.out).mono ?_; rintro e U2 ⟨rfl, g2⟩; have q2 := q1.trans (g2.mono q1.size); clear g2)
      | (go_at_call 68; refine (HGV.out _ b0).mono ?_; rintro e U1 ⟨y1, y2, y3, rfl, hG1, g1⟩; have q1 := b0.trans (g1.mono b0.size); have HG1 : Hid (ScrV U1 s' y1 y2 y3) := hG1; clear g1 hG1))
  go_wp2_with fail
  go_ret
  exact ⟨rfl, HB9.out.trans (q2.mono HB9.out.size)⟩
end
end Put
end Go.Proofs.YtnkeahfcpbepjaaGreatDoor

/- trellislaw.acts and one: a call, and what a name says. -/
namespace Go.Proofs.YtnkeahfcpbepjaaGreatDoor
set_option linter.unusedVariables false
open Go.ChangeShapes Go.WideShapes Go.ChangeAt Go.RowKit
namespace Put
open Grd (C SliceAt CellsAt gridErr z0 nilV rowsL RowsAt RowB flat)
theorem cell_box {W : World} {R : Nat} {v : Value} {t : TypeId} (h : W.heap[R]? = some (.cells #[v] t (0, 0))) : W.cell? ⟨R, 0, none⟩ = some v := by simp [World.cell?, h]
/-- What a name does to a desk. -/
def ActMakes (what : ByteArray) (n m : Int) (s s2 : Scr) (rows rows2 : List (List C)) : Prop :=
  ∀ N W p, N ≤ W.heap.size → DkAt W N p s rows → Calls Tryz.prog 39 #[.pointer (some ⟨p, 0, none⟩), .string what, .int .i64 n, .int .i64 m] W fun e W' => e = .returned (.tuple #[]) ∧ DkAt W' N p s2 rows2 ∧ Below N W W'
theorem plain_acts : Plain 38 := by
  intro args W
  kernel_rfl
set_option maxHeartbeats 1000000 in
theorem acts1_acts {what : ByteArray} {n m : Int} {s s2 : Scr} {rows rows2 : List (List C)} (h : ActMakes what n m s s2 rows rows2) (B1 B2 B3 : Nat) (w : World) (h1 : w.cell? ⟨B1, 0, none⟩ = some (.string what)) (h2 : w.cell? ⟨B2, 0, none⟩ = some (.int .i64 n)) (h3 : w.cell? ⟨B3, 0, none⟩ = some (.int .i64 m)) :
    Acts 38 #[.pointer (some ⟨B1, 0, none⟩), .pointer (some ⟨B2, 0, none⟩), .pointer (some ⟨B3, 0, none⟩)] w s s2 rows rows2 := by
  intro N W p hb hN hN2 hD
  have q1 := cell_stay hb h1
  have q2 := cell_stay hb h2
  have q3 := cell_stay hb h3
  have H := h N W p hN2 hD
  clear h hD h1 h2 h3 hb
  show Calls _ _ #[.pointer (some ⟨p, 0, none⟩), .pointer (some ⟨B1, 0, none⟩), .pointer (some ⟨B2, 0, none⟩), .pointer (some ⟨B3, 0, none⟩)] _ _
  go_enter Tryz.func38, Tryz.ntmps38
  go_wp2_with fail
  refine H.mono ?_
  rintro e W1 ⟨rfl, hD1, b1⟩
  go_wp2_with fail
  go_end0
  exact ⟨rfl, hD1, b1⟩
set_option maxHeartbeats 2000000 in
set_option maxRecDepth 100000 in
theorem acts_calls (s : Scr) (cv tv gv fv : Value) (what : ByteArray) (n m : Int) (w : World) (hV : ScrV w s cv tv gv)
    (hD : ∀ W B1 B2 B3, Below w.heap.size w W → W.cell? ⟨B1, 0, none⟩ = some (.string what) → W.cell? ⟨B2, 0, none⟩ = some (.int .i64 n) → W.cell? ⟨B3, 0, none⟩ = some (.int .i64 m) → Calls Tryz.prog 26 #[.agg (scrA s cv tv gv), fv, .func (.func 38) #[] #[.pointer (some ⟨B1, 0, none⟩), .pointer (some ⟨B2, 0, none⟩), .pointer (some ⟨B3, 0, none⟩)]] W fun e w' => e = .returned (.bool true) ∧ Below W.heap.size W w') :
    Calls Tryz.prog 12 #[.agg (scrA s cv tv gv), fv, .string what, .int .i64 n, .int .i64 m] w fun e w' => e = .returned (.bool true) ∧ Below w.heap.size w w' := by
  obtain ⟨ca, cc, rfl⟩ := hV.c.shape
  obtain ⟨ta, tc, rfl⟩ := hV.t.slice
  obtain ⟨ga, gc, rfl⟩ := hV.g.slice
  have hkb : Below w.heap.size w ((((w.alloc (.cells (scrA s (.slice ca s.cs.length cc) (.slice ta s.tabs.length tc) (.slice ga s.gone.length gc)) 32)).alloc (.cells #[.string what] 9)).alloc (.cells #[.int .i64 n] 3)).alloc (.cells #[.int .i64 m] 3)) := (((((Below.refl _ _).alloc (by simp) _).alloc (by simp) _).alloc (by simp; omega) _).alloc (by simp; omega) _)
  have hx0 : (w.alloc (.cells (scrA s (.slice ca s.cs.length cc) (.slice ta s.tabs.length tc) (.slice ga s.gone.length gc)) 32)).heap[w.heap.size]? = some (.cells (scrA s (.slice ca s.cs.length cc) (.slice ta s.tabs.length tc) (.slice ga s.gone.length gc)) 32 (0, 0)) := by
    have h := heap_alloc_new w (.cells (scrA s (.slice ca s.cs.length cc) (.slice ta s.tabs.length tc) (.slice ga s.gone.length gc)) 32)
    have e : w.heap.size = w.heap.size := by simp
    rw [e] at h
    exact h
  have hx0 := (Below.heap_alloc (w.alloc (.cells (scrA s (.slice ca s.cs.length cc) (.slice ta s.tabs.length tc) (.slice ga s.gone.length gc)) 32)) (.cells #[.string what] 9) _ (heap_lt hx0)).trans hx0
  have hx0 := (Below.heap_alloc ((w.alloc (.cells (scrA s (.slice ca s.cs.length cc) (.slice ta s.tabs.length tc) (.slice ga s.gone.length gc)) 32)).alloc (.cells #[.string what] 9)) (.cells #[.int .i64 n] 3) _ (heap_lt hx0)).trans hx0
  have hx0 := (Below.heap_alloc (((w.alloc (.cells (scrA s (.slice ca s.cs.length cc) (.slice ta s.tabs.length tc) (.slice ga s.gone.length gc)) 32)).alloc (.cells #[.string what] 9)).alloc (.cells #[.int .i64 n] 3)) (.cells #[.int .i64 m] 3) _ (heap_lt hx0)).trans hx0
  have hx1 : ((w.alloc (.cells (scrA s (.slice ca s.cs.length cc) (.slice ta s.tabs.length tc) (.slice ga s.gone.length gc)) 32)).alloc (.cells #[.string what] 9)).heap[w.heap.size + 1]? = some (.cells #[.string what] 9 (0, 0)) := by
    have h := heap_alloc_new (w.alloc (.cells (scrA s (.slice ca s.cs.length cc) (.slice ta s.tabs.length tc) (.slice ga s.gone.length gc)) 32)) (.cells #[.string what] 9)
    have e : (w.alloc (.cells (scrA s (.slice ca s.cs.length cc) (.slice ta s.tabs.length tc) (.slice ga s.gone.length gc)) 32)).heap.size = w.heap.size + 1 := by simp
    rw [e] at h
    exact h
  have hx1 := (Below.heap_alloc ((w.alloc (.cells (scrA s (.slice ca s.cs.length cc) (.slice ta s.tabs.length tc) (.slice ga s.gone.length gc)) 32)).alloc (.cells #[.string what] 9)) (.cells #[.int .i64 n] 3) _ (heap_lt hx1)).trans hx1
  have hx1 := (Below.heap_alloc (((w.alloc (.cells (scrA s (.slice ca s.cs.length cc) (.slice ta s.tabs.length tc) (.slice ga s.gone.length gc)) 32)).alloc (.cells #[.string what] 9)).alloc (.cells #[.int .i64 n] 3)) (.cells #[.int .i64 m] 3) _ (heap_lt hx1)).trans hx1
  have hx2 : (((w.alloc (.cells (scrA s (.slice ca s.cs.length cc) (.slice ta s.tabs.length tc) (.slice ga s.gone.length gc)) 32)).alloc (.cells #[.string what] 9)).alloc (.cells #[.int .i64 n] 3)).heap[w.heap.size + 2]? = some (.cells #[.int .i64 n] 3 (0, 0)) := by
    have h := heap_alloc_new ((w.alloc (.cells (scrA s (.slice ca s.cs.length cc) (.slice ta s.tabs.length tc) (.slice ga s.gone.length gc)) 32)).alloc (.cells #[.string what] 9)) (.cells #[.int .i64 n] 3)
    have e : ((w.alloc (.cells (scrA s (.slice ca s.cs.length cc) (.slice ta s.tabs.length tc) (.slice ga s.gone.length gc)) 32)).alloc (.cells #[.string what] 9)).heap.size = w.heap.size + 2 := by simp
    rw [e] at h
    exact h
  have hx2 := (Below.heap_alloc (((w.alloc (.cells (scrA s (.slice ca s.cs.length cc) (.slice ta s.tabs.length tc) (.slice ga s.gone.length gc)) 32)).alloc (.cells #[.string what] 9)).alloc (.cells #[.int .i64 n] 3)) (.cells #[.int .i64 m] 3) _ (heap_lt hx2)).trans hx2
  have hx3 : ((((w.alloc (.cells (scrA s (.slice ca s.cs.length cc) (.slice ta s.tabs.length tc) (.slice ga s.gone.length gc)) 32)).alloc (.cells #[.string what] 9)).alloc (.cells #[.int .i64 n] 3)).alloc (.cells #[.int .i64 m] 3)).heap[w.heap.size + 3]? = some (.cells #[.int .i64 m] 3 (0, 0)) := by
    have h := heap_alloc_new (((w.alloc (.cells (scrA s (.slice ca s.cs.length cc) (.slice ta s.tabs.length tc) (.slice ga s.gone.length gc)) 32)).alloc (.cells #[.string what] 9)).alloc (.cells #[.int .i64 n] 3)) (.cells #[.int .i64 m] 3)
    have e : (((w.alloc (.cells (scrA s (.slice ca s.cs.length cc) (.slice ta s.tabs.length tc) (.slice ga s.gone.length gc)) 32)).alloc (.cells #[.string what] 9)).alloc (.cells #[.int .i64 n] 3)).heap.size = w.heap.size + 3 := by simp
    rw [e] at h
    exact h
  have HX0 : Hid _ := hx0
  have HKB : Hid _ := hkb
  have HC := hD _ (w.heap.size + 1) (w.heap.size + 2) (w.heap.size + 3) hkb (cell_box hx1) (cell_box hx2) (cell_box hx3)
  clear hkb hV hD hx0 hx1 hx2 hx3
  go_enter Tryz.func12, Tryz.ntmps12
  go_upto_region 1 with fail
  generalize ((((w.alloc (.cells (scrA s (.slice ca s.cs.length cc) (.slice ta s.tabs.length tc) (.slice ga s.gone.length gc)) 32)).alloc (.cells #[.string what] 9)).alloc (.cells #[.int .i64 n] 3)).alloc (.cells #[.int .i64 m] 3)) = X at *
  go_wp2_with (refine wpList_load_row rfl 32 (.tmp 5) rfl w.heap.size rfl _ _ _ _ HX0.out Tryz.underlying32 rfl (by kernel_rfl) ?_)
  refine HC.mono ?_
  rintro e V ⟨rfl, b⟩
  have HB : Hid (Below w.heap.size w V) := HKB.out.trans (b.mono HKB.out.size)
  clear HC b
  go_wp2_with fail
  go_ret
  exact ⟨rfl, HB.out⟩
set_option maxHeartbeats 2000000 in
set_option maxRecDepth 100000 in
theorem one1_calls (s s' : Scr) (cv tv gv : Value) (cf : FuncId) (hcf : Plain cf) (n : Int) (B1 B2 : Nat) (er : Int) (w0 w : World) (hV : ScrV w0 s cv tv gv) (hM : w0.heap.size ≤ w.heap.size) (h1 : w.cell? ⟨B1, 0, none⟩ = some (.func (.func cf) #[] #[])) (h2 : w.cell? ⟨B2, 0, none⟩ = some (.int .i64 n))
    (hC : ∀ W, Below w.heap.size w W → Calls Tryz.prog cf #[.agg (scrA s cv tv gv), .int .i64 n] W (Made w0 W s' er)) :
    Calls Tryz.prog 32 #[.agg (scrA s cv tv gv), .pointer (some ⟨B1, 0, none⟩), .pointer (some ⟨B2, 0, none⟩)] w (Made w0 w s' er) := by
  obtain ⟨ca, cc, rfl⟩ := hV.c.shape
  obtain ⟨ta, tc, rfl⟩ := hV.t.slice
  obtain ⟨ga, gc, rfl⟩ := hV.g.slice
  have hkb : Below w.heap.size w ((w.alloc (.cells (scrA s (.slice ca s.cs.length cc) (.slice ta s.tabs.length tc) (.slice ga s.gone.length gc)) 32)).alloc (.cells #[.int .i64 0, .int .i64 0, .slice none 0 0, .int .i64 0, .int .i64 0, .bool false, .int .i64 0, .int .i64 0, .int .i64 0, .int .i64 0, .int .i64 0, .int .i64 0, .slice none 0 0, .int .i64 0, .int .i64 0, .int .i64 0, .int .i64 0, .int .i64 0, .int .i64 0, .int .i32 0, .string ⟨#[]⟩, .slice none 0 0] 32)) := (((Below.refl _ _).alloc (by simp) _).alloc (by simp) _)
  have hx0 : (w.alloc (.cells (scrA s (.slice ca s.cs.length cc) (.slice ta s.tabs.length tc) (.slice ga s.gone.length gc)) 32)).heap[w.heap.size]? = some (.cells (scrA s (.slice ca s.cs.length cc) (.slice ta s.tabs.length tc) (.slice ga s.gone.length gc)) 32 (0, 0)) := by
    have h := heap_alloc_new w (.cells (scrA s (.slice ca s.cs.length cc) (.slice ta s.tabs.length tc) (.slice ga s.gone.length gc)) 32)
    have e : w.heap.size = w.heap.size := by simp
    rw [e] at h
    exact h
  have hx0 := (Below.heap_alloc (w.alloc (.cells (scrA s (.slice ca s.cs.length cc) (.slice ta s.tabs.length tc) (.slice ga s.gone.length gc)) 32)) (.cells #[.int .i64 0, .int .i64 0, .slice none 0 0, .int .i64 0, .int .i64 0, .bool false, .int .i64 0, .int .i64 0, .int .i64 0, .int .i64 0, .int .i64 0, .int .i64 0, .slice none 0 0, .int .i64 0, .int .i64 0, .int .i64 0, .int .i64 0, .int .i64 0, .int .i64 0, .int .i32 0, .string ⟨#[]⟩, .slice none 0 0] 32) _ (heap_lt hx0)).trans hx0
  have hx1 : ((w.alloc (.cells (scrA s (.slice ca s.cs.length cc) (.slice ta s.tabs.length tc) (.slice ga s.gone.length gc)) 32)).alloc (.cells #[.int .i64 0, .int .i64 0, .slice none 0 0, .int .i64 0, .int .i64 0, .bool false, .int .i64 0, .int .i64 0, .int .i64 0, .int .i64 0, .int .i64 0, .int .i64 0, .slice none 0 0, .int .i64 0, .int .i64 0, .int .i64 0, .int .i64 0, .int .i64 0, .int .i64 0, .int .i32 0, .string ⟨#[]⟩, .slice none 0 0] 32)).heap[w.heap.size + 1]? = some (.cells #[.int .i64 0, .int .i64 0, .slice none 0 0, .int .i64 0, .int .i64 0, .bool false, .int .i64 0, .int .i64 0, .int .i64 0, .int .i64 0, .int .i64 0, .int .i64 0, .slice none 0 0, .int .i64 0, .int .i64 0, .int .i64 0, .int .i64 0, .int .i64 0, .int .i64 0, .int .i32 0, .string ⟨#[]⟩, .slice none 0 0] 32 (0, 0)) := by
    have h := heap_alloc_new (w.alloc (.cells (scrA s (.slice ca s.cs.length cc) (.slice ta s.tabs.length tc) (.slice ga s.gone.length gc)) 32)) (.cells #[.int .i64 0, .int .i64 0, .slice none 0 0, .int .i64 0, .int .i64 0, .bool false, .int .i64 0, .int .i64 0, .int .i64 0, .int .i64 0, .int .i64 0, .int .i64 0, .slice none 0 0, .int .i64 0, .int .i64 0, .int .i64 0, .int .i64 0, .int .i64 0, .int .i64 0, .int .i32 0, .string ⟨#[]⟩, .slice none 0 0] 32)
    have e : (w.alloc (.cells (scrA s (.slice ca s.cs.length cc) (.slice ta s.tabs.length tc) (.slice ga s.gone.length gc)) 32)).heap.size = w.heap.size + 1 := by simp
    rw [e] at h
    exact h
  have HX0 : Hid _ := hx0
  have HXR : Hid _ := hx1
  have HKB : Hid _ := hkb
  have HC := hC _ hkb
  have q1 := cell_stay hkb h1
  have q2 := cell_stay hkb h2
  have hsz : w.heap.size ≤ ((w.alloc (.cells (scrA s (.slice ca s.cs.length cc) (.slice ta s.tabs.length tc) (.slice ga s.gone.length gc)) 32)).alloc (.cells #[.int .i64 0, .int .i64 0, .slice none 0 0, .int .i64 0, .int .i64 0, .bool false, .int .i64 0, .int .i64 0, .int .i64 0, .int .i64 0, .int .i64 0, .int .i64 0, .slice none 0 0, .int .i64 0, .int .i64 0, .int .i64 0, .int .i64 0, .int .i64 0, .int .i64 0, .int .i32 0, .string ⟨#[]⟩, .slice none 0 0] 32)).heap.size := hkb.size
  unfold Plain at hcf
  clear hkb hV hC hx0 hx1 h1 h2
  go_enter Tryz.func32, Tryz.ntmps32
  go_upto_region 1 with fail
  generalize ((w.alloc (.cells (scrA s (.slice ca s.cs.length cc) (.slice ta s.tabs.length tc) (.slice ga s.gone.length gc)) 32)).alloc (.cells #[.int .i64 0, .int .i64 0, .slice none 0 0, .int .i64 0, .int .i64 0, .bool false, .int .i64 0, .int .i64 0, .int .i64 0, .int .i64 0, .int .i64 0, .int .i64 0, .slice none 0 0, .int .i64 0, .int .i64 0, .int .i64 0, .int .i64 0, .int .i64 0, .int .i64 0, .int .i32 0, .string ⟨#[]⟩, .slice none 0 0] 32)) = X at *
  go_wp2_with (refine wpList_load_row rfl 32 (.tmp 3) rfl w.heap.size rfl _ _ _ _ HX0.out Tryz.underlying32 rfl (by kernel_rfl) ?_)
  refine HC.mono ?_
  rintro e V ⟨cv', tv', gv', rfl, hO, c2⟩
  obtain ⟨a1, n1, c1, a2, n2, c2', a3, n3, c3, rfl, rfl, rfl⟩ := hO.shapes
  have HO : Hid (ScrO V 0 _ s' _ _ _) := hO
  have HR : Hid (V.heap[w.heap.size + 1]? = _) := Grd.carry HXR.out c2
  have HB : Hid (Below w.heap.size w V) := HKB.out.trans (c2.mono HKB.out.size)
  clear hO c2 HC q1 q2
  go_wp2_with (refine wpList_store_row rfl 32 (.tmp 4) (.tmp 10) rfl (w.heap.size + 1) (scrA s' (.slice a1 n1 c1) (.slice a2 n2 c2') (.slice a3 n3 c3)) rfl rfl _ _ HR.out (by kernel_rfl) rfl (scr_one _ _ _ _ _ _ _ _ _ _) ?_)
  (try simp only [Exit.inBlock, Exit.then])
  refine bodyPost_ret (v := .tuple #[.agg (scrA s' (.slice a1 n1 c1) (.slice a2 n2 c2') (.slice a3 n3 c3)), .int .i64 er]) ?_ rfl ⟨_, _, _, rfl, ?_, below_setRow HB.out (by omega) _⟩
  · exact Grd.results_row_tmp rfl _ _ (w.heap.size + 1) _ _ _ _ rfl (setRow_heap _ _ _ _ _ _ HR.out) Tryz.underlying32 rfl (by kernel_rfl) _ rfl
  · exact (ScrO.off HO.out HR.out screen_is (by omega) fun k hk => setRow_other _ _ _ _ hk).mono hsz
set_option maxHeartbeats 2000000 in
set_option maxRecDepth 100000 in
theorem one_calls (s : Scr) (cv tv gv : Value) (cf : FuncId) (what : ByteArray) (n : Int) (w : World) (hV : ScrV w s cv tv gv)
    (hD : ∀ W B1 B2, Below w.heap.size w W → W.cell? ⟨B1, 0, none⟩ = some (.func (.func cf) #[] #[]) → W.cell? ⟨B2, 0, none⟩ = some (.int .i64 n) → Calls Tryz.prog 12 #[.agg (scrA s cv tv gv), .func (.func 32) #[] #[.pointer (some ⟨B1, 0, none⟩), .pointer (some ⟨B2, 0, none⟩)], .string what, .int .i64 n, .int .i64 0] W fun e w' => e = .returned (.bool true) ∧ Below W.heap.size W w') :
    Calls Tryz.prog 8 #[.agg (scrA s cv tv gv), .func (.func cf) #[] #[], .string what, .int .i64 n] w fun e w' => e = .returned (.bool true) ∧ Below w.heap.size w w' := by
  obtain ⟨ca, cc, rfl⟩ := hV.c.shape
  obtain ⟨ta, tc, rfl⟩ := hV.t.slice
  obtain ⟨ga, gc, rfl⟩ := hV.g.slice
  have hkb : Below w.heap.size w (((w.alloc (.cells (scrA s (.slice ca s.cs.length cc) (.slice ta s.tabs.length tc) (.slice ga s.gone.length gc)) 32)).alloc (.cells #[.func (.func cf) #[] #[]] 34)).alloc (.cells #[.int .i64 n] 3)) := ((((Below.refl _ _).alloc (by simp) _).alloc (by simp) _).alloc (by simp; omega) _)
  have hx0 : (w.alloc (.cells (scrA s (.slice ca s.cs.length cc) (.slice ta s.tabs.length tc) (.slice ga s.gone.length gc)) 32)).heap[w.heap.size]? = some (.cells (scrA s (.slice ca s.cs.length cc) (.slice ta s.tabs.length tc) (.slice ga s.gone.length gc)) 32 (0, 0)) := by
    have h := heap_alloc_new w (.cells (scrA s (.slice ca s.cs.length cc) (.slice ta s.tabs.length tc) (.slice ga s.gone.length gc)) 32)
    have e : w.heap.size = w.heap.size := by simp
    rw [e] at h
    exact h
  have hx0 := (Below.heap_alloc (w.alloc (.cells (scrA s (.slice ca s.cs.length cc) (.slice ta s.tabs.length tc) (.slice ga s.gone.length gc)) 32)) (.cells #[.func (.func cf) #[] #[]] 34) _ (heap_lt hx0)).trans hx0
  have hx0 := (Below.heap_alloc ((w.alloc (.cells (scrA s (.slice ca s.cs.length cc) (.slice ta s.tabs.length tc) (.slice ga s.gone.length gc)) 32)).alloc (.cells #[.func (.func cf) #[] #[]] 34)) (.cells #[.int .i64 n] 3) _ (heap_lt hx0)).trans hx0
  have hx1 : ((w.alloc (.cells (scrA s (.slice ca s.cs.length cc) (.slice ta s.tabs.length tc) (.slice ga s.gone.length gc)) 32)).alloc (.cells #[.func (.func cf) #[] #[]] 34)).heap[w.heap.size + 1]? = some (.cells #[.func (.func cf) #[] #[]] 34 (0, 0)) := by
    have h := heap_alloc_new (w.alloc (.cells (scrA s (.slice ca s.cs.length cc) (.slice ta s.tabs.length tc) (.slice ga s.gone.length gc)) 32)) (.cells #[.func (.func cf) #[] #[]] 34)
    have e : (w.alloc (.cells (scrA s (.slice ca s.cs.length cc) (.slice ta s.tabs.length tc) (.slice ga s.gone.length gc)) 32)).heap.size = w.heap.size + 1 := by simp
    rw [e] at h
    exact h
  have hx1 := (Below.heap_alloc ((w.alloc (.cells (scrA s (.slice ca s.cs.length cc) (.slice ta s.tabs.length tc) (.slice ga s.gone.length gc)) 32)).alloc (.cells #[.func (.func cf) #[] #[]] 34)) (.cells #[.int .i64 n] 3) _ (heap_lt hx1)).trans hx1
  have hx2 : (((w.alloc (.cells (scrA s (.slice ca s.cs.length cc) (.slice ta s.tabs.length tc) (.slice ga s.gone.length gc)) 32)).alloc (.cells #[.func (.func cf) #[] #[]] 34)).alloc (.cells #[.int .i64 n] 3)).heap[w.heap.size + 2]? = some (.cells #[.int .i64 n] 3 (0, 0)) := by
    have h := heap_alloc_new ((w.alloc (.cells (scrA s (.slice ca s.cs.length cc) (.slice ta s.tabs.length tc) (.slice ga s.gone.length gc)) 32)).alloc (.cells #[.func (.func cf) #[] #[]] 34)) (.cells #[.int .i64 n] 3)
    have e : ((w.alloc (.cells (scrA s (.slice ca s.cs.length cc) (.slice ta s.tabs.length tc) (.slice ga s.gone.length gc)) 32)).alloc (.cells #[.func (.func cf) #[] #[]] 34)).heap.size = w.heap.size + 2 := by simp
    rw [e] at h
    exact h
  have HX0 : Hid _ := hx0
  have HKB : Hid _ := hkb
  have HC := hD _ (w.heap.size + 1) (w.heap.size + 2) hkb (cell_box hx1) (cell_box hx2)
  have q2 := cell_box hx2
  clear hkb hV hD hx0 hx1 hx2
  go_enter Tryz.func8, Tryz.ntmps8
  go_upto_region 1 with fail
  generalize (((w.alloc (.cells (scrA s (.slice ca s.cs.length cc) (.slice ta s.tabs.length tc) (.slice ga s.gone.length gc)) 32)).alloc (.cells #[.func (.func cf) #[] #[]] 34)).alloc (.cells #[.int .i64 n] 3)) = X at *
  go_wp2_with (refine wpList_load_row rfl 32 (.tmp 4) rfl w.heap.size rfl _ _ _ _ HX0.out Tryz.underlying32 rfl (by kernel_rfl) ?_)
  refine HC.mono ?_
  rintro e V ⟨rfl, b⟩
  have HB : Hid (Below w.heap.size w V) := HKB.out.trans (b.mono HKB.out.size)
  clear HC b q2
  go_wp2_with fail
  go_ret
  exact ⟨rfl, HB.out⟩
theorem plain_one : Plain 32 := by
  intro args W
  kernel_rfl
/-- What a call makes, and what is to be done, of a right screen. -/
def Agrees (what : ByteArray) (n m : Int) (s s' : Scr) (nn hh : Nat) : Prop := Small s' ∧ ∃ s2 rows2, ActMakes what n m s s2 (rowsL nn s.cs hh) rows2 ∧ rows2.length = hh ∧ (∀ i, i < rows2.length → (rows2.getD i []).length = nn) ∧ { s2 with w := (nn : Int), h := (hh : Int), cs := rows2.flatten } = s'
/-- A call, by a name. -/
theorem acts_any (s : Scr) (cv tv gv : Value) (cf : FuncId) (hcf : Plain cf) (ccaps : Array Value) (what : ByteArray) (n m : Int) (w : World) (hT : Txt.Tab w) (hV : ScrV w s cv tv gv) (hB : Bulk s) (s' : Scr)
    (hbad : scrErr s ≠ 0 → ∀ w0 W cv tv gv, Below w.heap.size w w0 → Met w0 W s cv tv gv → Calls Tryz.prog cf (#[.agg (scrA s cv tv gv)] ++ ccaps) W (Made w0 W zScr (scrErr s)))
    (hgood : ∀ nn hh, RightS s nn hh → (∀ w0 W cv tv gv, Below w.heap.size w w0 → Met w0 W s cv tv gv → Calls Tryz.prog cf (#[.agg (scrA s cv tv gv)] ++ ccaps) W (Made w0 W s' 0)) ∧ Agrees what n m s s' nn hh) :
    Calls Tryz.prog 12 #[.agg (scrA s cv tv gv), .func (.func cf) #[] ccaps, .string what, .int .i64 n, .int .i64 m] w fun e w' => e = .returned (.bool true) ∧ Below w.heap.size w w' :=
  acts_calls s cv tv gv _ what n m w hV fun W B1 B2 B3 hW h1 h2 h3 => by
    by_cases hz : scrErr s = 0
    · obtain ⟨nn, hh, hR⟩ := right_of s hz
      obtain ⟨hc, hS, s2, rows2, hA, hrl, hrn, heq⟩ := hgood nn hh hR
      exact does_good s s' s2 nn hh rows2 cv tv gv cf _ ccaps _ hcf plain_acts W (Grd.Tab.next hT hW) (hV.next hW) hB hR hz hS (acts1_acts hA B1 B2 B3 W h1 h2 h3) hrl hrn heq fun w0 W' cv' tv' gv' hb hm => hc w0 W' cv' tv' gv' (hW.trans (hb.mono hW.size)) hm
    · exact does_bad s cv tv gv cf ccaps _ hcf W (Grd.Tab.next hT hW) (hV.next hW) hB hz fun w0 W' cv' tv' gv' hb hm => hbad hz w0 W' cv' tv' gv' (hW.trans (hb.mono hW.size)) hm
/-- A call with one number, by a name. -/
theorem one_any (s : Scr) (cv tv gv : Value) (cf : FuncId) (hcf : Plain cf) (what : ByteArray) (n : Int) (w : World) (hT : Txt.Tab w) (hV : ScrV w s cv tv gv) (hB : Bulk s) (s' : Scr)
    (hbad : scrErr s ≠ 0 → ∀ w0 W cv tv gv, Met w0 W s cv tv gv → Calls Tryz.prog cf #[.agg (scrA s cv tv gv), .int .i64 n] W (Made w0 W zScr (scrErr s)))
    (hgood : ∀ nn hh, RightS s nn hh → (∀ w0 W cv tv gv, Met w0 W s cv tv gv → Calls Tryz.prog cf #[.agg (scrA s cv tv gv), .int .i64 n] W (Made w0 W s' 0)) ∧ Agrees what n 0 s s' nn hh) :
    Calls Tryz.prog 8 #[.agg (scrA s cv tv gv), .func (.func cf) #[] #[], .string what, .int .i64 n] w fun e w' => e = .returned (.bool true) ∧ Below w.heap.size w w' :=
  one_calls s cv tv gv cf what n w hV fun W B1 B2 hW h1 h2 =>
    acts_any s cv tv gv _ plain_one _ what n 0 W (Grd.Tab.next hT hW) (hV.next hW) hB s'
      (fun hz w0 W' cv' tv' gv' hb hm => one1_calls s zScr cv' tv' gv' cf hcf n B1 B2 _ w0 W' hm.v hm.b.size (cell_stay (hb.trans (hm.b.mono hb.size)) h1) (cell_stay (hb.trans (hm.b.mono hb.size)) h2) fun V hV' => hbad hz w0 V cv' tv' gv' (hm.next hV'))
      (fun nn hh hR => ⟨fun w0 W' cv' tv' gv' hb hm => one1_calls s s' cv' tv' gv' cf hcf n B1 B2 _ w0 W' hm.v hm.b.size (cell_stay (hb.trans (hm.b.mono hb.size)) h1) (cell_stay (hb.trans (hm.b.mono hb.size)) h2) fun V hV' => (hgood nn hh hR).1 w0 V cv' tv' gv' (hm.next hV'), (hgood nn hh hR).2⟩)
end Put
end Go.Proofs.YtnkeahfcpbepjaaGreatDoor

/- The desk's Go, often, rowOf. -/
namespace Go.Proofs.YtnkeahfcpbepjaaGreatDoor
open Go.ChangeShapes Go.WideShapes Go.ChangeAt Go.RowKit
namespace Put
open Grd (C SliceAt CellsAt gridErr z0 nilV rowsL RowsAt RowB flat)
theorem below_drewN (W : World) (k : Nat) : Below W.heap.size W (W.drewN k) := ⟨rfl, rfl, rfl, Nat.le_refl _, fun _ _ => rfl⟩
def oft (n : Int) : Int := max 1 (min n 9999)
theorem oft_cnt (n : Int) : oft n = cnt n := by unfold oft cnt withinI; omega
theorem often_any (n : Int) (w : World) : Calls Tryz.prog 92 #[.int .i64 n] w fun e w' => e = .returned (.int .i64 (cnt n)) ∧ w = w' := by
  have h1 := Grd.min2 n 9999
  have h2 := Grd.max2 1 (min n 9999)
  have HE : Hid (max 1 (min n 9999) = cnt n) := oft_cnt n
  go_enter Tryz.func92, Tryz.ntmps92
  go_wp2_with fail
  go_ret
  exact ⟨ret_int HE.out, rfl⟩
/-- A place within the screen. -/
def goS (s : Scr) (x y : Int) : Scr := { s with x := max 0 (min x (s.w - 1)), y := max 0 (min y (s.h - 1)), late := false }
theorem DkAt.three {W : World} {N p : Nat} {s : Scr} {rows : List (List C)} (h : DkAt W N p s rows) (x y : Int) : DkAt (((W.setCell ⟨p, 3, none⟩ (.int .i64 x)).setCell ⟨p, 4, none⟩ (.int .i64 y)).setCell ⟨p, 5, none⟩ (.bool false)) N p { s with x := x, y := y, late := false } rows ∧ Below N W (((W.setCell ⟨p, 3, none⟩ (.int .i64 x)).setCell ⟨p, 4, none⟩ (.int .i64 y)).setCell ⟨p, 5, none⟩ (.bool false)) := by
  have h1 : DkAt (W.setCell ⟨p, 3, none⟩ (.int .i64 x)) N p { s with x := x } rows := h.set 3 _ (fun _ _ _ _ => rfl) rfl rfl
  have h2 : DkAt ((W.setCell ⟨p, 3, none⟩ (.int .i64 x)).setCell ⟨p, 4, none⟩ (.int .i64 y)) N p { s with x := x, y := y } rows := h1.set 4 _ (fun _ _ _ _ => rfl) rfl rfl
  refine ⟨h2.set 5 _ (fun _ _ _ _ => rfl) rfl rfl, (((Below.refl _ _).setCell h.lo _).setCell h.lo _).setCell h.lo _⟩
theorem DkAt.drew {W : World} {N p : Nat} {s : Scr} {rows : List (List C)} (h : DkAt W N p s rows) : DkAt W.drew N p s rows := h.next ((Below.refl _ _).drew)
set_option maxHeartbeats 4000000 in
theorem go_any {N p : Nat} {s : Scr} {rows : List (List C)} (x y : Int) (W : World) (h : DkAt W N p s rows) (w1 : 1 ≤ s.w) (w2 : s.w ≤ 120) (w3 : 1 ≤ s.h) (w4 : s.h ≤ 60) :
    Calls Tryz.prog 91 #[.pointer (some ⟨p, 0, none⟩), .int .i64 x, .int .i64 y] W fun e W' => e = .returned (.tuple #[]) ∧ DkAt W' N p (goS s x y) rows ∧ Below N W W' := by
  obtain ⟨c0, c1, c3, c4, c5, c9, c10, c11, c19, f⟩ := h.words
  have f3 := f 3
  have f4 := f 4
  have f5 := f 5
  have m1 := Grd.min2 x (s.w - 1)
  have m2 := Grd.max2 0 (min x (s.w - 1))
  have m3 := Grd.min2 y (s.h - 1)
  have m4 := Grd.max2 0 (min y (s.h - 1))
  have h3 := h.three (max 0 (min x (s.w - 1))) (max 0 (min y (s.h - 1)))
  have HE : Hid _ := And.intro h3.1.drew h3.2.drew
  clear h h3 c9 c10 c11 c19 f
  go_enter Tryz.func91, Tryz.ntmps91
  go_upto_region 0 with fail
  go_region
  all_goals go_end0
  all_goals exact ⟨rfl, HE.out⟩
theorem has_bits (m : Int) (h0 : 0 ≤ m) (h1 : m ≤ 63) : hasB m 1 = !(bits .and .i64 m 1 == 0) ∧ hasB m 2 = !(bits .and .i64 m 2 == 0) ∧ hasB m 4 = !(bits .and .i64 m 4 == 0) := by
  have key : ∀ k : Fin 64, hasB (k.val : Int) 1 = !(bits .and .i64 (k.val : Int) 1 == 0) ∧ hasB (k.val : Int) 2 = !(bits .and .i64 (k.val : Int) 2 == 0) ∧ hasB (k.val : Int) 4 = !(bits .and .i64 (k.val : Int) 4 == 0) := by decide +kernel
  have h := key ⟨m.toNat, by omega⟩
  have e : ((m.toNat : Nat) : Int) = m := by omega
  simp only [e] at h
  exact h
theorem RightS.modes {s : Scr} {n hh : Nat} (h : RightS s n hh) : 0 ≤ s.modes ∧ s.modes ≤ 63 := by
  have := h.looks
  simp only [looksOk, Bool.and_eq_true, decide_eq_true_eq] at this
  exact this.2.2.1
set_option maxHeartbeats 4000000 in
theorem rowOf_any {N p : Nat} {s : Scr} {rows : List (List C)} (n : Int) (W : World) (h : DkAt W N p s rows) (t0 : 0 ≤ s.top) (t1 : s.top ≤ 60) (hb : hasB s.modes 2 = !(bits .and .i64 s.modes 2 == 0)) :
    Calls Tryz.prog 93 #[.pointer (some ⟨p, 0, none⟩), .int .i64 n] W fun e W' => e = .returned (.int .i64 (if hasB s.modes 2 then min (s.top + (cnt n - 1)) s.bot else cnt n - 1)) ∧ Below W.heap.size W W' := by
  obtain ⟨c0, c1, c3, c4, c5, c9, c10, c11, c19, f⟩ := h.words
  have hc := cnt_range n
  have HO : Hid (∀ W, Calls Tryz.prog 92 #[.int .i64 n] W fun e w' => e = .returned (.int .i64 (cnt n)) ∧ W = w') := fun W => often_any n W
  clear h c0 c1 c3 c4 c5 c19 f
  cases hq : (bits .and .i64 s.modes 2 == 0) with
  | true =>
    rw [hq] at hb
    rw [hb, if_neg (by simp)]
    clear hb
    generalize cnt n = k at *
    go_enter Tryz.func93, Tryz.ntmps93
    go_wp2_with fail
    refine (HO.out _).mono ?_
    rintro e V ⟨rfl, hv⟩
    subst hv
    go_wp2_with fail
    go_ret
    exact ⟨rfl, Below.refl _ _⟩
  | false =>
    rw [hq] at hb
    rw [hb, if_pos (by simp)]
    clear hb
    generalize cnt n = k at *
    have hw1 : IntKind.i64.wrap (s.top + k) = s.top + k := wrap_id _ (by omega) (by omega)
    have hw2 : IntKind.i64.wrap (s.top + k - 1) = s.top + k - 1 := wrap_id _ (by omega) (by omega)
    have HM : Hid (min (s.top + k - 1) s.bot = min (s.top + (k - 1)) s.bot) := by unfold Hid; omega
    go_enter Tryz.func93, Tryz.ntmps93
    go_upto_region 3 with fail
    go_region_held3 (fun w' => w'.cell? ⟨p, 9, none⟩ = some (.int .i64 s.top) ∧ w'.cell? ⟨p, 10, none⟩ = some (.int .i64 s.bot)) (go_keep) (first | (go_at_call 92; refine (HO.out _).mono ?_; rintro e V ⟨rfl, hv⟩; subst hv))
    all_goals go_wp2_with fail
    all_goals go_ret
    all_goals exact ⟨ret_int HM.out, (Below.refl _ _).drew⟩
end Put
end Go.Proofs.YtnkeahfcpbepjaaGreatDoor

/- Package move: each call, of a right screen and of another; and what its name does to a desk. -/
namespace Go.Proofs.YtnkeahfcpbepjaaGreatDoor
set_option linter.unusedVariables false
open Go.ChangeShapes Go.WideShapes Go.ChangeAt Go.RowKit
namespace Put
open Grd (C SliceAt CellsAt gridErr z0 nilV flat rowsL)
theorem Met.came {w0 w : World} {s : Scr} {cv tv gv : Value} (h : Met w0 w s cv tv gv) : Came w0 w s cv tv gv := ⟨h.t, h.v, h.b, h.f⟩
theorem right_small {s : Scr} {n hh : Nat} (h : RightS s n hh) : Small s := by
  refine ⟨?_, ?_, ?_, ?_⟩
  · have h1 := h.cl
    have h2 := Nat.mul_le_mul h.n2 h.h2
    omega
  · have := h.tl
    have := h.n2
    omega
  · have := h.gl
    omega
  · intro row hrow
    have := (grid_size (h.gr row hrow)).2.1
    omega
theorem rowsL_row {s : Scr} {n hh : Nat} (h : RightS s n hh) (i : Nat) (hi : i < (rowsL n s.cs hh).length) : ((rowsL n s.cs hh).getD i []).length = n := by
  rw [Grd.rowsL_len] at hi
  have e2 : (rowsL n s.cs hh).getD i [] = Grd.rowAt n s.cs i := by simp [rowsL, List.getD, hi]
  rw [e2]
  exact Grd.row_len n hh s.cs i h.cl hi
theorem agree_move {what : ByteArray} {a b : Int} {s : Scr} {n hh : Nat} (hR : RightS s n hh) (X Y X' Y' : Int) (hx : max 0 (min X' (s.w - 1)) = withinI X 0 (s.w - 1)) (hy : max 0 (min Y' (s.h - 1)) = withinI Y 0 (s.h - 1))
    (hA : ActMakes what a b s (goS s X' Y') (rowsL n s.cs hh) (rowsL n s.cs hh)) : Agrees what a b s (movedS s X Y) n hh := by
  have h0 := right_small hR
  refine ⟨⟨h0.c, h0.t, h0.g, h0.r⟩, _, _, hA, Grd.rowsL_len _ _ _, rowsL_row hR, ?_⟩
  rw [hR.flatten, ← hR.w, ← hR.h]
  unfold goS movedS
  rw [hx, hy]
theorem held_edge (x w : Int) (h : 1 ≤ w) : max 0 (min x (w - 1)) = withinI x 0 (w - 1) := by unfold withinI; omega
end Put
end Go.Proofs.YtnkeahfcpbepjaaGreatDoor

/- Package move: the calls of the tabs. (Written by gen_call.py.) -/
namespace Go.Proofs.YtnkeahfcpbepjaaGreatDoor
set_option linter.unusedVariables false
open Go.ChangeShapes Go.WideShapes Go.ChangeAt Go.RowKit
namespace Put
open Grd (C)
set_option maxHeartbeats 2000000 in
set_option maxRecDepth 100000 in
theorem tabbed_calls (s s' : Scr) (cv tv gv : Value) (a : Int) (b : Int) (er : Int) (w0 w : World) (hV : ScrV w0 s cv tv gv) (hM : w0.heap.size ≤ w.heap.size)
    (hC : ∀ (W : World) (B1 B2 : Nat), Below w.heap.size w W → W.cell? ⟨B1, 0, none⟩ = some (.int .i64 a) → W.cell? ⟨B2, 0, none⟩ = some (.int .i64 b) → Calls Tryz.prog 87 #[.agg (scrA s cv tv gv), .func (.func 88) #[] #[.pointer (some ⟨B1, 0, none⟩), .pointer (some ⟨B2, 0, none⟩)]] W (Made w0 W s' er)) :
    Calls Tryz.prog 37 #[.agg (scrA s cv tv gv), .int .i64 a, .int .i64 b] w (Made w0 w s' er) := by
  obtain ⟨ca, cc, rfl⟩ := hV.c.shape
  obtain ⟨ta, tc, rfl⟩ := hV.t.slice
  obtain ⟨ga, gc, rfl⟩ := hV.g.slice
  have hkb : Below w.heap.size w ((((w.alloc (.cells (scrA s (.slice ca s.cs.length cc) (.slice ta s.tabs.length tc) (.slice ga s.gone.length gc)) 32)).alloc (.cells #[.int .i64 a] 3)).alloc (.cells #[.int .i64 b] 3)).alloc (.cells #[.int .i64 0, .int .i64 0, .slice none 0 0, .int .i64 0, .int .i64 0, .bool false, .int .i64 0, .int .i64 0, .int .i64 0, .int .i64 0, .int .i64 0, .int .i64 0, .slice none 0 0, .int .i64 0, .int .i64 0, .int .i64 0, .int .i64 0, .int .i64 0, .int .i64 0, .int .i32 0, .string ⟨#[]⟩, .slice none 0 0] 32)) := (((((Below.refl _ _).alloc (by simp) _).alloc (by simp) _).alloc (by simp; omega) _).alloc (by simp; omega) _)
  have hx0 : (w.alloc (.cells (scrA s (.slice ca s.cs.length cc) (.slice ta s.tabs.length tc) (.slice ga s.gone.length gc)) 32)).heap[w.heap.size]? = some (.cells (scrA s (.slice ca s.cs.length cc) (.slice ta s.tabs.length tc) (.slice ga s.gone.length gc)) 32 (0, 0)) := by
    have h := heap_alloc_new w (.cells (scrA s (.slice ca s.cs.length cc) (.slice ta s.tabs.length tc) (.slice ga s.gone.length gc)) 32)
    have e : w.heap.size = w.heap.size := by simp
    rw [e] at h
    exact h
  have hx0 := (Below.heap_alloc (w.alloc (.cells (scrA s (.slice ca s.cs.length cc) (.slice ta s.tabs.length tc) (.slice ga s.gone.length gc)) 32)) (.cells #[.int .i64 a] 3) _ (heap_lt hx0)).trans hx0
  have hx0 := (Below.heap_alloc ((w.alloc (.cells (scrA s (.slice ca s.cs.length cc) (.slice ta s.tabs.length tc) (.slice ga s.gone.length gc)) 32)).alloc (.cells #[.int .i64 a] 3)) (.cells #[.int .i64 b] 3) _ (heap_lt hx0)).trans hx0
  have hx0 := (Below.heap_alloc (((w.alloc (.cells (scrA s (.slice ca s.cs.length cc) (.slice ta s.tabs.length tc) (.slice ga s.gone.length gc)) 32)).alloc (.cells #[.int .i64 a] 3)).alloc (.cells #[.int .i64 b] 3)) (.cells #[.int .i64 0, .int .i64 0, .slice none 0 0, .int .i64 0, .int .i64 0, .bool false, .int .i64 0, .int .i64 0, .int .i64 0, .int .i64 0, .int .i64 0, .int .i64 0, .slice none 0 0, .int .i64 0, .int .i64 0, .int .i64 0, .int .i64 0, .int .i64 0, .int .i64 0, .int .i32 0, .string ⟨#[]⟩, .slice none 0 0] 32) _ (heap_lt hx0)).trans hx0
  have hx1 : ((w.alloc (.cells (scrA s (.slice ca s.cs.length cc) (.slice ta s.tabs.length tc) (.slice ga s.gone.length gc)) 32)).alloc (.cells #[.int .i64 a] 3)).heap[w.heap.size + 1]? = some (.cells #[.int .i64 a] 3 (0, 0)) := by
    have h := heap_alloc_new (w.alloc (.cells (scrA s (.slice ca s.cs.length cc) (.slice ta s.tabs.length tc) (.slice ga s.gone.length gc)) 32)) (.cells #[.int .i64 a] 3)
    have e : (w.alloc (.cells (scrA s (.slice ca s.cs.length cc) (.slice ta s.tabs.length tc) (.slice ga s.gone.length gc)) 32)).heap.size = w.heap.size + 1 := by simp
    rw [e] at h
    exact h
  have hx1 := (Below.heap_alloc ((w.alloc (.cells (scrA s (.slice ca s.cs.length cc) (.slice ta s.tabs.length tc) (.slice ga s.gone.length gc)) 32)).alloc (.cells #[.int .i64 a] 3)) (.cells #[.int .i64 b] 3) _ (heap_lt hx1)).trans hx1
  have hx1 := (Below.heap_alloc (((w.alloc (.cells (scrA s (.slice ca s.cs.length cc) (.slice ta s.tabs.length tc) (.slice ga s.gone.length gc)) 32)).alloc (.cells #[.int .i64 a] 3)).alloc (.cells #[.int .i64 b] 3)) (.cells #[.int .i64 0, .int .i64 0, .slice none 0 0, .int .i64 0, .int .i64 0, .bool false, .int .i64 0, .int .i64 0, .int .i64 0, .int .i64 0, .int .i64 0, .int .i64 0, .slice none 0 0, .int .i64 0, .int .i64 0, .int .i64 0, .int .i64 0, .int .i64 0, .int .i64 0, .int .i32 0, .string ⟨#[]⟩, .slice none 0 0] 32) _ (heap_lt hx1)).trans hx1
  have hx2 : (((w.alloc (.cells (scrA s (.slice ca s.cs.length cc) (.slice ta s.tabs.length tc) (.slice ga s.gone.length gc)) 32)).alloc (.cells #[.int .i64 a] 3)).alloc (.cells #[.int .i64 b] 3)).heap[w.heap.size + 2]? = some (.cells #[.int .i64 b] 3 (0, 0)) := by
    have h := heap_alloc_new ((w.alloc (.cells (scrA s (.slice ca s.cs.length cc) (.slice ta s.tabs.length tc) (.slice ga s.gone.length gc)) 32)).alloc (.cells #[.int .i64 a] 3)) (.cells #[.int .i64 b] 3)
    have e : ((w.alloc (.cells (scrA s (.slice ca s.cs.length cc) (.slice ta s.tabs.length tc) (.slice ga s.gone.length gc)) 32)).alloc (.cells #[.int .i64 a] 3)).heap.size = w.heap.size + 2 := by simp
    rw [e] at h
    exact h
  have hx2 := (Below.heap_alloc (((w.alloc (.cells (scrA s (.slice ca s.cs.length cc) (.slice ta s.tabs.length tc) (.slice ga s.gone.length gc)) 32)).alloc (.cells #[.int .i64 a] 3)).alloc (.cells #[.int .i64 b] 3)) (.cells #[.int .i64 0, .int .i64 0, .slice none 0 0, .int .i64 0, .int .i64 0, .bool false, .int .i64 0, .int .i64 0, .int .i64 0, .int .i64 0, .int .i64 0, .int .i64 0, .slice none 0 0, .int .i64 0, .int .i64 0, .int .i64 0, .int .i64 0, .int .i64 0, .int .i64 0, .int .i32 0, .string ⟨#[]⟩, .slice none 0 0] 32) _ (heap_lt hx2)).trans hx2
  have hx3 : ((((w.alloc (.cells (scrA s (.slice ca s.cs.length cc) (.slice ta s.tabs.length tc) (.slice ga s.gone.length gc)) 32)).alloc (.cells #[.int .i64 a] 3)).alloc (.cells #[.int .i64 b] 3)).alloc (.cells #[.int .i64 0, .int .i64 0, .slice none 0 0, .int .i64 0, .int .i64 0, .bool false, .int .i64 0, .int .i64 0, .int .i64 0, .int .i64 0, .int .i64 0, .int .i64 0, .slice none 0 0, .int .i64 0, .int .i64 0, .int .i64 0, .int .i64 0, .int .i64 0, .int .i64 0, .int .i32 0, .string ⟨#[]⟩, .slice none 0 0] 32)).heap[w.heap.size + 3]? = some (.cells #[.int .i64 0, .int .i64 0, .slice none 0 0, .int .i64 0, .int .i64 0, .bool false, .int .i64 0, .int .i64 0, .int .i64 0, .int .i64 0, .int .i64 0, .int .i64 0, .slice none 0 0, .int .i64 0, .int .i64 0, .int .i64 0, .int .i64 0, .int .i64 0, .int .i64 0, .int .i32 0, .string ⟨#[]⟩, .slice none 0 0] 32 (0, 0)) := by
    have h := heap_alloc_new (((w.alloc (.cells (scrA s (.slice ca s.cs.length cc) (.slice ta s.tabs.length tc) (.slice ga s.gone.length gc)) 32)).alloc (.cells #[.int .i64 a] 3)).alloc (.cells #[.int .i64 b] 3)) (.cells #[.int .i64 0, .int .i64 0, .slice none 0 0, .int .i64 0, .int .i64 0, .bool false, .int .i64 0, .int .i64 0, .int .i64 0, .int .i64 0, .int .i64 0, .int .i64 0, .slice none 0 0, .int .i64 0, .int .i64 0, .int .i64 0, .int .i64 0, .int .i64 0, .int .i64 0, .int .i32 0, .string ⟨#[]⟩, .slice none 0 0] 32)
    have e : (((w.alloc (.cells (scrA s (.slice ca s.cs.length cc) (.slice ta s.tabs.length tc) (.slice ga s.gone.length gc)) 32)).alloc (.cells #[.int .i64 a] 3)).alloc (.cells #[.int .i64 b] 3)).heap.size = w.heap.size + 3 := by simp
    rw [e] at h
    exact h
  have HX0 : Hid _ := hx0
  have HXR : Hid _ := hx3
  have HKB : Hid _ := hkb
  have HC := hC _ (w.heap.size + 1) (w.heap.size + 2) hkb (cell_one hx1) (cell_one hx2)
  have hsz : w.heap.size ≤ ((((w.alloc (.cells (scrA s (.slice ca s.cs.length cc) (.slice ta s.tabs.length tc) (.slice ga s.gone.length gc)) 32)).alloc (.cells #[.int .i64 a] 3)).alloc (.cells #[.int .i64 b] 3)).alloc (.cells #[.int .i64 0, .int .i64 0, .slice none 0 0, .int .i64 0, .int .i64 0, .bool false, .int .i64 0, .int .i64 0, .int .i64 0, .int .i64 0, .int .i64 0, .int .i64 0, .slice none 0 0, .int .i64 0, .int .i64 0, .int .i64 0, .int .i64 0, .int .i64 0, .int .i64 0, .int .i32 0, .string ⟨#[]⟩, .slice none 0 0] 32)).heap.size := hkb.size
  clear hkb hV hC hx0 hx1 hx2 hx3
  go_enter Tryz.func37, Tryz.ntmps37
  go_upto_region 1 with fail
  generalize ((((w.alloc (.cells (scrA s (.slice ca s.cs.length cc) (.slice ta s.tabs.length tc) (.slice ga s.gone.length gc)) 32)).alloc (.cells #[.int .i64 a] 3)).alloc (.cells #[.int .i64 b] 3)).alloc (.cells #[.int .i64 0, .int .i64 0, .slice none 0 0, .int .i64 0, .int .i64 0, .bool false, .int .i64 0, .int .i64 0, .int .i64 0, .int .i64 0, .int .i64 0, .int .i64 0, .slice none 0 0, .int .i64 0, .int .i64 0, .int .i64 0, .int .i64 0, .int .i64 0, .int .i64 0, .int .i32 0, .string ⟨#[]⟩, .slice none 0 0] 32)) = X at *
  go_wp2_with (refine wpList_load_row rfl 32 (.tmp 3) rfl w.heap.size rfl _ _ _ _ HX0.out Tryz.underlying32 rfl (by kernel_rfl) ?_)
  refine HC.mono ?_
  rintro e V ⟨cv', tv', gv', rfl, hO, c2⟩
  obtain ⟨a1, n1, c1, a2, n2, c2', a3, n3, c3, rfl, rfl, rfl⟩ := hO.shapes
  have HO : Hid (ScrO V 0 _ s' _ _ _) := hO
  have HR : Hid (V.heap[w.heap.size + 3]? = _) := Grd.carry HXR.out c2
  have HB : Hid (Below w.heap.size w V) := HKB.out.trans (c2.mono HKB.out.size)
  clear hO c2 HC
  go_wp2_with (refine wpList_store_row rfl 32 (.tmp 6) (.tmp 11) rfl (w.heap.size + 3) (scrA s' (.slice a1 n1 c1) (.slice a2 n2 c2') (.slice a3 n3 c3)) rfl rfl _ _ HR.out (by kernel_rfl) rfl (scr_one _ _ _ _ _ _ _ _ _ _) ?_)
  (try simp only [Exit.inBlock, Exit.then])
  refine bodyPost_ret (v := .tuple #[.agg (scrA s' (.slice a1 n1 c1) (.slice a2 n2 c2') (.slice a3 n3 c3)), .int .i64 er]) ?_ rfl ⟨_, _, _, rfl, ?_, below_setRow HB.out (by omega) _⟩
  · exact Grd.results_row_tmp rfl _ _ (w.heap.size + 3) _ _ _ _ rfl (setRow_heap _ _ _ _ _ _ HR.out) Tryz.underlying32 rfl (by kernel_rfl) _ rfl
  · exact (ScrO.off HO.out HR.out screen_is (by omega) fun k hk => setRow_other _ _ _ _ hk).mono hsz
set_option maxHeartbeats 2000000 in
set_option maxRecDepth 100000 in
theorem setTab_calls (s s' : Scr) (cv tv gv : Value) (er : Int) (w0 w : World) (hV : ScrV w0 s cv tv gv) (hM : w0.heap.size ≤ w.heap.size)
    (hC : ∀ (W : World) (_B : Nat), Below w.heap.size w W → Calls Tryz.prog 40 #[.agg (scrA s cv tv gv), .func (.func 41) #[] #[]] W (Made w0 W s' er)) :
    Calls Tryz.prog 13 #[.agg (scrA s cv tv gv)] w (Made w0 w s' er) := by
  obtain ⟨ca, cc, rfl⟩ := hV.c.shape
  obtain ⟨ta, tc, rfl⟩ := hV.t.slice
  obtain ⟨ga, gc, rfl⟩ := hV.g.slice
  have hkb : Below w.heap.size w ((w.alloc (.cells (scrA s (.slice ca s.cs.length cc) (.slice ta s.tabs.length tc) (.slice ga s.gone.length gc)) 32)).alloc (.cells #[.int .i64 0, .int .i64 0, .slice none 0 0, .int .i64 0, .int .i64 0, .bool false, .int .i64 0, .int .i64 0, .int .i64 0, .int .i64 0, .int .i64 0, .int .i64 0, .slice none 0 0, .int .i64 0, .int .i64 0, .int .i64 0, .int .i64 0, .int .i64 0, .int .i64 0, .int .i32 0, .string ⟨#[]⟩, .slice none 0 0] 32)) := (((Below.refl _ _).alloc (by simp) _).alloc (by simp) _)
  have hx0 : (w.alloc (.cells (scrA s (.slice ca s.cs.length cc) (.slice ta s.tabs.length tc) (.slice ga s.gone.length gc)) 32)).heap[w.heap.size]? = some (.cells (scrA s (.slice ca s.cs.length cc) (.slice ta s.tabs.length tc) (.slice ga s.gone.length gc)) 32 (0, 0)) := by
    have h := heap_alloc_new w (.cells (scrA s (.slice ca s.cs.length cc) (.slice ta s.tabs.length tc) (.slice ga s.gone.length gc)) 32)
    have e : w.heap.size = w.heap.size := by simp
    rw [e] at h
    exact h
  have hx0 := (Below.heap_alloc (w.alloc (.cells (scrA s (.slice ca s.cs.length cc) (.slice ta s.tabs.length tc) (.slice ga s.gone.length gc)) 32)) (.cells #[.int .i64 0, .int .i64 0, .slice none 0 0, .int .i64 0, .int .i64 0, .bool false, .int .i64 0, .int .i64 0, .int .i64 0, .int .i64 0, .int .i64 0, .int .i64 0, .slice none 0 0, .int .i64 0, .int .i64 0, .int .i64 0, .int .i64 0, .int .i64 0, .int .i64 0, .int .i32 0, .string ⟨#[]⟩, .slice none 0 0] 32) _ (heap_lt hx0)).trans hx0
  have hx1 : ((w.alloc (.cells (scrA s (.slice ca s.cs.length cc) (.slice ta s.tabs.length tc) (.slice ga s.gone.length gc)) 32)).alloc (.cells #[.int .i64 0, .int .i64 0, .slice none 0 0, .int .i64 0, .int .i64 0, .bool false, .int .i64 0, .int .i64 0, .int .i64 0, .int .i64 0, .int .i64 0, .int .i64 0, .slice none 0 0, .int .i64 0, .int .i64 0, .int .i64 0, .int .i64 0, .int .i64 0, .int .i64 0, .int .i32 0, .string ⟨#[]⟩, .slice none 0 0] 32)).heap[w.heap.size + 1]? = some (.cells #[.int .i64 0, .int .i64 0, .slice none 0 0, .int .i64 0, .int .i64 0, .bool false, .int .i64 0, .int .i64 0, .int .i64 0, .int .i64 0, .int .i64 0, .int .i64 0, .slice none 0 0, .int .i64 0, .int .i64 0, .int .i64 0, .int .i64 0, .int .i64 0, .int .i64 0, .int .i32 0, .string ⟨#[]⟩, .slice none 0 0] 32 (0, 0)) := by
    have h := heap_alloc_new (w.alloc (.cells (scrA s (.slice ca s.cs.length cc) (.slice ta s.tabs.length tc) (.slice ga s.gone.length gc)) 32)) (.cells #[.int .i64 0, .int .i64 0, .slice none 0 0, .int .i64 0, .int .i64 0, .bool false, .int .i64 0, .int .i64 0, .int .i64 0, .int .i64 0, .int .i64 0, .int .i64 0, .slice none 0 0, .int .i64 0, .int .i64 0, .int .i64 0, .int .i64 0, .int .i64 0, .int .i64 0, .int .i32 0, .string ⟨#[]⟩, .slice none 0 0] 32)
    have e : (w.alloc (.cells (scrA s (.slice ca s.cs.length cc) (.slice ta s.tabs.length tc) (.slice ga s.gone.length gc)) 32)).heap.size = w.heap.size + 1 := by simp
    rw [e] at h
    exact h
  have HX0 : Hid _ := hx0
  have HXR : Hid _ := hx1
  have HKB : Hid _ := hkb
  have HC := hC _ 0 hkb
  have hsz : w.heap.size ≤ ((w.alloc (.cells (scrA s (.slice ca s.cs.length cc) (.slice ta s.tabs.length tc) (.slice ga s.gone.length gc)) 32)).alloc (.cells #[.int .i64 0, .int .i64 0, .slice none 0 0, .int .i64 0, .int .i64 0, .bool false, .int .i64 0, .int .i64 0, .int .i64 0, .int .i64 0, .int .i64 0, .int .i64 0, .slice none 0 0, .int .i64 0, .int .i64 0, .int .i64 0, .int .i64 0, .int .i64 0, .int .i64 0, .int .i32 0, .string ⟨#[]⟩, .slice none 0 0] 32)).heap.size := hkb.size
  clear hkb hV hC hx0 hx1
  go_enter Tryz.func13, Tryz.ntmps13
  go_upto_region 1 with fail
  generalize ((w.alloc (.cells (scrA s (.slice ca s.cs.length cc) (.slice ta s.tabs.length tc) (.slice ga s.gone.length gc)) 32)).alloc (.cells #[.int .i64 0, .int .i64 0, .slice none 0 0, .int .i64 0, .int .i64 0, .bool false, .int .i64 0, .int .i64 0, .int .i64 0, .int .i64 0, .int .i64 0, .int .i64 0, .slice none 0 0, .int .i64 0, .int .i64 0, .int .i64 0, .int .i64 0, .int .i64 0, .int .i64 0, .int .i32 0, .string ⟨#[]⟩, .slice none 0 0] 32)) = X at *
  go_wp2_with (refine wpList_load_row rfl 32 (.tmp 1) rfl w.heap.size rfl _ _ _ _ HX0.out Tryz.underlying32 rfl (by kernel_rfl) ?_)
  refine HC.mono ?_
  rintro e V ⟨cv', tv', gv', rfl, hO, c2⟩
  obtain ⟨a1, n1, c1, a2, n2, c2', a3, n3, c3, rfl, rfl, rfl⟩ := hO.shapes
  have HO : Hid (ScrO V 0 _ s' _ _ _) := hO
  have HR : Hid (V.heap[w.heap.size + 1]? = _) := Grd.carry HXR.out c2
  have HB : Hid (Below w.heap.size w V) := HKB.out.trans (c2.mono HKB.out.size)
  clear hO c2 HC
  go_wp2_with (refine wpList_store_row rfl 32 (.tmp 2) (.tmp 6) rfl (w.heap.size + 1) (scrA s' (.slice a1 n1 c1) (.slice a2 n2 c2') (.slice a3 n3 c3)) rfl rfl _ _ HR.out (by kernel_rfl) rfl (scr_one _ _ _ _ _ _ _ _ _ _) ?_)
  (try simp only [Exit.inBlock, Exit.then])
  refine bodyPost_ret (v := .tuple #[.agg (scrA s' (.slice a1 n1 c1) (.slice a2 n2 c2') (.slice a3 n3 c3)), .int .i64 er]) ?_ rfl ⟨_, _, _, rfl, ?_, below_setRow HB.out (by omega) _⟩
  · exact Grd.results_row_tmp rfl _ _ (w.heap.size + 1) _ _ _ _ rfl (setRow_heap _ _ _ _ _ _ HR.out) Tryz.underlying32 rfl (by kernel_rfl) _ rfl
  · exact (ScrO.off HO.out HR.out screen_is (by omega) fun k hk => setRow_other _ _ _ _ hk).mono hsz
set_option maxHeartbeats 2000000 in
set_option maxRecDepth 100000 in
theorem clearTab_calls (s s' : Scr) (cv tv gv : Value) (n : Int) (er : Int) (w0 w : World) (hV : ScrV w0 s cv tv gv) (hM : w0.heap.size ≤ w.heap.size)
    (hC : ∀ (W : World) (B1 : Nat), Below w.heap.size w W → W.cell? ⟨B1, 0, none⟩ = some (.int .i64 n) → Calls Tryz.prog 40 #[.agg (scrA s cv tv gv), .func (.func 42) #[] #[.pointer (some ⟨B1, 0, none⟩)]] W (Made w0 W s' er)) :
    Calls Tryz.prog 14 #[.agg (scrA s cv tv gv), .int .i64 n] w (Made w0 w s' er) := by
  obtain ⟨ca, cc, rfl⟩ := hV.c.shape
  obtain ⟨ta, tc, rfl⟩ := hV.t.slice
  obtain ⟨ga, gc, rfl⟩ := hV.g.slice
  have hkb : Below w.heap.size w (((w.alloc (.cells (scrA s (.slice ca s.cs.length cc) (.slice ta s.tabs.length tc) (.slice ga s.gone.length gc)) 32)).alloc (.cells #[.int .i64 n] 3)).alloc (.cells #[.int .i64 0, .int .i64 0, .slice none 0 0, .int .i64 0, .int .i64 0, .bool false, .int .i64 0, .int .i64 0, .int .i64 0, .int .i64 0, .int .i64 0, .int .i64 0, .slice none 0 0, .int .i64 0, .int .i64 0, .int .i64 0, .int .i64 0, .int .i64 0, .int .i64 0, .int .i32 0, .string ⟨#[]⟩, .slice none 0 0] 32)) := ((((Below.refl _ _).alloc (by simp) _).alloc (by simp) _).alloc (by simp; omega) _)
  have hx0 : (w.alloc (.cells (scrA s (.slice ca s.cs.length cc) (.slice ta s.tabs.length tc) (.slice ga s.gone.length gc)) 32)).heap[w.heap.size]? = some (.cells (scrA s (.slice ca s.cs.length cc) (.slice ta s.tabs.length tc) (.slice ga s.gone.length gc)) 32 (0, 0)) := by
    have h := heap_alloc_new w (.cells (scrA s (.slice ca s.cs.length cc) (.slice ta s.tabs.length tc) (.slice ga s.gone.length gc)) 32)
    have e : w.heap.size = w.heap.size := by simp
    rw [e] at h
    exact h
  have hx0 := (Below.heap_alloc (w.alloc (.cells (scrA s (.slice ca s.cs.length cc) (.slice ta s.tabs.length tc) (.slice ga s.gone.length gc)) 32)) (.cells #[.int .i64 n] 3) _ (heap_lt hx0)).trans hx0
  have hx0 := (Below.heap_alloc ((w.alloc (.cells (scrA s (.slice ca s.cs.length cc) (.slice ta s.tabs.length tc) (.slice ga s.gone.length gc)) 32)).alloc (.cells #[.int .i64 n] 3)) (.cells #[.int .i64 0, .int .i64 0, .slice none 0 0, .int .i64 0, .int .i64 0, .bool false, .int .i64 0, .int .i64 0, .int .i64 0, .int .i64 0, .int .i64 0, .int .i64 0, .slice none 0 0, .int .i64 0, .int .i64 0, .int .i64 0, .int .i64 0, .int .i64 0, .int .i64 0, .int .i32 0, .string ⟨#[]⟩, .slice none 0 0] 32) _ (heap_lt hx0)).trans hx0
  have hx1 : ((w.alloc (.cells (scrA s (.slice ca s.cs.length cc) (.slice ta s.tabs.length tc) (.slice ga s.gone.length gc)) 32)).alloc (.cells #[.int .i64 n] 3)).heap[w.heap.size + 1]? = some (.cells #[.int .i64 n] 3 (0, 0)) := by
    have h := heap_alloc_new (w.alloc (.cells (scrA s (.slice ca s.cs.length cc) (.slice ta s.tabs.length tc) (.slice ga s.gone.length gc)) 32)) (.cells #[.int .i64 n] 3)
    have e : (w.alloc (.cells (scrA s (.slice ca s.cs.length cc) (.slice ta s.tabs.length tc) (.slice ga s.gone.length gc)) 32)).heap.size = w.heap.size + 1 := by simp
    rw [e] at h
    exact h
  have hx1 := (Below.heap_alloc ((w.alloc (.cells (scrA s (.slice ca s.cs.length cc) (.slice ta s.tabs.length tc) (.slice ga s.gone.length gc)) 32)).alloc (.cells #[.int .i64 n] 3)) (.cells #[.int .i64 0, .int .i64 0, .slice none 0 0, .int .i64 0, .int .i64 0, .bool false, .int .i64 0, .int .i64 0, .int .i64 0, .int .i64 0, .int .i64 0, .int .i64 0, .slice none 0 0, .int .i64 0, .int .i64 0, .int .i64 0, .int .i64 0, .int .i64 0, .int .i64 0, .int .i32 0, .string ⟨#[]⟩, .slice none 0 0] 32) _ (heap_lt hx1)).trans hx1
  have hx2 : (((w.alloc (.cells (scrA s (.slice ca s.cs.length cc) (.slice ta s.tabs.length tc) (.slice ga s.gone.length gc)) 32)).alloc (.cells #[.int .i64 n] 3)).alloc (.cells #[.int .i64 0, .int .i64 0, .slice none 0 0, .int .i64 0, .int .i64 0, .bool false, .int .i64 0, .int .i64 0, .int .i64 0, .int .i64 0, .int .i64 0, .int .i64 0, .slice none 0 0, .int .i64 0, .int .i64 0, .int .i64 0, .int .i64 0, .int .i64 0, .int .i64 0, .int .i32 0, .string ⟨#[]⟩, .slice none 0 0] 32)).heap[w.heap.size + 2]? = some (.cells #[.int .i64 0, .int .i64 0, .slice none 0 0, .int .i64 0, .int .i64 0, .bool false, .int .i64 0, .int .i64 0, .int .i64 0, .int .i64 0, .int .i64 0, .int .i64 0, .slice none 0 0, .int .i64 0, .int .i64 0, .int .i64 0, .int .i64 0, .int .i64 0, .int .i64 0, .int .i32 0, .string ⟨#[]⟩, .slice none 0 0] 32 (0, 0)) := by
    have h := heap_alloc_new ((w.alloc (.cells (scrA s (.slice ca s.cs.length cc) (.slice ta s.tabs.length tc) (.slice ga s.gone.length gc)) 32)).alloc (.cells #[.int .i64 n] 3)) (.cells #[.int .i64 0, .int .i64 0, .slice none 0 0, .int .i64 0, .int .i64 0, .bool false, .int .i64 0, .int .i64 0, .int .i64 0, .int .i64 0, .int .i64 0, .int .i64 0, .slice none 0 0, .int .i64 0, .int .i64 0, .int .i64 0, .int .i64 0, .int .i64 0, .int .i64 0, .int .i32 0, .string ⟨#[]⟩, .slice none 0 0] 32)
    have e : ((w.alloc (.cells (scrA s (.slice ca s.cs.length cc) (.slice ta s.tabs.length tc) (.slice ga s.gone.length gc)) 32)).alloc (.cells #[.int .i64 n] 3)).heap.size = w.heap.size + 2 := by simp
    rw [e] at h
    exact h
  have HX0 : Hid _ := hx0
  have HXR : Hid _ := hx2
  have HKB : Hid _ := hkb
  have HC := hC _ (w.heap.size + 1) hkb (cell_one hx1)
  have hsz : w.heap.size ≤ (((w.alloc (.cells (scrA s (.slice ca s.cs.length cc) (.slice ta s.tabs.length tc) (.slice ga s.gone.length gc)) 32)).alloc (.cells #[.int .i64 n] 3)).alloc (.cells #[.int .i64 0, .int .i64 0, .slice none 0 0, .int .i64 0, .int .i64 0, .bool false, .int .i64 0, .int .i64 0, .int .i64 0, .int .i64 0, .int .i64 0, .int .i64 0, .slice none 0 0, .int .i64 0, .int .i64 0, .int .i64 0, .int .i64 0, .int .i64 0, .int .i64 0, .int .i32 0, .string ⟨#[]⟩, .slice none 0 0] 32)).heap.size := hkb.size
  clear hkb hV hC hx0 hx1 hx2
  go_enter Tryz.func14, Tryz.ntmps14
  go_upto_region 1 with fail
  generalize (((w.alloc (.cells (scrA s (.slice ca s.cs.length cc) (.slice ta s.tabs.length tc) (.slice ga s.gone.length gc)) 32)).alloc (.cells #[.int .i64 n] 3)).alloc (.cells #[.int .i64 0, .int .i64 0, .slice none 0 0, .int .i64 0, .int .i64 0, .bool false, .int .i64 0, .int .i64 0, .int .i64 0, .int .i64 0, .int .i64 0, .int .i64 0, .slice none 0 0, .int .i64 0, .int .i64 0, .int .i64 0, .int .i64 0, .int .i64 0, .int .i64 0, .int .i32 0, .string ⟨#[]⟩, .slice none 0 0] 32)) = X at *
  go_wp2_with (refine wpList_load_row rfl 32 (.tmp 2) rfl w.heap.size rfl _ _ _ _ HX0.out Tryz.underlying32 rfl (by kernel_rfl) ?_)
  refine HC.mono ?_
  rintro e V ⟨cv', tv', gv', rfl, hO, c2⟩
  obtain ⟨a1, n1, c1, a2, n2, c2', a3, n3, c3, rfl, rfl, rfl⟩ := hO.shapes
  have HO : Hid (ScrO V 0 _ s' _ _ _) := hO
  have HR : Hid (V.heap[w.heap.size + 2]? = _) := Grd.carry HXR.out c2
  have HB : Hid (Below w.heap.size w V) := HKB.out.trans (c2.mono HKB.out.size)
  clear hO c2 HC
  go_wp2_with (refine wpList_store_row rfl 32 (.tmp 4) (.tmp 9) rfl (w.heap.size + 2) (scrA s' (.slice a1 n1 c1) (.slice a2 n2 c2') (.slice a3 n3 c3)) rfl rfl _ _ HR.out (by kernel_rfl) rfl (scr_one _ _ _ _ _ _ _ _ _ _) ?_)
  (try simp only [Exit.inBlock, Exit.then])
  refine bodyPost_ret (v := .tuple #[.agg (scrA s' (.slice a1 n1 c1) (.slice a2 n2 c2') (.slice a3 n3 c3)), .int .i64 er]) ?_ rfl ⟨_, _, _, rfl, ?_, below_setRow HB.out (by omega) _⟩
  · exact Grd.results_row_tmp rfl _ _ (w.heap.size + 2) _ _ _ _ rfl (setRow_heap _ _ _ _ _ _ HR.out) Tryz.underlying32 rfl (by kernel_rfl) _ rfl
  · exact (ScrO.off HO.out HR.out screen_is (by omega) fun k hk => setRow_other _ _ _ _ hk).mono hsz
set_option maxHeartbeats 2000000 in
set_option maxRecDepth 100000 in
theorem tab_calls (s s' : Scr) (cv tv gv : Value) (n : Int) (er : Int) (w0 w : World) (hV : ScrV w0 s cv tv gv) (hM : w0.heap.size ≤ w.heap.size)
    (hC : ∀ W, Below w.heap.size w W → Calls Tryz.prog 37 #[.agg (scrA s cv tv gv), .int .i64 n, .int .i64 1] W (Made w0 W s' er)) :
    Calls Tryz.prog 10 #[.agg (scrA s cv tv gv), .int .i64 n] w (Made w0 w s' er) := by
  obtain ⟨ca, cc, rfl⟩ := hV.c.shape
  obtain ⟨ta, tc, rfl⟩ := hV.t.slice
  obtain ⟨ga, gc, rfl⟩ := hV.g.slice
  have hkb : Below w.heap.size w ((w.alloc (.cells (scrA s (.slice ca s.cs.length cc) (.slice ta s.tabs.length tc) (.slice ga s.gone.length gc)) 32)).alloc (.cells #[.int .i64 0, .int .i64 0, .slice none 0 0, .int .i64 0, .int .i64 0, .bool false, .int .i64 0, .int .i64 0, .int .i64 0, .int .i64 0, .int .i64 0, .int .i64 0, .slice none 0 0, .int .i64 0, .int .i64 0, .int .i64 0, .int .i64 0, .int .i64 0, .int .i64 0, .int .i32 0, .string ⟨#[]⟩, .slice none 0 0] 32)) := (((Below.refl _ _).alloc (by simp) _).alloc (by simp) _)
  have hx0 : (w.alloc (.cells (scrA s (.slice ca s.cs.length cc) (.slice ta s.tabs.length tc) (.slice ga s.gone.length gc)) 32)).heap[w.heap.size]? = some (.cells (scrA s (.slice ca s.cs.length cc) (.slice ta s.tabs.length tc) (.slice ga s.gone.length gc)) 32 (0, 0)) := by
    have h := heap_alloc_new w (.cells (scrA s (.slice ca s.cs.length cc) (.slice ta s.tabs.length tc) (.slice ga s.gone.length gc)) 32)
    have e : w.heap.size = w.heap.size := by simp
    rw [e] at h
    exact h
  have hx0 := (Below.heap_alloc (w.alloc (.cells (scrA s (.slice ca s.cs.length cc) (.slice ta s.tabs.length tc) (.slice ga s.gone.length gc)) 32)) (.cells #[.int .i64 0, .int .i64 0, .slice none 0 0, .int .i64 0, .int .i64 0, .bool false, .int .i64 0, .int .i64 0, .int .i64 0, .int .i64 0, .int .i64 0, .int .i64 0, .slice none 0 0, .int .i64 0, .int .i64 0, .int .i64 0, .int .i64 0, .int .i64 0, .int .i64 0, .int .i32 0, .string ⟨#[]⟩, .slice none 0 0] 32) _ (heap_lt hx0)).trans hx0
  have hx1 : ((w.alloc (.cells (scrA s (.slice ca s.cs.length cc) (.slice ta s.tabs.length tc) (.slice ga s.gone.length gc)) 32)).alloc (.cells #[.int .i64 0, .int .i64 0, .slice none 0 0, .int .i64 0, .int .i64 0, .bool false, .int .i64 0, .int .i64 0, .int .i64 0, .int .i64 0, .int .i64 0, .int .i64 0, .slice none 0 0, .int .i64 0, .int .i64 0, .int .i64 0, .int .i64 0, .int .i64 0, .int .i64 0, .int .i32 0, .string ⟨#[]⟩, .slice none 0 0] 32)).heap[w.heap.size + 1]? = some (.cells #[.int .i64 0, .int .i64 0, .slice none 0 0, .int .i64 0, .int .i64 0, .bool false, .int .i64 0, .int .i64 0, .int .i64 0, .int .i64 0, .int .i64 0, .int .i64 0, .slice none 0 0, .int .i64 0, .int .i64 0, .int .i64 0, .int .i64 0, .int .i64 0, .int .i64 0, .int .i32 0, .string ⟨#[]⟩, .slice none 0 0] 32 (0, 0)) := by
    have h := heap_alloc_new (w.alloc (.cells (scrA s (.slice ca s.cs.length cc) (.slice ta s.tabs.length tc) (.slice ga s.gone.length gc)) 32)) (.cells #[.int .i64 0, .int .i64 0, .slice none 0 0, .int .i64 0, .int .i64 0, .bool false, .int .i64 0, .int .i64 0, .int .i64 0, .int .i64 0, .int .i64 0, .int .i64 0, .slice none 0 0, .int .i64 0, .int .i64 0, .int .i64 0, .int .i64 0, .int .i64 0, .int .i64 0, .int .i32 0, .string ⟨#[]⟩, .slice none 0 0] 32)
    have e : (w.alloc (.cells (scrA s (.slice ca s.cs.length cc) (.slice ta s.tabs.length tc) (.slice ga s.gone.length gc)) 32)).heap.size = w.heap.size + 1 := by simp
    rw [e] at h
    exact h
  have HX0 : Hid _ := hx0
  have HXR : Hid _ := hx1
  have HKB : Hid _ := hkb
  have HC := hC _ hkb
  have hsz : w.heap.size ≤ ((w.alloc (.cells (scrA s (.slice ca s.cs.length cc) (.slice ta s.tabs.length tc) (.slice ga s.gone.length gc)) 32)).alloc (.cells #[.int .i64 0, .int .i64 0, .slice none 0 0, .int .i64 0, .int .i64 0, .bool false, .int .i64 0, .int .i64 0, .int .i64 0, .int .i64 0, .int .i64 0, .int .i64 0, .slice none 0 0, .int .i64 0, .int .i64 0, .int .i64 0, .int .i64 0, .int .i64 0, .int .i64 0, .int .i32 0, .string ⟨#[]⟩, .slice none 0 0] 32)).heap.size := hkb.size
  clear hkb hV hC hx0 hx1
  go_enter Tryz.func10, Tryz.ntmps10
  go_upto_region 1 with fail
  generalize ((w.alloc (.cells (scrA s (.slice ca s.cs.length cc) (.slice ta s.tabs.length tc) (.slice ga s.gone.length gc)) 32)).alloc (.cells #[.int .i64 0, .int .i64 0, .slice none 0 0, .int .i64 0, .int .i64 0, .bool false, .int .i64 0, .int .i64 0, .int .i64 0, .int .i64 0, .int .i64 0, .int .i64 0, .slice none 0 0, .int .i64 0, .int .i64 0, .int .i64 0, .int .i64 0, .int .i64 0, .int .i64 0, .int .i32 0, .string ⟨#[]⟩, .slice none 0 0] 32)) = X at *
  go_wp2_with (refine wpList_load_row rfl 32 (.tmp 2) rfl w.heap.size rfl _ _ _ _ HX0.out Tryz.underlying32 rfl (by kernel_rfl) ?_)
  refine HC.mono ?_
  rintro e V ⟨cv', tv', gv', rfl, hO, c2⟩
  obtain ⟨a1, n1, c1, a2, n2, c2', a3, n3, c3, rfl, rfl, rfl⟩ := hO.shapes
  have HO : Hid (ScrO V 0 _ s' _ _ _) := hO
  have HR : Hid (V.heap[w.heap.size + 1]? = _) := Grd.carry HXR.out c2
  have HB : Hid (Below w.heap.size w V) := HKB.out.trans (c2.mono HKB.out.size)
  clear hO c2 HC
  go_wp2_with (refine wpList_store_row rfl 32 (.tmp 4) (.tmp 9) rfl (w.heap.size + 1) (scrA s' (.slice a1 n1 c1) (.slice a2 n2 c2') (.slice a3 n3 c3)) rfl rfl _ _ HR.out (by kernel_rfl) rfl (scr_one _ _ _ _ _ _ _ _ _ _) ?_)
  (try simp only [Exit.inBlock, Exit.then])
  refine bodyPost_ret (v := .tuple #[.agg (scrA s' (.slice a1 n1 c1) (.slice a2 n2 c2') (.slice a3 n3 c3)), .int .i64 er]) ?_ rfl ⟨_, _, _, rfl, ?_, below_setRow HB.out (by omega) _⟩
  · exact Grd.results_row_tmp rfl _ _ (w.heap.size + 1) _ _ _ _ rfl (setRow_heap _ _ _ _ _ _ HR.out) Tryz.underlying32 rfl (by kernel_rfl) _ rfl
  · exact (ScrO.off HO.out HR.out screen_is (by omega) fun k hk => setRow_other _ _ _ _ hk).mono hsz
set_option maxHeartbeats 2000000 in
set_option maxRecDepth 100000 in
theorem tabBack_calls (s s' : Scr) (cv tv gv : Value) (n : Int) (er : Int) (w0 w : World) (hV : ScrV w0 s cv tv gv) (hM : w0.heap.size ≤ w.heap.size)
    (hC : ∀ W, Below w.heap.size w W → Calls Tryz.prog 37 #[.agg (scrA s cv tv gv), .int .i64 n, .int .i64 (-1)] W (Made w0 W s' er)) :
    Calls Tryz.prog 11 #[.agg (scrA s cv tv gv), .int .i64 n] w (Made w0 w s' er) := by
  obtain ⟨ca, cc, rfl⟩ := hV.c.shape
  obtain ⟨ta, tc, rfl⟩ := hV.t.slice
  obtain ⟨ga, gc, rfl⟩ := hV.g.slice
  have hkb : Below w.heap.size w ((w.alloc (.cells (scrA s (.slice ca s.cs.length cc) (.slice ta s.tabs.length tc) (.slice ga s.gone.length gc)) 32)).alloc (.cells #[.int .i64 0, .int .i64 0, .slice none 0 0, .int .i64 0, .int .i64 0, .bool false, .int .i64 0, .int .i64 0, .int .i64 0, .int .i64 0, .int .i64 0, .int .i64 0, .slice none 0 0, .int .i64 0, .int .i64 0, .int .i64 0, .int .i64 0, .int .i64 0, .int .i64 0, .int .i32 0, .string ⟨#[]⟩, .slice none 0 0] 32)) := (((Below.refl _ _).alloc (by simp) _).alloc (by simp) _)
  have hx0 : (w.alloc (.cells (scrA s (.slice ca s.cs.length cc) (.slice ta s.tabs.length tc) (.slice ga s.gone.length gc)) 32)).heap[w.heap.size]? = some (.cells (scrA s (.slice ca s.cs.length cc) (.slice ta s.tabs.length tc) (.slice ga s.gone.length gc)) 32 (0, 0)) := by
    have h := heap_alloc_new w (.cells (scrA s (.slice ca s.cs.length cc) (.slice ta s.tabs.length tc) (.slice ga s.gone.length gc)) 32)
    have e : w.heap.size = w.heap.size := by simp
    rw [e] at h
    exact h
  have hx0 := (Below.heap_alloc (w.alloc (.cells (scrA s (.slice ca s.cs.length cc) (.slice ta s.tabs.length tc) (.slice ga s.gone.length gc)) 32)) (.cells #[.int .i64 0, .int .i64 0, .slice none 0 0, .int .i64 0, .int .i64 0, .bool false, .int .i64 0, .int .i64 0, .int .i64 0, .int .i64 0, .int .i64 0, .int .i64 0, .slice none 0 0, .int .i64 0, .int .i64 0, .int .i64 0, .int .i64 0, .int .i64 0, .int .i64 0, .int .i32 0, .string ⟨#[]⟩, .slice none 0 0] 32) _ (heap_lt hx0)).trans hx0
  have hx1 : ((w.alloc (.cells (scrA s (.slice ca s.cs.length cc) (.slice ta s.tabs.length tc) (.slice ga s.gone.length gc)) 32)).alloc (.cells #[.int .i64 0, .int .i64 0, .slice none 0 0, .int .i64 0, .int .i64 0, .bool false, .int .i64 0, .int .i64 0, .int .i64 0, .int .i64 0, .int .i64 0, .int .i64 0, .slice none 0 0, .int .i64 0, .int .i64 0, .int .i64 0, .int .i64 0, .int .i64 0, .int .i64 0, .int .i32 0, .string ⟨#[]⟩, .slice none 0 0] 32)).heap[w.heap.size + 1]? = some (.cells #[.int .i64 0, .int .i64 0, .slice none 0 0, .int .i64 0, .int .i64 0, .bool false, .int .i64 0, .int .i64 0, .int .i64 0, .int .i64 0, .int .i64 0, .int .i64 0, .slice none 0 0, .int .i64 0, .int .i64 0, .int .i64 0, .int .i64 0, .int .i64 0, .int .i64 0, .int .i32 0, .string ⟨#[]⟩, .slice none 0 0] 32 (0, 0)) := by
    have h := heap_alloc_new (w.alloc (.cells (scrA s (.slice ca s.cs.length cc) (.slice ta s.tabs.length tc) (.slice ga s.gone.length gc)) 32)) (.cells #[.int .i64 0, .int .i64 0, .slice none 0 0, .int .i64 0, .int .i64 0, .bool false, .int .i64 0, .int .i64 0, .int .i64 0, .int .i64 0, .int .i64 0, .int .i64 0, .slice none 0 0, .int .i64 0, .int .i64 0, .int .i64 0, .int .i64 0, .int .i64 0, .int .i64 0, .int .i32 0, .string ⟨#[]⟩, .slice none 0 0] 32)
    have e : (w.alloc (.cells (scrA s (.slice ca s.cs.length cc) (.slice ta s.tabs.length tc) (.slice ga s.gone.length gc)) 32)).heap.size = w.heap.size + 1 := by simp
    rw [e] at h
    exact h
  have HX0 : Hid _ := hx0
  have HXR : Hid _ := hx1
  have HKB : Hid _ := hkb
  have HC := hC _ hkb
  have hsz : w.heap.size ≤ ((w.alloc (.cells (scrA s (.slice ca s.cs.length cc) (.slice ta s.tabs.length tc) (.slice ga s.gone.length gc)) 32)).alloc (.cells #[.int .i64 0, .int .i64 0, .slice none 0 0, .int .i64 0, .int .i64 0, .bool false, .int .i64 0, .int .i64 0, .int .i64 0, .int .i64 0, .int .i64 0, .int .i64 0, .slice none 0 0, .int .i64 0, .int .i64 0, .int .i64 0, .int .i64 0, .int .i64 0, .int .i64 0, .int .i32 0, .string ⟨#[]⟩, .slice none 0 0] 32)).heap.size := hkb.size
  clear hkb hV hC hx0 hx1
  go_enter Tryz.func11, Tryz.ntmps11
  go_upto_region 1 with fail
  generalize ((w.alloc (.cells (scrA s (.slice ca s.cs.length cc) (.slice ta s.tabs.length tc) (.slice ga s.gone.length gc)) 32)).alloc (.cells #[.int .i64 0, .int .i64 0, .slice none 0 0, .int .i64 0, .int .i64 0, .bool false, .int .i64 0, .int .i64 0, .int .i64 0, .int .i64 0, .int .i64 0, .int .i64 0, .slice none 0 0, .int .i64 0, .int .i64 0, .int .i64 0, .int .i64 0, .int .i64 0, .int .i64 0, .int .i32 0, .string ⟨#[]⟩, .slice none 0 0] 32)) = X at *
  go_wp2_with (refine wpList_load_row rfl 32 (.tmp 2) rfl w.heap.size rfl _ _ _ _ HX0.out Tryz.underlying32 rfl (by kernel_rfl) ?_)
  refine HC.mono ?_
  rintro e V ⟨cv', tv', gv', rfl, hO, c2⟩
  obtain ⟨a1, n1, c1, a2, n2, c2', a3, n3, c3, rfl, rfl, rfl⟩ := hO.shapes
  have HO : Hid (ScrO V 0 _ s' _ _ _) := hO
  have HR : Hid (V.heap[w.heap.size + 1]? = _) := Grd.carry HXR.out c2
  have HB : Hid (Below w.heap.size w V) := HKB.out.trans (c2.mono HKB.out.size)
  clear hO c2 HC
  go_wp2_with (refine wpList_store_row rfl 32 (.tmp 4) (.tmp 9) rfl (w.heap.size + 1) (scrA s' (.slice a1 n1 c1) (.slice a2 n2 c2') (.slice a3 n3 c3)) rfl rfl _ _ HR.out (by kernel_rfl) rfl (scr_one _ _ _ _ _ _ _ _ _ _) ?_)
  (try simp only [Exit.inBlock, Exit.then])
  refine bodyPost_ret (v := .tuple #[.agg (scrA s' (.slice a1 n1 c1) (.slice a2 n2 c2') (.slice a3 n3 c3)), .int .i64 er]) ?_ rfl ⟨_, _, _, rfl, ?_, below_setRow HB.out (by omega) _⟩
  · exact Grd.results_row_tmp rfl _ _ (w.heap.size + 1) _ _ _ _ rfl (setRow_heap _ _ _ _ _ _ HR.out) Tryz.underlying32 rfl (by kernel_rfl) _ rfl
  · exact (ScrO.off HO.out HR.out screen_is (by omega) fun k hk => setRow_other _ _ _ _ hk).mono hsz
end Put
end Go.Proofs.YtnkeahfcpbepjaaGreatDoor
