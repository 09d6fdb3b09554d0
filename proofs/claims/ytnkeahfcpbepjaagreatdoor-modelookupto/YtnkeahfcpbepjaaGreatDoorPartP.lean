/- trellislaw.does: what a call makes of a screen is what is to be done to it. -/
import Derived.Test.YtnkeahfcpbepjaaGreatDoorPartK
import Derived.Test.YtnkeahfcpbepjaaGreatDoorPartJ
import Derived.Test.YtnkeahfcpbepjaaGreatDoorPartM
import Derived.Test.YtnkeahfcpbepjaaGreatDoorPartO
import Derived.Test.YtnkeahfcpbepjaaGreatDoorPartI
import Derived.BigRegion
import Derived.Deep.RegionHeld3
import Derived.WalkSmall
import Derived.Maps.AppendAt
import Derived.Maps.Own
import Derived.Maps.OwnOps
import Derived.Maps.Views
namespace Go.Proofs.YtnkeahfcpbepjaaGreatDoor
set_option linter.unusedVariables false
open Go.ChangeShapes Go.WideShapes Go.ChangeAt Go.RowKit
namespace Put
open Grd (C SliceAt CellsAt gridErr z0 nilV rowsL RowsAt RowB flat)
/-- A screen is kept in a variable. -/
theorem kept_v {w W : World} {A : Array Value} (hB : Below w.heap.size w W) :
    ((W.alloc (.cells #[.int .i64 0, .int .i64 0, .slice none 0 0, .int .i64 0, .int .i64 0, .bool false, .int .i64 0, .int .i64 0, .int .i64 0, .int .i64 0, .int .i64 0, .int .i64 0, .slice none 0 0, .int .i64 0, .int .i64 0, .int .i64 0, .int .i64 0, .int .i64 0, .int .i64 0, .int .i32 0, .string ⟨#[]⟩, .slice none 0 0] 32)).setRow W.heap.size A).heap[W.heap.size]? = some (.cells A 32 (0, 0)) ∧ Below W.heap.size W ((W.alloc (.cells #[.int .i64 0, .int .i64 0, .slice none 0 0, .int .i64 0, .int .i64 0, .bool false, .int .i64 0, .int .i64 0, .int .i64 0, .int .i64 0, .int .i64 0, .int .i64 0, .slice none 0 0, .int .i64 0, .int .i64 0, .int .i64 0, .int .i64 0, .int .i64 0, .int .i64 0, .int .i32 0, .string ⟨#[]⟩, .slice none 0 0] 32)).setRow W.heap.size A) ∧ Below w.heap.size w ((W.alloc (.cells #[.int .i64 0, .int .i64 0, .slice none 0 0, .int .i64 0, .int .i64 0, .bool false, .int .i64 0, .int .i64 0, .int .i64 0, .int .i64 0, .int .i64 0, .int .i64 0, .slice none 0 0, .int .i64 0, .int .i64 0, .int .i64 0, .int .i64 0, .int .i64 0, .int .i64 0, .int .i32 0, .string ⟨#[]⟩, .slice none 0 0] 32)).setRow W.heap.size A) ∧ (W.alloc (.cells #[.int .i64 0, .int .i64 0, .slice none 0 0, .int .i64 0, .int .i64 0, .bool false, .int .i64 0, .int .i64 0, .int .i64 0, .int .i64 0, .int .i64 0, .int .i64 0, .slice none 0 0, .int .i64 0, .int .i64 0, .int .i64 0, .int .i64 0, .int .i64 0, .int .i64 0, .int .i32 0, .string ⟨#[]⟩, .slice none 0 0] 32)).heap[W.heap.size]? = some (.cells #[.int .i64 0, .int .i64 0, .slice none 0 0, .int .i64 0, .int .i64 0, .bool false, .int .i64 0, .int .i64 0, .int .i64 0, .int .i64 0, .int .i64 0, .int .i64 0, .slice none 0 0, .int .i64 0, .int .i64 0, .int .i64 0, .int .i64 0, .int .i64 0, .int .i64 0, .int .i32 0, .string ⟨#[]⟩, .slice none 0 0] 32 (0, 0)) := by
  have h1 : Below W.heap.size W ((W.alloc (.cells #[.int .i64 0, .int .i64 0, .slice none 0 0, .int .i64 0, .int .i64 0, .bool false, .int .i64 0, .int .i64 0, .int .i64 0, .int .i64 0, .int .i64 0, .int .i64 0, .slice none 0 0, .int .i64 0, .int .i64 0, .int .i64 0, .int .i64 0, .int .i64 0, .int .i64 0, .int .i32 0, .string ⟨#[]⟩, .slice none 0 0] 32)).setRow W.heap.size A) := below_setRow ((Below.refl _ _).alloc (Nat.le_refl _) _) (Nat.le_refl _) _
  exact ⟨setRow_heap _ _ _ _ _ _ (heap_alloc_new W _), h1, hB.trans (h1.mono hB.size), heap_alloc_new W _⟩
theorem ScrV.shapes {W : World} {s : Scr} {cv tv gv : Value} (h : ScrV W s cv tv gv) : ∃ a1 n1 c1 a2 n2 c2 a3 n3 c3, cv = .slice a1 n1 c1 ∧ tv = .slice a2 n2 c2 ∧ gv = .slice a3 n3 c3 := by
  obtain ⟨a1, c1, h1⟩ := h.c.shape
  obtain ⟨a2, c2, h2⟩ := h.t.slice
  obtain ⟨a3, c3, h3⟩ := h.g.slice
  exact ⟨a1, _, c1, a2, _, c2, a3, _, c3, h1, h2, h3⟩
/-- What is to be done to a desk. -/
def Acts (df : FuncId) (caps : Array Value) (w : World) (s s2 : Scr) (rows rows2 : List (List C)) : Prop :=
  ∀ N W p, Below w.heap.size w W → w.heap.size ≤ N → N ≤ W.heap.size → DkAt W N p s rows → Calls Tryz.prog df (#[.pointer (some ⟨p, 0, none⟩)] ++ caps) W fun e W' => e = .returned (.tuple #[]) ∧ DkAt W' N p s2 rows2 ∧ Below N W W'
section
attribute [local go_sem ↓] load_scr
attribute [local go_sem] isScrV
set_option maxHeartbeats 8000000 in
set_option maxRecDepth 100000 in
theorem does_bad (s : Scr) (cv tv gv : Value) (cf : FuncId) (ccaps : Array Value) (dv : Value) (hcf : Plain cf) (w : World) (hT : Txt.Tab w) (hV : ScrV w s cv tv gv) (hB : Bulk s) (hz : scrErr s ≠ 0)
    (hcall : ∀ w0 W cv tv gv, Below w.heap.size w w0 → Met w0 W s cv tv gv → Calls Tryz.prog cf (#[.agg (scrA s cv tv gv)] ++ ccaps) W (Made w0 W zScr (scrErr s))) :
    Calls Tryz.prog 26 #[.agg (scrA s cv tv gv), .func (.func cf) #[] ccaps, dv] w fun e w' => e = .returned (.bool true) ∧ Below w.heap.size w w' := by
  have x0 := heap_alloc_new w (.cells (scrA s cv tv gv) 32)
  have kb : Below w.heap.size w (w.alloc (.cells (scrA s cv tv gv) 32)) := (Below.refl _ _).alloc (Nat.le_refl _) _
  have HP : Hid (∀ W, Below w.heap.size w W → Calls Tryz.prog 63 #[] W fun e w' => e = .returned (.bool true) ∧ Below W.heap.size W w') := fun W h => printed_any W (Grd.Tab.next hT h)
  have HTB : Hid (∀ W, Below w.heap.size w W → Txt.Tab W) := fun W h => Grd.Tab.next hT h
  have HX0 : Hid _ := x0
  have HKB : Hid _ := kb
  have HV : Hid (ScrV w s cv tv gv) := hV
  have HBK : Hid (Bulk s) := hB
  have HC : Hid (∀ w0 W cv tv gv, Below w.heap.size w w0 → Met w0 W s cv tv gv → Calls Tryz.prog cf (#[.agg (scrA s cv tv gv)] ++ ccaps) W (Made w0 W zScr (scrErr s))) := hcall
  have HCK : Hid (∀ W, Below w.heap.size w W → Calls Tryz.prog 65 #[.agg (scrA s cv tv gv)] W fun e w' => e = .returned (.int .i64 (scrErr s)) ∧ Below W.heap.size W w') := fun W h => checkScreen_any s cv tv gv W (hV.next h) hB.f
  have hzb : (scrErr s != 0) = true := by simp [bne, hz]
  have hee : (scrErr s == scrErr s) = true := by simp
  have HOW := ownScreen_any s cv tv gv _ (hV.next kb) hB
  unfold Plain at hcf
  clear x0 kb hT hV hB hz hcall
  generalize scrErr s = er at *
  go_enter Tryz.func26, Tryz.ntmps26
  go_wp2_with (refine wpList_load_row rfl 32 (.tmp 3) rfl w.heap.size rfl _ _ _ _ HX0.out Tryz.underlying32 rfl (by kernel_rfl) ?_)
  refine HOW.mono ?_
  rintro e V1 ⟨cv1, tv1, gv1, rfl, hV1, b1⟩
  obtain ⟨a1, n1, c1, a2, n2, c2, a3, n3, c3, rfl, rfl, rfl⟩ := hV1.shapes
  have HB1 : Hid (Below w.heap.size w V1) := HKB.out.trans (b1.mono HKB.out.size)
  have HX1 : Hid (V1.heap[w.heap.size]? = _) := Grd.carry HX0.out b1
  have HV1 : Hid (ScrV V1 s _ _ _) := hV1
  obtain ⟨k1, k2, k3, k4⟩ := kept_v (A := scrA s (.slice a1 n1 c1) (.slice a2 n2 c2) (.slice a3 n3 c3)) HB1.out
  have HK1 : Hid _ := k1
  have HK2 : Hid _ := k2
  have HK3 : Hid _ := k3
  have HK4 : Hid _ := k4
  have HX2 : Hid _ := Grd.carry HX1.out k2
  have hlt1 := heap_lt k1
  clear HOW hV1 b1 k1 k2 k3 k4
  go_upto_region 2 with (refine wpList_store_row rfl 32 (.tmp 7) _ rfl V1.heap.size (scrA s (.slice a1 n1 c1) (.slice a2 n2 c2) (.slice a3 n3 c3)) rfl rfl _ _ HK4.out (by kernel_rfl) rfl (scr_one _ _ _ _ _ _ _ _ _ _) ?_)
  have HCF := HC.out V1 _ _ _ _ HB1.out ⟨HTB.out _ HK3.out, HV1.out, HK2.out, HBK.out.f⟩
  clear HK4
  generalize ((V1.alloc (.cells #[.int .i64 0, .int .i64 0, .slice none 0 0, .int .i64 0, .int .i64 0, .bool false, .int .i64 0, .int .i64 0, .int .i64 0, .int .i64 0, .int .i64 0, .int .i64 0, .slice none 0 0, .int .i64 0, .int .i64 0, .int .i64 0, .int .i64 0, .int .i64 0, .int .i64 0, .int .i32 0, .string ⟨#[]⟩, .slice none 0 0] 32)).setRow V1.heap.size (scrA s (.slice a1 n1 c1) (.slice a2 n2 c2) (.slice a3 n3 c3))) = X2 at *
  go_wp2_with (refine wpList_load_row rfl 32 (.tmp 7) rfl V1.heap.size rfl _ _ _ _ HK1.out Tryz.underlying32 rfl (by kernel_rfl) ?_)
  refine HCF.mono ?_
  rintro e V3 ⟨cv3, tv3, gv3, rfl, hO3, b3⟩
  obtain ⟨d1, m1, e1, d2, m2, e2, d3, m3, e3, rfl, rfl, rfl⟩ := hO3.shapes
  have HB3 : Hid (Below w.heap.size w V3) := HK3.out.trans (b3.mono HK3.out.size)
  have HX3 : Hid (V3.heap[w.heap.size]? = _) := Grd.carry HX2.out b3
  have HO3 : Hid (V3.heap[V1.heap.size]? = _) := Grd.carry HK1.out b3
  have HV3 : Hid (ScrV V3 s (.slice a1 n1 c1) (.slice a2 n2 c2) (.slice a3 n3 c3)) := (HV1.out.next HK2.out).next b3
  have HZ3 : Hid (ScrV V3 zScr _ _ _) := hO3.scr
  obtain ⟨k1, k2, k3, k4⟩ := kept_v (A := scrA zScr (.slice d1 m1 e1) (.slice d2 m2 e2) (.slice d3 m3 e3)) HB3.out
  have HL1 : Hid _ := k1
  have HL3 : Hid _ := k3
  have HL4 : Hid _ := k4
  have HX4 : Hid _ := Grd.carry HX3.out k2
  have HO4 : Hid _ := Grd.carry HO3.out k2
  have HV4 : Hid (ScrV _ s (.slice a1 n1 c1) (.slice a2 n2 c2) (.slice a3 n3 c3)) := HV3.out.next k2
  have HZ4 : Hid (ScrV _ zScr (.slice d1 m1 e1) (.slice d2 m2 e2) (.slice d3 m3 e3)) := HZ3.out.next k2
  clear HCF hO3 b3 k1 k2 k3 k4 HC HK1 HK2 HK3 HX2 HX1 HX0 HV1 HB1 HKB
  go_upto_region 3 with (refine wpList_store_row rfl 32 (.tmp 8) _ rfl V3.heap.size (scrA zScr (.slice d1 m1 e1) (.slice d2 m2 e2) (.slice d3 m3 e3)) rfl rfl _ _ HL4.out (by kernel_rfl) rfl (scr_one _ _ _ _ _ _ _ _ _ _) ?_)
  clear HL4 HX3 HO3 HV3 HZ3
  generalize ((V3.alloc (.cells #[.int .i64 0, .int .i64 0, .slice none 0 0, .int .i64 0, .int .i64 0, .bool false, .int .i64 0, .int .i64 0, .int .i64 0, .int .i64 0, .int .i64 0, .int .i64 0, .slice none 0 0, .int .i64 0, .int .i64 0, .int .i64 0, .int .i64 0, .int .i64 0, .int .i64 0, .int .i32 0, .string ⟨#[]⟩, .slice none 0 0] 32)).setRow V3.heap.size (scrA zScr (.slice d1 m1 e1) (.slice d2 m2 e2) (.slice d3 m3 e3))) = X4 at *
  go_wp2_with fail
  refine (HP.out _ HL3.out).mono ?_
  rintro e V5 ⟨rfl, b5⟩
  have HB5 : Hid (Below w.heap.size w V5) := HL3.out.trans (b5.mono HL3.out.size)
  have HX5 : Hid (V5.heap[w.heap.size]? = _) := Grd.carry HX4.out b5
  have HO5 : Hid (V5.heap[V1.heap.size]? = _) := Grd.carry HO4.out b5
  have HL5 : Hid (V5.heap[V3.heap.size]? = _) := Grd.carry HL1.out b5
  have HV5 : Hid (ScrV V5 s (.slice a1 n1 c1) (.slice a2 n2 c2) (.slice a3 n3 c3)) := HV4.out.next b5
  have HZ5 : Hid (ScrV V5 zScr (.slice d1 m1 e1) (.slice d2 m2 e2) (.slice d3 m3 e3)) := HZ4.out.next b5
  clear b5 HX4 HO4 HL1 HV4 HZ4 HL3
  go_wp2_with (first
    | (refine BigFrame.wpList_want rfl fun K hK => wp_load_row 32 (.tmp 7) rfl V1.heap.size rfl _ _ _ _ HO5.out Tryz.underlying32 rfl (by kernel_rfl) (hK _ _ ?_))
    | (refine BigFrame.wpList_want rfl fun K hK => wp_load_row 32 (.tmp 3) rfl w.heap.size rfl _ _ _ _ HX5.out Tryz.underlying32 rfl (by kernel_rfl) (hK _ _ ?_)))
  refine (sameScreen_any s _ _ _ cv tv gv V5 HV5.out (HV.out.next HB5.out) HBK.out.small).mono ?_
  rintro e V6 ⟨rfl, b6⟩
  have HB6 : Hid (Below w.heap.size w V6) := HB5.out.trans (b6.mono HB5.out.size)
  have HX6 : Hid (V6.heap[w.heap.size]? = _) := Grd.carry HX5.out b6
  have HL6 : Hid (V6.heap[V3.heap.size]? = _) := Grd.carry HL5.out b6
  have HZ6 : Hid (ScrV V6 zScr (.slice d1 m1 e1) (.slice d2 m2 e2) (.slice d3 m3 e3)) := HZ5.out.next b6
  clear b6 HX5 HO5 HL5 HV5 HZ5 HB5
  go_wp2_with (refine wpList_load_row rfl 32 (.tmp 3) rfl w.heap.size rfl _ _ _ _ HX6.out Tryz.underlying32 rfl (by kernel_rfl) ?_)
  refine (HCK.out _ HB6.out).mono ?_
  rintro e V7 ⟨rfl, b7⟩
  have HB7 : Hid (Below w.heap.size w V7) := HB6.out.trans (b7.mono HB6.out.size)
  have HL7 : Hid (V7.heap[V3.heap.size]? = _) := Grd.carry HL6.out b7
  have HZ7 : Hid (ScrV V7 zScr (.slice d1 m1 e1) (.slice d2 m2 e2) (.slice d3 m3 e3)) := HZ6.out.next b7
  clear b7 HX6 HL6 HZ6 HB6
  go_wp2_with (refine BigFrame.wpList_want rfl fun K hK => wp_load_row 32 (.tmp 8) rfl V3.heap.size rfl _ _ _ _ HL7.out Tryz.underlying32 rfl (by kernel_rfl) (hK _ _ ?_))
  refine (noScreen_any _ _ _ V7 HZ7.out).mono ?_
  rintro e V8 ⟨rfl, b8⟩
  have HB8 : Hid (Below w.heap.size w V8) := HB7.out.trans (b8.mono HB7.out.size)
  clear b8
  go_wp2_with fail
  go_ret
  exact ⟨rfl, HB8.out⟩
set_option maxHeartbeats 8000000 in
set_option maxRecDepth 100000 in
theorem does_good (s s' s2 : Scr) (n hh : Nat) (rows2 : List (List C)) (cv tv gv : Value) (cf df : FuncId) (ccaps dcaps : Array Value) (hcf : Plain cf) (hdf : Plain df) (w : World) (hT : Txt.Tab w) (hV : ScrV w s cv tv gv) (hB : Bulk s) (hR : RightS s n hh) (hz : scrErr s = 0) (hS' : Small s')
    (hdo : Acts df dcaps w s s2 (rowsL n s.cs hh) rows2) (hrl : rows2.length = hh) (hrn : ∀ i, i < rows2.length → (rows2.getD i []).length = n) (heq : { s2 with w := (n : Int), h := (hh : Int), cs := rows2.flatten } = s')
    (hcall : ∀ w0 W cv tv gv, Below w.heap.size w w0 → Met w0 W s cv tv gv → Calls Tryz.prog cf (#[.agg (scrA s cv tv gv)] ++ ccaps) W (Made w0 W s' 0)) :
    Calls Tryz.prog 26 #[.agg (scrA s cv tv gv), .func (.func cf) #[] ccaps, .func (.func df) #[] dcaps] w fun e w' => e = .returned (.bool true) ∧ Below w.heap.size w w' := by
  have x0 := heap_alloc_new w (.cells (scrA s cv tv gv) 32)
  have kb : Below w.heap.size w (w.alloc (.cells (scrA s cv tv gv) 32)) := (Below.refl _ _).alloc (Nat.le_refl _) _
  have HP : Hid (∀ W, Below w.heap.size w W → Calls Tryz.prog 63 #[] W fun e w' => e = .returned (.bool true) ∧ Below W.heap.size W w') := fun W h => printed_any W (Grd.Tab.next hT h)
  have HTB : Hid (∀ W, Below w.heap.size w W → Txt.Tab W) := fun W h => Grd.Tab.next hT h
  have HX0 : Hid _ := x0
  have HKB : Hid _ := kb
  have HV : Hid (ScrV w s cv tv gv) := hV
  have HBK : Hid (Bulk s) := hB
  have HC : Hid (∀ w0 W cv tv gv, Below w.heap.size w w0 → Met w0 W s cv tv gv → Calls Tryz.prog cf (#[.agg (scrA s cv tv gv)] ++ ccaps) W (Made w0 W s' 0)) := hcall
  have HCK : Hid (∀ W, Below w.heap.size w W → Calls Tryz.prog 65 #[.agg (scrA s cv tv gv)] W fun e w' => e = .returned (.int .i64 0) ∧ Below W.heap.size W w') := fun W h => by
    have := checkScreen_any s cv tv gv W (hV.next h) hB.f
    rw [hz] at this
    exact this
  have HRR : Hid (RightS s n hh) := hR
  have HSM : Hid (Small s') := hS'
  have HDO : Hid (Acts df dcaps w s s2 (rowsL n s.cs hh) rows2) := hdo
  have HRL : Hid (rows2.length = hh ∧ (∀ i, i < rows2.length → (rows2.getD i []).length = n) ∧ { s2 with w := (n : Int), h := (hh : Int), cs := rows2.flatten } = s') := ⟨hrl, hrn, heq⟩
  have HOW := ownScreen_any s cv tv gv _ (hV.next kb) hB
  unfold Plain at hcf hdf
  clear x0 kb hT hV hB hz hcall hR hS' hdo hrl hrn heq
  go_enter Tryz.func26, Tryz.ntmps26
  go_wp2_with (refine wpList_load_row rfl 32 (.tmp 3) rfl w.heap.size rfl _ _ _ _ HX0.out Tryz.underlying32 rfl (by kernel_rfl) ?_)
  refine HOW.mono ?_
  rintro e V1 ⟨cv1, tv1, gv1, rfl, hV1, b1⟩
  obtain ⟨a1, n1, c1, a2, n2, c2, a3, n3, c3, rfl, rfl, rfl⟩ := hV1.shapes
  have HB1 : Hid (Below w.heap.size w V1) := HKB.out.trans (b1.mono HKB.out.size)
  have HX1 : Hid (V1.heap[w.heap.size]? = _) := Grd.carry HX0.out b1
  have HV1 : Hid (ScrV V1 s _ _ _) := hV1
  obtain ⟨k1, k2, k3, k4⟩ := kept_v (A := scrA s (.slice a1 n1 c1) (.slice a2 n2 c2) (.slice a3 n3 c3)) HB1.out
  have HK1 : Hid _ := k1
  have HK2 : Hid _ := k2
  have HK3 : Hid _ := k3
  have HK4 : Hid _ := k4
  have HX2 : Hid _ := Grd.carry HX1.out k2
  have hlt1 := heap_lt k1
  clear HOW hV1 b1 k1 k2 k3 k4
  go_upto_region 2 with (refine wpList_store_row rfl 32 (.tmp 7) _ rfl V1.heap.size (scrA s (.slice a1 n1 c1) (.slice a2 n2 c2) (.slice a3 n3 c3)) rfl rfl _ _ HK4.out (by kernel_rfl) rfl (scr_one _ _ _ _ _ _ _ _ _ _) ?_)
  have HCF := HC.out V1 _ _ _ _ HB1.out ⟨HTB.out _ HK3.out, HV1.out, HK2.out, HBK.out.f⟩
  clear HK4
  generalize ((V1.alloc (.cells #[.int .i64 0, .int .i64 0, .slice none 0 0, .int .i64 0, .int .i64 0, .bool false, .int .i64 0, .int .i64 0, .int .i64 0, .int .i64 0, .int .i64 0, .int .i64 0, .slice none 0 0, .int .i64 0, .int .i64 0, .int .i64 0, .int .i64 0, .int .i64 0, .int .i64 0, .int .i32 0, .string ⟨#[]⟩, .slice none 0 0] 32)).setRow V1.heap.size (scrA s (.slice a1 n1 c1) (.slice a2 n2 c2) (.slice a3 n3 c3))) = X2 at *
  go_wp2_with (refine wpList_load_row rfl 32 (.tmp 7) rfl V1.heap.size rfl _ _ _ _ HK1.out Tryz.underlying32 rfl (by kernel_rfl) ?_)
  refine HCF.mono ?_
  rintro e V3 ⟨cv3, tv3, gv3, rfl, hO3, b3⟩
  obtain ⟨d1, m1, e1, d2, m2, e2, d3, m3, e3, rfl, rfl, rfl⟩ := hO3.shapes
  have HB3 : Hid (Below w.heap.size w V3) := HK3.out.trans (b3.mono HK3.out.size)
  have HX3 : Hid (V3.heap[w.heap.size]? = _) := Grd.carry HX2.out b3
  have HO3 : Hid (V3.heap[V1.heap.size]? = _) := Grd.carry HK1.out b3
  have HV3 : Hid (ScrV V3 s (.slice a1 n1 c1) (.slice a2 n2 c2) (.slice a3 n3 c3)) := (HV1.out.next HK2.out).next b3
  have HZ3 : Hid (ScrV V3 s' _ _ _) := hO3.scr
  obtain ⟨k1, k2, k3, k4⟩ := kept_v (A := scrA s' (.slice d1 m1 e1) (.slice d2 m2 e2) (.slice d3 m3 e3)) HB3.out
  have HL1 : Hid _ := k1
  have HL3 : Hid _ := k3
  have HL4 : Hid _ := k4
  have HX4 : Hid _ := Grd.carry HX3.out k2
  have HO4 : Hid _ := Grd.carry HO3.out k2
  have HV4 : Hid (ScrV _ s (.slice a1 n1 c1) (.slice a2 n2 c2) (.slice a3 n3 c3)) := HV3.out.next k2
  have HZ4 : Hid (ScrV _ s' (.slice d1 m1 e1) (.slice d2 m2 e2) (.slice d3 m3 e3)) := HZ3.out.next k2
  clear HCF hO3 b3 k1 k2 k3 k4 HC HK1 HK2 HK3 HX2 HX1 HX0 HV1 HB1 HKB
  go_upto_region 3 with (refine wpList_store_row rfl 32 (.tmp 8) _ rfl V3.heap.size (scrA s' (.slice d1 m1 e1) (.slice d2 m2 e2) (.slice d3 m3 e3)) rfl rfl _ _ HL4.out (by kernel_rfl) rfl (scr_one _ _ _ _ _ _ _ _ _ _) ?_)
  clear HL4 HX3 HO3 HV3 HZ3
  generalize ((V3.alloc (.cells #[.int .i64 0, .int .i64 0, .slice none 0 0, .int .i64 0, .int .i64 0, .bool false, .int .i64 0, .int .i64 0, .int .i64 0, .int .i64 0, .int .i64 0, .int .i64 0, .slice none 0 0, .int .i64 0, .int .i64 0, .int .i64 0, .int .i64 0, .int .i64 0, .int .i64 0, .int .i32 0, .string ⟨#[]⟩, .slice none 0 0] 32)).setRow V3.heap.size (scrA s' (.slice d1 m1 e1) (.slice d2 m2 e2) (.slice d3 m3 e3))) = X4 at *
  go_wp2_with fail
  refine (HP.out _ HL3.out).mono ?_
  rintro e V5 ⟨rfl, b5⟩
  have HB5 : Hid (Below w.heap.size w V5) := HL3.out.trans (b5.mono HL3.out.size)
  have HX5 : Hid (V5.heap[w.heap.size]? = _) := Grd.carry HX4.out b5
  have HO5 : Hid (V5.heap[V1.heap.size]? = _) := Grd.carry HO4.out b5
  have HL5 : Hid (V5.heap[V3.heap.size]? = _) := Grd.carry HL1.out b5
  have HV5 : Hid (ScrV V5 s (.slice a1 n1 c1) (.slice a2 n2 c2) (.slice a3 n3 c3)) := HV4.out.next b5
  have HZ5 : Hid (ScrV V5 s' (.slice d1 m1 e1) (.slice d2 m2 e2) (.slice d3 m3 e3)) := HZ4.out.next b5
  clear b5 HX4 HO4 HL1 HV4 HZ4 HL3
  go_wp2_with (first
    | (refine BigFrame.wpList_want rfl fun K hK => wp_load_row 32 (.tmp 7) rfl V1.heap.size rfl _ _ _ _ HO5.out Tryz.underlying32 rfl (by kernel_rfl) (hK _ _ ?_))
    | (refine BigFrame.wpList_want rfl fun K hK => wp_load_row 32 (.tmp 3) rfl w.heap.size rfl _ _ _ _ HX5.out Tryz.underlying32 rfl (by kernel_rfl) (hK _ _ ?_)))
  refine (sameScreen_any s _ _ _ cv tv gv V5 HV5.out (HV.out.next HB5.out) HBK.out.small).mono ?_
  rintro e V6 ⟨rfl, b6⟩
  have HB6 : Hid (Below w.heap.size w V6) := HB5.out.trans (b6.mono HB5.out.size)
  have HX6 : Hid (V6.heap[w.heap.size]? = _) := Grd.carry HX5.out b6
  have HL6 : Hid (V6.heap[V3.heap.size]? = _) := Grd.carry HL5.out b6
  have HZ6 : Hid (ScrV V6 s' (.slice d1 m1 e1) (.slice d2 m2 e2) (.slice d3 m3 e3)) := HZ5.out.next b6
  clear b6 HX5 HO5 HL5 HV5 HZ5 HB5
  go_wp2_with (refine wpList_load_row rfl 32 (.tmp 3) rfl w.heap.size rfl _ _ _ _ HX6.out Tryz.underlying32 rfl (by kernel_rfl) ?_)
  refine (HCK.out _ HB6.out).mono ?_
  rintro e V7 ⟨rfl, b7⟩
  have HB7 : Hid (Below w.heap.size w V7) := HB6.out.trans (b7.mono HB6.out.size)
  have HL7 : Hid (V7.heap[V3.heap.size]? = _) := Grd.carry HL6.out b7
  have HX7' : Hid (V7.heap[w.heap.size]? = _) := Grd.carry HX6.out b7
  have HZ7 : Hid (ScrV V7 s' (.slice d1 m1 e1) (.slice d2 m2 e2) (.slice d3 m3 e3)) := HZ6.out.next b7
  clear b7 HX6 HL6 HZ6 HB6
  go_upto_region 8 with fail
  have HX7 : Hid (V7.heap[w.heap.size]? = _) := HX7'.out
  go_wp2_with (refine wpList_load_row rfl 32 (.tmp 3) rfl w.heap.size rfl _ _ _ _ HX7.out Tryz.underlying32 rfl (by kernel_rfl) ?_)
  refine (take_any n hh s cv tv gv w V7 HV.out HB7.out HBK.out.f HRR.out.w HRR.out.h HRR.out.gz).mono ?_
  rintro e V8 ⟨p, rfl, hD8, b8⟩
  have HB8 : Hid (Below w.heap.size w V8) := HB7.out.trans (b8.mono HB7.out.size)
  have HDD := HDO.out V7.heap.size V8 p HB8.out HB7.out.size b8.size hD8
  have HB78 : Hid (Below V7.heap.size V7 V8) := b8
  clear b8 hD8
  go_wp2_with fail
  refine HDD.mono ?_
  rintro e V9 ⟨rfl, hD9, b9⟩
  have HB79 : Hid (Below V7.heap.size V7 V9) := HB78.out.trans b9
  have HB9 : Hid (Below w.heap.size w V9) := HB7.out.trans (HB79.out.mono HB7.out.size)
  have HGV : Hid (∀ W, Below V9.heap.size V9 W → Calls Tryz.prog 68 #[.pointer (some ⟨p, 0, none⟩)] W fun e W' => ∃ cv' tv' gv', e = .returned (.agg (scrA s' cv' tv' gv')) ∧ ScrV W' s' cv' tv' gv' ∧ Below W.heap.size W W') := fun W hW => by
    have h := give_any W _ p s2 rows2 (hD9.next hW) n hh HRR.out.n1 HRR.out.n2 HRR.out.h1 HRR.out.h2 HRL.out.1 HRL.out.2.1 _ rfl
    rw [HRL.out.2.2] at h
    exact h
  have HL9 : Hid (V9.heap[V3.heap.size]? = _) := Grd.carry HL7.out HB79.out
  have HZ9 : Hid (ScrV V9 s' (.slice d1 m1 e1) (.slice d2 m2 e2) (.slice d3 m3 e3)) := HZ7.out.next HB79.out
  clear b9 hD9 HDD HL7 HZ7 HX7 HX7' HB7 HB8 HB78 HB79 HCK HDO HP HTB
  go_upto_region 10 with fail
  have SK : Hid (∀ w', Below V9.heap.size V9 w' → Below V9.heap.size V9 w' ∧ ScrPtr w' (.pointer (some ⟨V3.heap.size, 0, none⟩)) ∧ blkAt w' (.pointer (some ⟨V3.heap.size, 0, none⟩)) = scrA s' (.slice d1 m1 e1) (.slice d2 m2 e2) (.slice d3 m3 e3)) := fun w' hb => by
    have hx := Grd.carry HL9.out hb
    exact ⟨hb, (scrPtr_of hx).1, (scrPtr_of hx).2⟩
  have b0 : Below V9.heap.size V9 V9.drew := (Below.refl _ _).drew
  go_region_held3 (fun w' => Below V9.heap.size V9 w' ∧ ScrPtr w' (.pointer (some ⟨V3.heap.size, 0, none⟩)) ∧ blkAt w' (.pointer (some ⟨V3.heap.size, 0, none⟩)) = scrA s' (.slice d1 m1 e1) (.slice d2 m2 e2) (.slice d3 m3 e3))
    (first | exact SK.out _ q2 | exact SK.out _ q1 | exact SK.out _ b0)
    (first
      | (go_at_call 64; refine (sameScreen_any s' _ _ _ _ _ _ _ (HZ9.out.next q1) HG1.out HSM.out).mono ?_; rintro e U2 ⟨rfl, g2⟩; have q2 := q1.trans (g2.mono q1.size); clear g2)
      | (go_at_call 68; refine (HGV.out _ b0).mono ?_; rintro e U1 ⟨y1, y2, y3, rfl, hG1, g1⟩; have q1 := b0.trans (g1.mono b0.size); have HG1 : Hid (ScrV U1 s' y1 y2 y3) := hG1; clear g1 hG1))
  go_wp2_with fail
  go_ret
  exact ⟨rfl, HB9.out.trans (q2.mono HB9.out.size)⟩
end
end Put
end Go.Proofs.YtnkeahfcpbepjaaGreatDoor

/- trellislaw.acts and one: a call, and what a name says. -/
namespace Go.Proofs.YtnkeahfcpbepjaaGreatDoor
set_option linter.unusedVariables false
open Go.ChangeShapes Go.WideShapes Go.ChangeAt Go.RowKit
namespace Put
open Grd (C SliceAt CellsAt gridErr z0 nilV rowsL RowsAt RowB flat)
theorem cell_box {W : World} {R : Nat} {v : Value} {t : TypeId} (h : W.heap[R]? = some (.cells #[v] t (0, 0))) : W.cell? ⟨R, 0, none⟩ = some v := by simp [World.cell?, h]
/-- What a name does to a desk. -/
def ActMakes (what : ByteArray) (n m : Int) (s s2 : Scr) (rows rows2 : List (List C)) : Prop :=
  ∀ N W p, N ≤ W.heap.size → DkAt W N p s rows → Calls Tryz.prog 39 #[.pointer (some ⟨p, 0, none⟩), .string what, .int .i64 n, .int .i64 m] W fun e W' => e = .returned (.tuple #[]) ∧ DkAt W' N p s2 rows2 ∧ Below N W W'
theorem plain_acts : Plain 38 := by
  intro args W
  kernel_rfl
set_option maxHeartbeats 1000000 in
theorem acts1_acts {what : ByteArray} {n m : Int} {s s2 : Scr} {rows rows2 : List (List C)} (h : ActMakes what n m s s2 rows rows2) (B1 B2 B3 : Nat) (w : World) (h1 : w.cell? ⟨B1, 0, none⟩ = some (.string what)) (h2 : w.cell? ⟨B2, 0, none⟩ = some (.int .i64 n)) (h3 : w.cell? ⟨B3, 0, none⟩ = some (.int .i64 m)) :
    Acts 38 #[.pointer (some ⟨B1, 0, none⟩), .pointer (some ⟨B2, 0, none⟩), .pointer (some ⟨B3, 0, none⟩)] w s s2 rows rows2 := by
  intro N W p hb hN hN2 hD
  have q1 := cell_stay hb h1
  have q2 := cell_stay hb h2
  have q3 := cell_stay hb h3
  have H := h N W p hN2 hD
  clear h hD h1 h2 h3 hb
  show Calls _ _ #[.pointer (some ⟨p, 0, none⟩), .pointer (some ⟨B1, 0, none⟩), .pointer (some ⟨B2, 0, none⟩), .pointer (some ⟨B3, 0, none⟩)] _ _
  go_enter Tryz.func38, Tryz.ntmps38
  go_wp2_with fail
  refine H.mono ?_
  rintro e W1 ⟨rfl, hD1, b1⟩
  go_wp2_with fail
  go_end0
  exact ⟨rfl, hD1, b1⟩
set_option maxHeartbeats 2000000 in
set_option maxRecDepth 100000 in
theorem acts_calls (s : Scr) (cv tv gv fv : Value) (what : ByteArray) (n m : Int) (w : World) (hV : ScrV w s cv tv gv)
    (hD : ∀ W B1 B2 B3, Below w.heap.size w W → W.cell? ⟨B1, 0, none⟩ = some (.string what) → W.cell? ⟨B2, 0, none⟩ = some (.int .i64 n) → W.cell? ⟨B3, 0, none⟩ = some (.int .i64 m) → Calls Tryz.prog 26 #[.agg (scrA s cv tv gv), fv, .func (.func 38) #[] #[.pointer (some ⟨B1, 0, none⟩), .pointer (some ⟨B2, 0, none⟩), .pointer (some ⟨B3, 0, none⟩)]] W fun e w' => e = .returned (.bool true) ∧ Below W.heap.size W w') :
    Calls Tryz.prog 12 #[.agg (scrA s cv tv gv), fv, .string what, .int .i64 n, .int .i64 m] w fun e w' => e = .returned (.bool true) ∧ Below w.heap.size w w' := by
  obtain ⟨ca, cc, rfl⟩ := hV.c.shape
  obtain ⟨ta, tc, rfl⟩ := hV.t.slice
  obtain ⟨ga, gc, rfl⟩ := hV.g.slice
  have hkb : Below w.heap.size w ((((w.alloc (.cells (scrA s (.slice ca s.cs.length cc) (.slice ta s.tabs.length tc) (.slice ga s.gone.length gc)) 32)).alloc (.cells #[.string what] 9)).alloc (.cells #[.int .i64 n] 3)).alloc (.cells #[.int .i64 m] 3)) := (((((Below.refl _ _).alloc (by simp) _).alloc (by simp) _).alloc (by simp; omega) _).alloc (by simp; omega) _)
  have hx0 : (w.alloc (.cells (scrA s (.slice ca s.cs.length cc) (.slice ta s.tabs.length tc) (.slice ga s.gone.length gc)) 32)).heap[w.heap.size]? = some (.cells (scrA s (.slice ca s.cs.length cc) (.slice ta s.tabs.length tc) (.slice ga s.gone.length gc)) 32 (0, 0)) := by
    have h := heap_alloc_new w (.cells (scrA s (.slice ca s.cs.length cc) (.slice ta s.tabs.length tc) (.slice ga s.gone.length gc)) 32)
    have e : w.heap.size = w.heap.size := by simp
    rw [e] at h
    exact h
  have hx0 := (Below.heap_alloc (w.alloc (.cells (scrA s (.slice ca s.cs.length cc) (.slice ta s.tabs.length tc) (.slice ga s.gone.length gc)) 32)) (.cells #[.string what] 9) _ (heap_lt hx0)).trans hx0
  have hx0 := (Below.heap_alloc ((w.alloc (.cells (scrA s (.slice ca s.cs.length cc) (.slice ta s.tabs.length tc) (.slice ga s.gone.length gc)) 32)).alloc (.cells #[.string what] 9)) (.cells #[.int .i64 n] 3) _ (heap_lt hx0)).trans hx0
  have hx0 := (Below.heap_alloc (((w.alloc (.cells (scrA s (.slice ca s.cs.length cc) (.slice ta s.tabs.length tc) (.slice ga s.gone.length gc)) 32)).alloc (.cells #[.string what] 9)).alloc (.cells #[.int .i64 n] 3)) (.cells #[.int .i64 m] 3) _ (heap_lt hx0)).trans hx0
  have hx1 : ((w.alloc (.cells (scrA s (.slice ca s.cs.length cc) (.slice ta s.tabs.length tc) (.slice ga s.gone.length gc)) 32)).alloc (.cells #[.string what] 9)).heap[w.heap.size + 1]? = some (.cells #[.string what] 9 (0, 0)) := by
    have h := heap_alloc_new (w.alloc (.cells (scrA s (.slice ca s.cs.length cc) (.slice ta s.tabs.length tc) (.slice ga s.gone.length gc)) 32)) (.cells #[.string what] 9)
    have e : (w.alloc (.cells (scrA s (.slice ca s.cs.length cc) (.slice ta s.tabs.length tc) (.slice ga s.gone.length gc)) 32)).heap.size = w.heap.size + 1 := by simp
    rw [e] at h
    exact h
  have hx1 := (Below.heap_alloc ((w.alloc (.cells (scrA s (.slice ca s.cs.length cc) (.slice ta s.tabs.length tc) (.slice ga s.gone.length gc)) 32)).alloc (.cells #[.string what] 9)) (.cells #[.int .i64 n] 3) _ (heap_lt hx1)).trans hx1
  have hx1 := (Below.heap_alloc (((w.alloc (.cells (scrA s (.slice ca s.cs.length cc) (.slice ta s.tabs.length tc) (.slice ga s.gone.length gc)) 32)).alloc (.cells #[.string what] 9)).alloc (.cells #[.int .i64 n] 3)) (.cells #[.int .i64 m] 3) _ (heap_lt hx1)).trans hx1
  have hx2 : (((w.alloc (.cells (scrA s (.slice ca s.cs.length cc) (.slice ta s.tabs.length tc) (.slice ga s.gone.length gc)) 32)).alloc (.cells #[.string what] 9)).alloc (.cells #[.int .i64 n] 3)).heap[w.heap.size + 2]? = some (.cells #[.int .i64 n] 3 (0, 0)) := by
    have h := heap_alloc_new ((w.alloc (.cells (scrA s (.slice ca s.cs.length cc) (.slice ta s.tabs.length tc) (.slice ga s.gone.length gc)) 32)).alloc (.cells #[.string what] 9)) (.cells #[.int .i64 n] 3)
    have e : ((w.alloc (.cells (scrA s (.slice ca s.cs.length cc) (.slice ta s.tabs.length tc) (.slice ga s.gone.length gc)) 32)).alloc (.cells #[.string what] 9)).heap.size = w.heap.size + 2 := by simp
    rw [e] at h
    exact h
  have hx2 := (Below.heap_alloc (((w.alloc (.cells (scrA s (.slice ca s.cs.length cc) (.slice ta s.tabs.length tc) (.slice ga s.gone.length gc)) 32)).alloc (.cells #[.string what] 9)).alloc (.cells #[.int .i64 n] 3)) (.cells #[.int .i64 m] 3) _ (heap_lt hx2)).trans hx2
  have hx3 : ((((w.alloc (.cells (scrA s (.slice ca s.cs.length cc) (.slice ta s.tabs.length tc) (.slice ga s.gone.length gc)) 32)).alloc (.cells #[.string what] 9)).alloc (.cells #[.int .i64 n] 3)).alloc (.cells #[.int .i64 m] 3)).heap[w.heap.size + 3]? = some (.cells #[.int .i64 m] 3 (0, 0)) := by
    have h := heap_alloc_new (((w.alloc (.cells (scrA s (.slice ca s.cs.length cc) (.slice ta s.tabs.length tc) (.slice ga s.gone.length gc)) 32)).alloc (.cells #[.string what] 9)).alloc (.cells #[.int .i64 n] 3)) (.cells #[.int .i64 m] 3)
    have e : (((w.alloc (.cells (scrA s (.slice ca s.cs.length cc) (.slice ta s.tabs.length tc) (.slice ga s.gone.length gc)) 32)).alloc (.cells #[.string what] 9)).alloc (.cells #[.int .i64 n] 3)).heap.size = w.heap.size + 3 := by simp
    rw [e] at h
    exact h
  have HX0 : Hid _ := hx0
  have HKB : Hid _ := hkb
  have HC := hD _ (w.heap.size + 1) (w.heap.size + 2) (w.heap.size + 3) hkb (cell_box hx1) (cell_box hx2) (cell_box hx3)
  clear hkb hV hD hx0 hx1 hx2 hx3
  go_enter Tryz.func12, Tryz.ntmps12
  go_upto_region 1 with fail
  generalize ((((w.alloc (.cells (scrA s (.slice ca s.cs.length cc) (.slice ta s.tabs.length tc) (.slice ga s.gone.length gc)) 32)).alloc (.cells #[.string what] 9)).alloc (.cells #[.int .i64 n] 3)).alloc (.cells #[.int .i64 m] 3)) = X at *
  go_wp2_with (refine wpList_load_row rfl 32 (.tmp 5) rfl w.heap.size rfl _ _ _ _ HX0.out Tryz.underlying32 rfl (by kernel_rfl) ?_)
  refine HC.mono ?_
  rintro e V ⟨rfl, b⟩
  have HB : Hid (Below w.heap.size w V) := HKB.out.trans (b.mono HKB.out.size)
  clear HC b
  go_wp2_with fail
  go_ret
  exact ⟨rfl, HB.out⟩
set_option maxHeartbeats 2000000 in
set_option maxRecDepth 100000 in
theorem one1_calls (s s' : Scr) (cv tv gv : Value) (cf : FuncId) (hcf : Plain cf) (n : Int) (B1 B2 : Nat) (er : Int) (w0 w : World) (hV : ScrV w0 s cv tv gv) (hM : w0.heap.size ≤ w.heap.size) (h1 : w.cell? ⟨B1, 0, none⟩ = some (.func (.func cf) #[] #[])) (h2 : w.cell? ⟨B2, 0, none⟩ = some (.int .i64 n))
    (hC : ∀ W, Below w.heap.size w W → Calls Tryz.prog cf #[.agg (scrA s cv tv gv), .int .i64 n] W (Made w0 W s' er)) :
    Calls Tryz.prog 32 #[.agg (scrA s cv tv gv), .pointer (some ⟨B1, 0, none⟩), .pointer (some ⟨B2, 0, none⟩)] w (Made w0 w s' er) := by
  obtain ⟨ca, cc, rfl⟩ := hV.c.shape
  obtain ⟨ta, tc, rfl⟩ := hV.t.slice
  obtain ⟨ga, gc, rfl⟩ := hV.g.slice
  have hkb : Below w.heap.size w ((w.alloc (.cells (scrA s (.slice ca s.cs.length cc) (.slice ta s.tabs.length tc) (.slice ga s.gone.length gc)) 32)).alloc (.cells #[.int .i64 0, .int .i64 0, .slice none 0 0, .int .i64 0, .int .i64 0, .bool false, .int .i64 0, .int .i64 0, .int .i64 0, .int .i64 0, .int .i64 0, .int .i64 0, .slice none 0 0, .int .i64 0, .int .i64 0, .int .i64 0, .int .i64 0, .int .i64 0, .int .i64 0, .int .i32 0, .string ⟨#[]⟩, .slice none 0 0] 32)) := (((Below.refl _ _).alloc (by simp) _).alloc (by simp) _)
  have hx0 : (w.alloc (.cells (scrA s (.slice ca s.cs.length cc) (.slice ta s.tabs.length tc) (.slice ga s.gone.length gc)) 32)).heap[w.heap.size]? = some (.cells (scrA s (.slice ca s.cs.length cc) (.slice ta s.tabs.length tc) (.slice ga s.gone.length gc)) 32 (0, 0)) := by
    have h := heap_alloc_new w (.cells (scrA s (.slice ca s.cs.length cc) (.slice ta s.tabs.length tc) (.slice ga s.gone.length gc)) 32)
    have e : w.heap.size = w.heap.size := by simp
    rw [e] at h
    exact h
  have hx0 := (Below.heap_alloc (w.alloc (.cells (scrA s (.slice ca s.cs.length cc) (.slice ta s.tabs.length tc) (.slice ga s.gone.length gc)) 32)) (.cells #[.int .i64 0, .int .i64 0, .slice none 0 0, .int .i64 0, .int .i64 0, .bool false, .int .i64 0, .int .i64 0, .int .i64 0, .int .i64 0, .int .i64 0, .int .i64 0, .slice none 0 0, .int .i64 0, .int .i64 0, .int .i64 0, .int .i64 0, .int .i64 0, .int .i64 0, .int .i32 0, .string ⟨#[]⟩, .slice none 0 0] 32) _ (heap_lt hx0)).trans hx0
  have hx1 : ((w.alloc (.cells (scrA s (.slice ca s.cs.length cc) (.slice ta s.tabs.length tc) (.slice ga s.gone.length gc)) 32)).alloc (.cells #[.int .i64 0, .int .i64 0, .slice none 0 0, .int .i64 0, .int .i64 0, .bool false, .int .i64 0, .int .i64 0, .int .i64 0, .int .i64 0, .int .i64 0, .int .i64 0, .slice none 0 0, .int .i64 0, .int .i64 0, .int .i64 0, .int .i64 0, .int .i64 0, .int .i64 0, .int .i32 0, .string ⟨#[]⟩, .slice none 0 0] 32)).heap[w.heap.size + 1]? = some (.cells #[.int .i64 0, .int .i64 0, .slice none 0 0, .int .i64 0, .int .i64 0, .bool false, .int .i64 0, .int .i64 0, .int .i64 0, .int .i64 0, .int .i64 0, .int .i64 0, .slice none 0 0, .int .i64 0, .int .i64 0, .int .i64 0, .int .i64 0, .int .i64 0, .int .i64 0, .int .i32 0, .string ⟨#[]⟩, .slice none 0 0] 32 (0, 0)) := by
    have h := heap_alloc_new (w.alloc (.cells (scrA s (.slice ca s.cs.length cc) (.slice ta s.tabs.length tc) (.slice ga s.gone.length gc)) 32)) (.cells #[.int .i64 0, .int .i64 0, .slice none 0 0, .int .i64 0, .int .i64 0, .bool false, .int .i64 0, .int .i64 0, .int .i64 0, .int .i64 0, .int .i64 0, .int .i64 0, .slice none 0 0, .int .i64 0, .int .i64 0, .int .i64 0, .int .i64 0, .int .i64 0, .int .i64 0, .int .i32 0, .string ⟨#[]⟩, .slice none 0 0] 32)
    have e : (w.alloc (.cells (scrA s (.slice ca s.cs.length cc) (.slice ta s.tabs.length tc) (.slice ga s.gone.length gc)) 32)).heap.size = w.heap.size + 1 := by simp
    rw [e] at h
    exact h
  have HX0 : Hid _ := hx0
  have HXR : Hid _ := hx1
  have HKB : Hid _ := hkb
  have HC := hC _ hkb
  have q1 := cell_stay hkb h1
  have q2 := cell_stay hkb h2
  have hsz : w.heap.size ≤ ((w.alloc (.cells (scrA s (.slice ca s.cs.length cc) (.slice ta s.tabs.length tc) (.slice ga s.gone.length gc)) 32)).alloc (.cells #[.int .i64 0, .int .i64 0, .slice none 0 0, .int .i64 0, .int .i64 0, .bool false, .int .i64 0, .int .i64 0, .int .i64 0, .int .i64 0, .int .i64 0, .int .i64 0, .slice none 0 0, .int .i64 0, .int .i64 0, .int .i64 0, .int .i64 0, .int .i64 0, .int .i64 0, .int .i32 0, .string ⟨#[]⟩, .slice none 0 0] 32)).heap.size := hkb.size
  unfold Plain at hcf
  clear hkb hV hC hx0 hx1 h1 h2
  go_enter Tryz.func32, Tryz.ntmps32
  go_upto_region 1 with fail
  generalize ((w.alloc (.cells (scrA s (.slice ca s.cs.length cc) (.slice ta s.tabs.length tc) (.slice ga s.gone.length gc)) 32)).alloc (.cells #[.int .i64 0, .int .i64 0, .slice none 0 0, .int .i64 0, .int .i64 0, .bool false, .int .i64 0, .int .i64 0, .int .i64 0, .int .i64 0, .int .i64 0, .int .i64 0, .slice none 0 0, .int .i64 0, .int .i64 0, .int .i64 0, .int .i64 0, .int .i64 0, .int .i64 0, .int .i32 0, .string ⟨#[]⟩, .slice none 0 0] 32)) = X at *
  go_wp2_with (refine wpList_load_row rfl 32 (.tmp 3) rfl w.heap.size rfl _ _ _ _ HX0.out Tryz.underlying32 rfl (by kernel_rfl) ?_)
  refine HC.mono ?_
  rintro e V ⟨cv', tv', gv', rfl, hO, c2⟩
  obtain ⟨a1, n1, c1, a2, n2, c2', a3, n3, c3, rfl, rfl, rfl⟩ := hO.shapes
  have HO : Hid (ScrO V 0 _ s' _ _ _) := hO
  have HR : Hid (V.heap[w.heap.size + 1]? = _) := Grd.carry HXR.out c2
  have HB : Hid (Below w.heap.size w V) := HKB.out.trans (c2.mono HKB.out.size)
  clear hO c2 HC q1 q2
  go_wp2_with (refine wpList_store_row rfl 32 (.tmp 4) (.tmp 10) rfl (w.heap.size + 1) (scrA s' (.slice a1 n1 c1) (.slice a2 n2 c2') (.slice a3 n3 c3)) rfl rfl _ _ HR.out (by kernel_rfl) rfl (scr_one _ _ _ _ _ _ _ _ _ _) ?_)
  (try simp only [Exit.inBlock, Exit.then])
  refine bodyPost_ret (v := .tuple #[.agg (scrA s' (.slice a1 n1 c1) (.slice a2 n2 c2') (.slice a3 n3 c3)), .int .i64 er]) ?_ rfl ⟨_, _, _, rfl, ?_, below_setRow HB.out (by omega) _⟩
  · exact Grd.results_row_tmp rfl _ _ (w.heap.size + 1) _ _ _ _ rfl (setRow_heap _ _ _ _ _ _ HR.out) Tryz.underlying32 rfl (by kernel_rfl) _ rfl
  · exact (ScrO.off HO.out HR.out screen_is (by omega) fun k hk => setRow_other _ _ _ _ hk).mono hsz
set_option maxHeartbeats 2000000 in
set_option maxRecDepth 100000 in
theorem one_calls (s : Scr) (cv tv gv : Value) (cf : FuncId) (what : ByteArray) (n : Int) (w : World) (hV : ScrV w s cv tv gv)
    (hD : ∀ W B1 B2, Below w.heap.size w W → W.cell? ⟨B1, 0, none⟩ = some (.func (.func cf) #[] #[]) → W.cell? ⟨B2, 0, none⟩ = some (.int .i64 n) → Calls Tryz.prog 12 #[.agg (scrA s cv tv gv), .func (.func 32) #[] #[.pointer (some ⟨B1, 0, none⟩), .pointer (some ⟨B2, 0, none⟩)], .string what, .int .i64 n, .int .i64 0] W fun e w' => e = .returned (.bool true) ∧ Below W.heap.size W w') :
    Calls Tryz.prog 8 #[.agg (scrA s cv tv gv), .func (.func cf) #[] #[], .string what, .int .i64 n] w fun e w' => e = .returned (.bool true) ∧ Below w.heap.size w w' := by
  obtain ⟨ca, cc, rfl⟩ := hV.c.shape
  obtain ⟨ta, tc, rfl⟩ := hV.t.slice
  obtain ⟨ga, gc, rfl⟩ := hV.g.slice
  have hkb : Below w.heap.size w (((w.alloc (.cells (scrA s (.slice ca s.cs.length cc) (.slice ta s.tabs.length tc) (.slice ga s.gone.length gc)) 32)).alloc (.cells #[.func (.func cf) #[] #[]] 34)).alloc (.cells #[.int .i64 n] 3)) := ((((Below.refl _ _).alloc (by simp) _).alloc (by simp) _).alloc (by simp; omega) _)
  have hx0 : (w.alloc (.cells (scrA s (.slice ca s.cs.length cc) (.slice ta s.tabs.length tc) (.slice ga s.gone.length gc)) 32)).heap[w.heap.size]? = some (.cells (scrA s (.slice ca s.cs.length cc) (.slice ta s.tabs.length tc) (.slice ga s.gone.length gc)) 32 (0, 0)) := by
    have h := heap_alloc_new w (.cells (scrA s (.slice ca s.cs.length cc) (.slice ta s.tabs.length tc) (.slice ga s.gone.length gc)) 32)
    have e : w.heap.size = w.heap.size := by simp
    rw [e] at h
    exact h
  have hx0 := (Below.heap_alloc (w.alloc (.cells (scrA s (.slice ca s.cs.length cc) (.slice ta s.tabs.length tc) (.slice ga s.gone.length gc)) 32)) (.cells #[.func (.func cf) #[] #[]] 34) _ (heap_lt hx0)).trans hx0
  have hx0 := (Below.heap_alloc ((w.alloc (.cells (scrA s (.slice ca s.cs.length cc) (.slice ta s.tabs.length tc) (.slice ga s.gone.length gc)) 32)).alloc (.cells #[.func (.func cf) #[] #[]] 34)) (.cells #[.int .i64 n] 3) _ (heap_lt hx0)).trans hx0
  have hx1 : ((w.alloc (.cells (scrA s (.slice ca s.cs.length cc) (.slice ta s.tabs.length tc) (.slice ga s.gone.length gc)) 32)).alloc (.cells #[.func (.func cf) #[] #[]] 34)).heap[w.heap.size + 1]? = some (.cells #[.func (.func cf) #[] #[]] 34 (0, 0)) := by
    have h := heap_alloc_new (w.alloc (.cells (scrA s (.slice ca s.cs.length cc) (.slice ta s.tabs.length tc) (.slice ga s.gone.length gc)) 32)) (.cells #[.func (.func cf) #[] #[]] 34)
    have e : (w.alloc (.cells (scrA s (.slice ca s.cs.length cc) (.slice ta s.tabs.length tc) (.slice ga s.gone.length gc)) 32)).heap.size = w.heap.size + 1 := by simp
    rw [e] at h
    exact h
  have hx1 := (Below.heap_alloc ((w.alloc (.cells (scrA s (.slice ca s.cs.length cc) (.slice ta s.tabs.length tc) (.slice ga s.gone.length gc)) 32)).alloc (.cells #[.func (.func cf) #[] #[]] 34)) (.cells #[.int .i64 n] 3) _ (heap_lt hx1)).trans hx1
  have hx2 : (((w.alloc (.cells (scrA s (.slice ca s.cs.length cc) (.slice ta s.tabs.length tc) (.slice ga s.gone.length gc)) 32)).alloc (.cells #[.func (.func cf) #[] #[]] 34)).alloc (.cells #[.int .i64 n] 3)).heap[w.heap.size + 2]? = some (.cells #[.int .i64 n] 3 (0, 0)) := by
    have h := heap_alloc_new ((w.alloc (.cells (scrA s (.slice ca s.cs.length cc) (.slice ta s.tabs.length tc) (.slice ga s.gone.length gc)) 32)).alloc (.cells #[.func (.func cf) #[] #[]] 34)) (.cells #[.int .i64 n] 3)
    have e : ((w.alloc (.cells (scrA s (.slice ca s.cs.length cc) (.slice ta s.tabs.length tc) (.slice ga s.gone.length gc)) 32)).alloc (.cells #[.func (.func cf) #[] #[]] 34)).heap.size = w.heap.size + 2 := by simp
    rw [e] at h
    exact h
  have HX0 : Hid _ := hx0
  have HKB : Hid _ := hkb
  have HC := hD _ (w.heap.size + 1) (w.heap.size + 2) hkb (cell_box hx1) (cell_box hx2)
  have q2 := cell_box hx2
  clear hkb hV hD hx0 hx1 hx2
  go_enter Tryz.func8, Tryz.ntmps8
  go_upto_region 1 with fail
  generalize (((w.alloc (.cells (scrA s (.slice ca s.cs.length cc) (.slice ta s.tabs.length tc) (.slice ga s.gone.length gc)) 32)).alloc (.cells #[.func (.func cf) #[] #[]] 34)).alloc (.cells #[.int .i64 n] 3)) = X at *
  go_wp2_with (refine wpList_load_row rfl 32 (.tmp 4) rfl w.heap.size rfl _ _ _ _ HX0.out Tryz.underlying32 rfl (by kernel_rfl) ?_)
  refine HC.mono ?_
  rintro e V ⟨rfl, b⟩
  have HB : Hid (Below w.heap.size w V) := HKB.out.trans (b.mono HKB.out.size)
  clear HC b q2
  go_wp2_with fail
  go_ret
  exact ⟨rfl, HB.out⟩
theorem plain_one : Plain 32 := by
  intro args W
  kernel_rfl
/-- What a call makes, and what is to be done, of a right screen. -/
def Agrees (what : ByteArray) (n m : Int) (s s' : Scr) (nn hh : Nat) : Prop := Small s' ∧ ∃ s2 rows2, ActMakes what n m s s2 (rowsL nn s.cs hh) rows2 ∧ rows2.length = hh ∧ (∀ i, i < rows2.length → (rows2.getD i []).length = nn) ∧ { s2 with w := (nn : Int), h := (hh : Int), cs := rows2.flatten } = s'
/-- A call, by a name. -/
theorem acts_any (s : Scr) (cv tv gv : Value) (cf : FuncId) (hcf : Plain cf) (ccaps : Array Value) (what : ByteArray) (n m : Int) (w : World) (hT : Txt.Tab w) (hV : ScrV w s cv tv gv) (hB : Bulk s) (s' : Scr)
    (hbad : scrErr s ≠ 0 → ∀ w0 W cv tv gv, Below w.heap.size w w0 → Met w0 W s cv tv gv → Calls Tryz.prog cf (#[.agg (scrA s cv tv gv)] ++ ccaps) W (Made w0 W zScr (scrErr s)))
    (hgood : ∀ nn hh, RightS s nn hh → (∀ w0 W cv tv gv, Below w.heap.size w w0 → Met w0 W s cv tv gv → Calls Tryz.prog cf (#[.agg (scrA s cv tv gv)] ++ ccaps) W (Made w0 W s' 0)) ∧ Agrees what n m s s' nn hh) :
    Calls Tryz.prog 12 #[.agg (scrA s cv tv gv), .func (.func cf) #[] ccaps, .string what, .int .i64 n, .int .i64 m] w fun e w' => e = .returned (.bool true) ∧ Below w.heap.size w w' :=
  acts_calls s cv tv gv _ what n m w hV fun W B1 B2 B3 hW h1 h2 h3 => by
    by_cases hz : scrErr s = 0
    · obtain ⟨nn, hh, hR⟩ := right_of s hz
      obtain ⟨hc, hS, s2, rows2, hA, hrl, hrn, heq⟩ := hgood nn hh hR
      exact does_good s s' s2 nn hh rows2 cv tv gv cf _ ccaps _ hcf plain_acts W (Grd.Tab.next hT hW) (hV.next hW) hB hR hz hS (acts1_acts hA B1 B2 B3 W h1 h2 h3) hrl hrn heq fun w0 W' cv' tv' gv' hb hm => hc w0 W' cv' tv' gv' (hW.trans (hb.mono hW.size)) hm
    · exact does_bad s cv tv gv cf ccaps _ hcf W (Grd.Tab.next hT hW) (hV.next hW) hB hz fun w0 W' cv' tv' gv' hb hm => hbad hz w0 W' cv' tv' gv' (hW.trans (hb.mono hW.size)) hm
/-- A call with one number, by a name. -/
theorem one_any (s : Scr) (cv tv gv : Value) (cf : FuncId) (hcf : Plain cf) (what : ByteArray) (n : Int) (w : World) (hT : Txt.Tab w) (hV : ScrV w s cv tv gv) (hB : Bulk s) (s' : Scr)
    (hbad : scrErr s ≠ 0 → ∀ w0 W cv tv gv, Met w0 W s cv tv gv → Calls Tryz.prog cf #[.agg (scrA s cv tv gv), .int .i64 n] W (Made w0 W zScr (scrErr s)))
    (hgood : ∀ nn hh, RightS s nn hh → (∀ w0 W cv tv gv, Met w0 W s cv tv gv → Calls Tryz.prog cf #[.agg (scrA s cv tv gv), .int .i64 n] W (Made w0 W s' 0)) ∧ Agrees what n 0 s s' nn hh) :
    Calls Tryz.prog 8 #[.agg (scrA s cv tv gv), .func (.func cf) #[] #[], .string what, .int .i64 n] w fun e w' => e = .returned (.bool true) ∧ Below w.heap.size w w' :=
  one_calls s cv tv gv cf what n w hV fun W B1 B2 hW h1 h2 =>
    acts_any s cv tv gv _ plain_one _ what n 0 W (Grd.Tab.next hT hW) (hV.next hW) hB s'
      (fun hz w0 W' cv' tv' gv' hb hm => one1_calls s zScr cv' tv' gv' cf hcf n B1 B2 _ w0 W' hm.v hm.b.size (cell_stay (hb.trans (hm.b.mono hb.size)) h1) (cell_stay (hb.trans (hm.b.mono hb.size)) h2) fun V hV' => hbad hz w0 V cv' tv' gv' (hm.next hV'))
      (fun nn hh hR => ⟨fun w0 W' cv' tv' gv' hb hm => one1_calls s s' cv' tv' gv' cf hcf n B1 B2 _ w0 W' hm.v hm.b.size (cell_stay (hb.trans (hm.b.mono hb.size)) h1) (cell_stay (hb.trans (hm.b.mono hb.size)) h2) fun V hV' => (hgood nn hh hR).1 w0 V cv' tv' gv' (hm.next hV'), (hgood nn hh hR).2⟩)
end Put
end Go.Proofs.YtnkeahfcpbepjaaGreatDoor

/- Act: save, restore. -/
namespace Go.Proofs.YtnkeahfcpbepjaaGreatDoor
open Go.ChangeShapes Go.WideShapes Go.ChangeAt Go.RowKit
namespace Put
open Grd (C SliceAt CellsAt gridErr z0 nilV rowsL RowsAt RowB flat)
theorem DkAt.block {W : World} {N p : Nat} {s : Scr} {rows : List (List C)} (h : DkAt W N p s rows) : ∃ cv tv gv rv, W.heap[p]? = some (.cells (shA s cv tv gv rv) 50 (0, 0)) := by
  obtain ⟨cv, tv, gv, rv, gvs, vs, gs, h⟩ := h
  exact ⟨cv, tv, gv, rv, h.blk⟩
theorem DkAt.look {W : World} {N p : Nat} {s : Scr} {rows : List (List C)} (h : DkAt W N p s rows) (a b c : Int) : DkAt (W.setCells p 6 [.int .i64 a, .int .i64 b, .int .i64 c]) N p { s with sf := a, sb := b, sx := c } rows := by
  have h1 : DkAt (W.setCell ⟨p, 6, none⟩ (.int .i64 a)) N p { s with sf := a } rows := h.set 6 _ (fun _ _ _ _ => rfl) rfl rfl
  have h2 : DkAt ((W.setCell ⟨p, 6, none⟩ (.int .i64 a)).setCell ⟨p, 7, none⟩ (.int .i64 b)) N p { s with sf := a, sb := b } rows := h1.set 7 _ (fun _ _ _ _ => rfl) rfl rfl
  exact h2.set 8 _ (fun _ _ _ _ => rfl) rfl rfl
theorem DkAt.kept {W : World} {N p : Nat} {s : Scr} {rows : List (List C)} (h : DkAt W N p s rows) (x y a b c m : Int) : DkAt (W.setCells p 13 [.int .i64 x, .int .i64 y, .int .i64 a, .int .i64 b, .int .i64 c, .int .i64 m]) N p { s with kx := x, ky := y, kf := a, kb := b, kbits := c, km := m } rows := by
  have h1 : DkAt (W.setCell ⟨p, 13, none⟩ (.int .i64 x)) N p { s with kx := x } rows := h.set 13 _ (fun _ _ _ _ => rfl) rfl rfl
  have h2 : DkAt ((W.setCell ⟨p, 13, none⟩ (.int .i64 x)).setCell ⟨p, 14, none⟩ (.int .i64 y)) N p { s with kx := x, ky := y } rows := h1.set 14 _ (fun _ _ _ _ => rfl) rfl rfl
  have h3 : DkAt (((W.setCell ⟨p, 13, none⟩ (.int .i64 x)).setCell ⟨p, 14, none⟩ (.int .i64 y)).setCell ⟨p, 15, none⟩ (.int .i64 a)) N p { s with kx := x, ky := y, kf := a } rows := h2.set 15 _ (fun _ _ _ _ => rfl) rfl rfl
  have h4 : DkAt ((((W.setCell ⟨p, 13, none⟩ (.int .i64 x)).setCell ⟨p, 14, none⟩ (.int .i64 y)).setCell ⟨p, 15, none⟩ (.int .i64 a)).setCell ⟨p, 16, none⟩ (.int .i64 b)) N p { s with kx := x, ky := y, kf := a, kb := b } rows := h3.set 16 _ (fun _ _ _ _ => rfl) rfl rfl
  have h5 : DkAt (((((W.setCell ⟨p, 13, none⟩ (.int .i64 x)).setCell ⟨p, 14, none⟩ (.int .i64 y)).setCell ⟨p, 15, none⟩ (.int .i64 a)).setCell ⟨p, 16, none⟩ (.int .i64 b)).setCell ⟨p, 17, none⟩ (.int .i64 c)) N p { s with kx := x, ky := y, kf := a, kb := b, kbits := c } rows := h4.set 17 _ (fun _ _ _ _ => rfl) rfl rfl
  exact h5.set 18 _ (fun _ _ _ _ => rfl) rfl rfl
section
attribute [local go_sem ↓] load_sty store_sty store_kept
attribute [local go_sem] isInts3 isInts6 ptrB_at ptrOff_at aggL_agg
set_option maxHeartbeats 8000000 in
set_option maxRecDepth 100000 in
theorem act_save (n m : Int) (s : Scr) (rows : List (List C)) : ActMakes ⟨#[115, 97, 118, 101]⟩ n m s (saveS s) rows rows := by
  intro N W p hN hS
  have hlo := hS.lo
  have HK : Hid (DkAt (W.drew.setCells p 13 [.int .i64 s.x, .int .i64 s.y, .int .i64 s.sf, .int .i64 s.sb, .int .i64 s.sx, .int .i64 (bits .and .i64 s.modes 6)]) N p (saveS s) rows) := hS.drew.kept _ _ _ _ _ _
  have HB : Hid (Below N W (W.drew.setCells p 13 [.int .i64 s.x, .int .i64 s.y, .int .i64 s.sf, .int .i64 s.sb, .int .i64 s.sx, .int .i64 (bits .and .i64 s.modes 6)]) ) := below_cells (Below.refl _ _).drew hlo _ _
  obtain ⟨c0, c1, c3, c4, c5, c9, c10, c11, c19, f⟩ := hS.words
  obtain ⟨cv, tv, gv, rv, hblk⟩ := hS.drew.block
  obtain ⟨l1, l2⟩ := sty_look hblk
  have l3 := has_sh hblk 6 13 (by omega)
  clear hS c0 c1 c5 c9 c10 c19 f hblk
  go_enter Tryz.func39, Tryz.ntmps39
  go_upto_region 120 with fail
  go_region
  all_goals go_end0
  all_goals exact ⟨rfl, HK.out, HB.out⟩
set_option maxHeartbeats 8000000 in
set_option maxRecDepth 100000 in
theorem act_restore (n m : Int) (s : Scr) (rows : List (List C)) (h0 : 0 ≤ bits .and .i64 s.modes 57 + s.km) (h1 : bits .and .i64 s.modes 57 + s.km ≤ 63) : ActMakes ⟨#[114, 101, 115, 116, 111, 114, 101]⟩ n m s (restR s) rows rows := by
  intro N W p hN hS
  have hw57 : IntKind.i64.wrap (bits .and .i64 s.modes 57 + s.km) = bits .and .i64 s.modes 57 + s.km := wrap_id _ (by omega) (by omega)
  clear h0 h1
  have hlo := hS.lo
  have hD := hS.drew
  have k1 : DkAt (W.setCell ⟨p, 3, none⟩ (.int .i64 s.kx)) N p { s with x := s.kx } rows := hS.set 3 _ (fun _ _ _ _ => rfl) rfl rfl
  have k2' : DkAt ((W.setCell ⟨p, 3, none⟩ (.int .i64 s.kx)).setCell ⟨p, 4, none⟩ (.int .i64 s.ky)) N p { s with x := s.kx, y := s.ky } rows := k1.set 4 _ (fun _ _ _ _ => rfl) rfl rfl
  have k2 := k2'.drew
  clear k2'
  have k3 : DkAt (((W.setCell ⟨p, 3, none⟩ (.int .i64 s.kx)).setCell ⟨p, 4, none⟩ (.int .i64 s.ky)).drew.setCells p 6 [.int .i64 s.kf, .int .i64 s.kb, .int .i64 s.kbits]) N p { s with x := s.kx, y := s.ky, sf := s.kf, sb := s.kb, sx := s.kbits } rows := k2.look s.kf s.kb s.kbits
  have k4 : DkAt ((((W.setCell ⟨p, 3, none⟩ (.int .i64 s.kx)).setCell ⟨p, 4, none⟩ (.int .i64 s.ky)).drew.setCells p 6 [.int .i64 s.kf, .int .i64 s.kb, .int .i64 s.kbits]).setCell ⟨p, 5, none⟩ (.bool false)) N p { s with x := s.kx, y := s.ky, sf := s.kf, sb := s.kb, sx := s.kbits, late := false } rows := k3.set 5 _ (fun _ _ _ _ => rfl) rfl rfl
  have HB : Hid (Below N W ((((W.setCell ⟨p, 3, none⟩ (.int .i64 s.kx)).setCell ⟨p, 4, none⟩ (.int .i64 s.ky)).drew.setCells p 6 [.int .i64 s.kf, .int .i64 s.kb, .int .i64 s.kbits]).setCell ⟨p, 5, none⟩ (.bool false))) := (below_cells (((Below.refl _ _).setCell hlo _).setCell hlo _).drew hlo _ _).setCell hlo _
  have HK : Hid _ := k4
  obtain ⟨c0, c1, c3, c4, c5, c9, c10, c11, c19, f⟩ := hS.words
  have f3 := f 3
  have f4 := (DkAt.words k1).2.2.2.2.2.2.2.2.2 4
  have c4' := (DkAt.words k1).2.2.2.1
  have f5 := (DkAt.words k3).2.2.2.2.2.2.2.2.2 5
  have c5' := (DkAt.words k3).2.2.2.2.1
  dsimp only at c4' c5'
  obtain ⟨cv, tv, gv, rv, hblk⟩ := hD.block
  obtain ⟨cv2, tv2, gv2, rv2, hblk2⟩ := k2.block
  obtain ⟨l1, l2⟩ := sty_kept hblk
  have l3 := has_sh hblk2 3 6 (by omega)
  obtain ⟨cv3, tv3, gv3, rv3, hblk3⟩ := hS.block
  obtain ⟨-, ⟨-, -, c13, c14, -⟩, -⟩ := sh_cells hblk3
  clear hS hD hblk3 k1 k2 k3 k4 c0 c1 c4 c5 c9 c10 c11 c19 f hblk hblk2
  go_enter Tryz.func39, Tryz.ntmps39
  go_upto_region 122 with fail
  go_region
  all_goals (
    generalize ((((W.setCell ⟨p, 3, none⟩ (.int .i64 s.kx)).setCell ⟨p, 4, none⟩ (.int .i64 s.ky)).drew.setCells p 6 [.int .i64 s.kf, .int .i64 s.kb, .int .i64 s.kbits]).setCell ⟨p, 5, none⟩ (.bool false)) = Y at *
    clear c3 f3 f4 c4' f5 c5' l1 l2 l3 c13 c14
    obtain ⟨c0, c1, c3, c4, c5, c9, c10, c11, c19, f⟩ := DkAt.words (DkAt.drew HK.out)
    have f11 := f 11
    obtain ⟨cv, tv, gv, rv, hblk⟩ := DkAt.block (DkAt.drew HK.out)
    obtain ⟨-, ⟨-, -, -, -, -, -, -, c18, -⟩, -⟩ := sh_cells hblk
    dsimp only at c11 c18
    have HK2 : Hid (DkAt (Y.drew.setCell ⟨p, 11, none⟩ (.int .i64 (bits .and .i64 s.modes 57 + s.km))) N p (restR s) rows) := DkAt.set (DkAt.drew HK.out) 11 _ (fun _ _ _ _ => rfl) rfl rfl
    have HB2 : Hid (Below N W (Y.drew.setCell ⟨p, 11, none⟩ (.int .i64 (bits .and .i64 s.modes 57 + s.km)))) := HB.out.drew.setCell hlo _
    clear HK HB f c0 c1 c3 c4 c5 c9 c10 c19 hblk
    go_upto_region 123 with fail
    go_region
    all_goals go_end0
    all_goals exact ⟨rfl, HK2.out, HB2.out⟩)
end
end Put
end Go.Proofs.YtnkeahfcpbepjaaGreatDoor

/- What one number makes of a style, by cases; maps made by literals. -/
namespace Go.Proofs.YtnkeahfcpbepjaaGreatDoor
open Go.ChangeShapes Go.WideShapes Go.ChangeAt Go.RowKit Go.Maps
namespace Stl
theorem ofInt_wrap (v : BitVec 64) : BitVec.ofInt 64 (IntKind.i64.wrap (v.toNat : Int)) = v := by
  apply BitVec.eq_of_toNat_eq
  rw [BitVec.toNat_ofInt]
  have := v.isLt
  unfold IntKind.wrap
  simp [IntKind.bits, IntKind.signed]
  omega
theorem clear3 (x : Int) : bits .andNot .i64 (bits .andNot .i64 x 1) 2 = bits .andNot .i64 x 3 := by
  unfold bits
  dsimp only
  change IntKind.i64.wrap ↑(BitVec.ofInt 64 (IntKind.i64.wrap ↑(BitVec.ofInt 64 x &&& ~~~BitVec.ofInt 64 1).toNat) &&& ~~~BitVec.ofInt 64 2).toNat = IntKind.i64.wrap ↑(BitVec.ofInt 64 x &&& ~~~BitVec.ofInt 64 3).toNat
  rw [ofInt_wrap, BitVec.and_assoc]
  rfl
def setM : List (Int × Int) := [(1, 1), (2, 2), (3, 4), (4, 8), (5, 16), (7, 32), (9, 64)]
def offM : List (Int × Int) := [(22, 3), (23, 4), (24, 8), (25, 16), (27, 32), (29, 64)]
def lits (l : List (Int × Int)) : DataW Unit := l.foldl (fun D p => D.put (.int .i64 p.1) (.lit (.int .i64 p.2))) (.map [])
def look (l : List (Int × Int)) (n : Int) : Int := l.foldl (fun c p => if n = p.1 then p.2 else c) 0
theorem lits_at : ∀ (l : List (Int × Int)) (D : DataW Unit) (c n : Int), IsMap D → D.atKey (.int .i64 n) (.lit (.int .i64 0)) = .lit (.int .i64 c) →
    (l.foldl (fun D p => D.put (.int .i64 p.1) (.lit (.int .i64 p.2))) D).atKey (.int .i64 n) (.lit (.int .i64 0)) = .lit (.int .i64 (l.foldl (fun c p => if n = p.1 then p.2 else c) c))
  | [], D, c, n, _, h => h
  | p :: l, D, c, n, hD, h => by
    refine lits_at l _ _ n (hD.put _ _) ?_
    dsimp only
    by_cases hn : n = p.1
    · rw [if_pos hn, hn]
      exact atKey_put_same hD (by trivial) _ _
    · rw [if_neg hn, atKey_put_other (by simp [hn]), h]
theorem lits_look (l : List (Int × Int)) (n : Int) : (lits l).atKey (.int .i64 n) (.lit (.int .i64 0)) = .lit (.int .i64 (look l n)) :=
  lits_at l (.map []) 0 n isMap_empty rfl
def MapAt (w : World) (b : Nat) (l : List (Int × Int)) : Prop := ∃ n, w.ownsMap Tryz.prog 3 (plainElem (H := Unit) Tryz.prog 3) b n (lits l)
theorem und_int : Tryz.prog.underlying 3 = some (.int .i64) := by kernel_rfl
theorem und_map : Tryz.prog.underlying 74 = some (.map 3 3) := by kernel_rfl
theorem zero_int (w : World) : (zeroValue 3).run Tryz.prog w = .ok (.int .i64 0) w := by kernel_rfl
theorem MapAt.lookup {w : World} {b : Nat} {l : List (Int × Int)} (h : MapAt w b l) (n : Int) (h0 : -9223372036854775808 ≤ n) (h1 : n ≤ 9223372036854775807) :
    (Instr.lookup 74 (.map (some b)) (.int .i64 n) false).run Tryz.prog w = .ok (.int .i64 (look l n)) w := by
  obtain ⟨k, h⟩ := h
  obtain ⟨c, hrun, hat, _⟩ := h.lookup_int (t := 74) (int_keyed und_int) und_map und_int (zero_int w) (keyOf_int_mk und_int (WalkArith.wf_i64 ⟨h0, h1⟩))
  rw [lits_look] at hat
  have hc : look l n = c := by simpa using hat
  rw [hc]
  exact hrun
theorem MapAt.kept {w w' : World} {b : Nat} {l : List (Int × Int)} {row : Option Nat} (h : MapAt w b l) (hg : w.grownBy w' row) (hne : some b ≠ row) : MapAt w' b l := by
  obtain ⟨k, h⟩ := h
  exact ⟨k, h.kept hg hne⟩
theorem MapAt.block {w w' : World} {b : Nat} {l : List (Int × Int)} (h : MapAt w b l) (hb : w'.heap[b]? = w.heap[b]?) : MapAt w' b l := by
  obtain ⟨k, es, clock, hh, F⟩ := h
  exact ⟨k, es, clock, hb.trans hh, F⟩
theorem small_lt {n : Nat} (h : n < 100) : n < maxLen := by unfold maxLen; omega
theorem put_run {W : World} {b n : Nat} {l : List (Int × Int)} (h : W.ownsMap Tryz.prog 3 (plainElem (H := Unit) Tryz.prog 3) b n (lits l)) (hn : n < 100) (k v : Int)
    (hk : -9223372036854775808 ≤ k ∧ k ≤ 9223372036854775807) (hv : -9223372036854775808 ≤ v ∧ v ≤ 9223372036854775807) :
    ∃ W', Sem.run Tryz.prog (Instr.mapUpdate 74 (.map (some b)) (.int .i64 k) (.int .i64 v)) W = .ok () W' ∧ W'.ownsMap Tryz.prog 3 (plainElem (H := Unit) Tryz.prog 3) b (n + 1) (lits (l ++ [(k, v)])) ∧ W.grownBy W' (some b) := by
  obtain ⟨w', hrun, r1, r2⟩ := h.update (t := 74) (int_keyed und_int) und_map (small_lt hn) (keyOf_int_mk und_int (WalkArith.wf_i64 hk)) (plainElem_int und_int (WalkArith.wf_i64 hv))
  refine ⟨w', hrun, ?_, r2⟩
  unfold lits at r1 ⊢
  rw [List.foldl_append]
  exact r1
/-! What one number makes of a style, case by case. -/
theorem one_le (s : Int × Int × Int) (n : Int) (h : n ≤ 0) : one s n = (0, 0, 0) := by unfold one; rw [if_pos h]
theorem sc_none (n : Int) (h1 : ¬ (30 ≤ n ∧ n ≤ 37)) (h2 : n ≠ 39) (h3 : ¬ (90 ≤ n ∧ n ≤ 97)) : sc n = (0, false) := by unfold sc; rw [if_neg h1, if_neg h2, if_neg h3]
theorem bits_same (n x : Int) (h : ∀ k ∈ looks, n ≠ k.1 ∧ n ≠ k.2.1) : looks.foldl (step n) x = x := by
  have : ∀ (l : List (Int × Int × Int)), (∀ k ∈ l, n ≠ k.1 ∧ n ≠ k.2.1) → l.foldl (step n) x = x := by
    intro l
    induction l with
    | nil => intro _; rfl
    | cons k l ih =>
      intro hl
      have hk := hl k (by simp)
      rw [List.foldl_cons, show step n x k = x by unfold step; rw [if_neg hk.2, if_neg hk.1]]
      exact ih (fun k hk => hl k (by simp [hk]))
  exact this looks h
theorem one_other (f b x n : Int) (h0 : 0 < n) (hb : ∀ k ∈ looks, n ≠ k.1 ∧ n ≠ k.2.1) : one (f, b, x) n = (if (sc n).2 then (sc n).1 else f, if (sc (n - 10)).2 then (sc (n - 10)).1 else b, x) := by
  unfold one
  rw [if_neg (by omega)]
  dsimp only
  rw [bits_same n x hb]
theorem look_set_keys (n : Int) (h : 0 < look setM n) : n = 1 ∨ n = 2 ∨ n = 3 ∨ n = 4 ∨ n = 5 ∨ n = 7 ∨ n = 9 := by
  by_cases h1 : n = 1 ∨ n = 2 ∨ n = 3 ∨ n = 4 ∨ n = 5 ∨ n = 7 ∨ n = 9
  · exact h1
  · unfold look setM at h
    simp only [List.foldl] at h
    repeat' (rw [if_neg (by omega)] at h)
    omega
theorem look_off_keys (n : Int) (h : 0 < look offM n) : n = 22 ∨ n = 23 ∨ n = 24 ∨ n = 25 ∨ n = 27 ∨ n = 29 := by
  by_cases h1 : n = 22 ∨ n = 23 ∨ n = 24 ∨ n = 25 ∨ n = 27 ∨ n = 29
  · exact h1
  · unfold look offM at h
    simp only [List.foldl] at h
    repeat' (rw [if_neg (by omega)] at h)
    omega
theorem look_set_zero (n : Int) (h : n ≠ 1 ∧ n ≠ 2 ∧ n ≠ 3 ∧ n ≠ 4 ∧ n ≠ 5 ∧ n ≠ 7 ∧ n ≠ 9) : look setM n = 0 := by
  unfold look setM
  simp only [List.foldl]
  repeat' (rw [if_neg (by omega)])
theorem look_off_zero (n : Int) (h : n ≠ 22 ∧ n ≠ 23 ∧ n ≠ 24 ∧ n ≠ 25 ∧ n ≠ 27 ∧ n ≠ 29) : look offM n = 0 := by
  unfold look offM
  simp only [List.foldl]
  repeat' (rw [if_neg (by omega)])
theorem one_set (f b x n : Int) (h : 0 < look setM n) : one (f, b, x) n = (f, b, bits .or .i64 x (look setM n)) := by
  rcases look_set_keys n h with rfl | rfl | rfl | rfl | rfl | rfl | rfl <;> rfl
theorem one_off (f b x n : Int) (h : 0 < look offM n) : one (f, b, x) n = (f, b, bits .andNot .i64 x (look offM n)) := by
  rcases look_off_keys n h with rfl | rfl | rfl | rfl | rfl | rfl
  · exact congrArg (fun z => (f, b, z)) (clear3 x)
  all_goals rfl
theorem looks_far (n : Int) (h : 30 ≤ n ∨ n = 6 ∨ n = 8 ∨ (10 ≤ n ∧ n ≤ 21) ∨ n = 26 ∨ n = 28) : ∀ k ∈ looks, n ≠ k.1 ∧ n ≠ k.2.1 := by
  intro k hk
  simp only [looks, List.mem_cons, List.not_mem_nil, or_false] at hk
  rcases hk with rfl | rfl | rfl | rfl | rfl | rfl | rfl <;> dsimp only <;> omega
theorem sc_3x (n : Int) (h0 : 30 ≤ n) (h1 : n ≤ 37) : sc n = (n - 29, true) := by unfold sc; rw [if_pos ⟨h0, h1⟩]
theorem sc_9x (n : Int) (h0 : 90 ≤ n) (h1 : n ≤ 97) : sc n = (n - 81, true) := by unfold sc; rw [if_neg (by omega), if_neg (by omega), if_pos ⟨h0, h1⟩]
theorem one_3x (f b x n : Int) (h0 : 30 ≤ n) (h1 : n ≤ 37) : one (f, b, x) n = (n % 10 + 1, b, x) := by
  rw [one_other f b x n (by omega) (looks_far n (by omega)), sc_none (n - 10) (by omega) (by omega) (by omega), sc_3x n h0 h1, show n % 10 + 1 = n - 29 by omega]
  simp
theorem one_4x (f b x n : Int) (h0 : 40 ≤ n) (h1 : n ≤ 47) : one (f, b, x) n = (f, n % 10 + 1, x) := by
  rw [one_other f b x n (by omega) (looks_far n (by omega)), sc_none n (by omega) (by omega) (by omega), sc_3x (n - 10) (by omega) (by omega), show n % 10 + 1 = n - 10 - 29 by omega]
  simp
theorem one_9x (f b x n : Int) (h0 : 90 ≤ n) (h1 : n ≤ 97) : one (f, b, x) n = (n % 10 + 9, b, x) := by
  rw [one_other f b x n (by omega) (looks_far n (by omega)), sc_none (n - 10) (by omega) (by omega) (by omega), sc_9x n h0 h1, show n % 10 + 9 = n - 81 by omega]
  simp
theorem one_10x (f b x n : Int) (h0 : 100 ≤ n) (h1 : n ≤ 107) : one (f, b, x) n = (f, n % 10 + 9, x) := by
  rw [one_other f b x n (by omega) (looks_far n (by omega)), sc_none n (by omega) (by omega) (by omega), sc_9x (n - 10) (by omega) (by omega), show n % 10 + 9 = n - 10 - 81 by omega]
  simp
theorem one_39 (f b x : Int) : one (f, b, x) 39 = (0, b, x) := by
  rw [one_other f b x 39 (by omega) (looks_far 39 (by omega))]
  rfl
theorem one_49 (f b x : Int) : one (f, b, x) 49 = (f, 0, x) := by
  rw [one_other f b x 49 (by omega) (looks_far 49 (by omega))]
  rfl
theorem one_else (f b x n : Int) (h0 : 0 < n) (hs : look setM n = 0) (ho : look offM n = 0) (h1 : ¬ (30 ≤ n ∧ n ≤ 37)) (h2 : ¬ (40 ≤ n ∧ n ≤ 47)) (h3 : ¬ (90 ≤ n ∧ n ≤ 97)) (h4 : ¬ (100 ≤ n ∧ n ≤ 107)) (h5 : n ≠ 39) (h6 : n ≠ 49) : one (f, b, x) n = (f, b, x) := by
  have k1 : n ≠ 1 ∧ n ≠ 2 ∧ n ≠ 3 ∧ n ≠ 4 ∧ n ≠ 5 ∧ n ≠ 7 ∧ n ≠ 9 := by
    refine ⟨?_, ?_, ?_, ?_, ?_, ?_, ?_⟩ <;> (rintro rfl; revert hs; decide)
  have k2 : n ≠ 22 ∧ n ≠ 23 ∧ n ≠ 24 ∧ n ≠ 25 ∧ n ≠ 27 ∧ n ≠ 29 := by
    refine ⟨?_, ?_, ?_, ?_, ?_, ?_⟩ <;> (rintro rfl; revert ho; decide)
  rw [one_other f b x n h0 (looks_far n (by omega)), sc_none n (by omega) (by omega) (by omega), sc_none (n - 10) (by omega) (by omega) (by omega)]
  simp
theorem quo10 (n : Int) (h0 : 0 ≤ n) (h1 : n ≤ 9223372036854775807) : wrap64 (n.tdiv 10) = n / 10 := by
  rw [Int.tdiv_eq_ediv_of_nonneg h0, show wrap64 (n / 10) = n / 10 by unfold wrap64; omega]
theorem look_set_nonneg (n : Int) : 0 ≤ look setM n := by
  unfold look setM
  simp only [List.foldl]
  repeat' split
  all_goals omega
theorem look_off_nonneg (n : Int) : 0 ≤ look offM n := by
  unfold look offM
  simp only [List.foldl]
  repeat' split
  all_goals omega
end Stl
end Go.Proofs.YtnkeahfcpbepjaaGreatDoor
