/- trellislaw.does: what a call makes of a screen is what is to be done to it. -/
import Derived.Test.YtmhmmpicedlcpaaGreatDoorPartJ
import Derived.Test.YtmhmmpicedlcpaaGreatDoorPartI
import Derived.Test.YtmhmmpicedlcpaaGreatDoorPartL
import Derived.Test.YtmhmmpicedlcpaaGreatDoorPartN
import Derived.Deep.RegionHeld3
import Derived.BigRegion
import Derived.BigQuiet
namespace Go.Proofs.YtmhmmpicedlcpaaGreatDoor
set_option linter.unusedVariables false
open Go.ChangeShapes Go.WideShapes Go.ChangeAt Go.RowKit
namespace Put
open Grd (C SliceAt CellsAt gridErr z0 nilV rowsL RowsAt RowB flat)
/-- A screen is kept in a variable. -/
theorem kept_v {w W : World} {A : Array Value} (hB : Below w.heap.size w W) :
    ((W.alloc (.cells #[.int .i64 0, .int .i64 0, .slice none 0 0, .int .i64 0, .int .i64 0, .bool false, .int .i64 0, .int .i64 0, .int .i64 0, .int .i64 0, .int .i64 0, .int .i64 0, .slice none 0 0, .int .i64 0, .int .i64 0, .int .i64 0, .int .i64 0, .int .i64 0, .int .i64 0, .int .i32 0, .string ⟨#[]⟩, .slice none 0 0] 32)).setRow W.heap.size A).heap[W.heap.size]? = some (.cells A 32 (0, 0)) ∧ Below W.heap.size W ((W.alloc (.cells #[.int .i64 0, .int .i64 0, .slice none 0 0, .int .i64 0, .int .i64 0, .bool false, .int .i64 0, .int .i64 0, .int .i64 0, .int .i64 0, .int .i64 0, .int .i64 0, .slice none 0 0, .int .i64 0, .int .i64 0, .int .i64 0, .int .i64 0, .int .i64 0, .int .i64 0, .int .i32 0, .string ⟨#[]⟩, .slice none 0 0] 32)).setRow W.heap.size A) ∧ Below w.heap.size w ((W.alloc (.cells #[.int .i64 0, .int .i64 0, .slice none 0 0, .int .i64 0, .int .i64 0, .bool false, .int .i64 0, .int .i64 0, .int .i64 0, .int .i64 0, .int .i64 0, .int .i64 0, .slice none 0 0, .int .i64 0, .int .i64 0, .int .i64 0, .int .i64 0, .int .i64 0, .int .i64 0, .int .i32 0, .string ⟨#[]⟩, .slice none 0 0] 32)).setRow W.heap.size A) ∧ (W.alloc (.cells #[.int .i64 0, .int .i64 0, .slice none 0 0, .int .i64 0, .int .i64 0, .bool false, .int .i64 0, .int .i64 0, .int .i64 0, .int .i64 0, .int .i64 0, .int .i64 0, .slice none 0 0, .int .i64 0, .int .i64 0, .int .i64 0, .int .i64 0, .int .i64 0, .int .i64 0, .int .i32 0, .string ⟨#[]⟩, .slice none 0 0] 32)).heap[W.heap.size]? = some (.cells #[.int .i64 0, .int .i64 0, .slice none 0 0, .int .i64 0, .int .i64 0, .bool false, .int .i64 0, .int .i64 0, .int .i64 0, .int .i64 0, .int .i64 0, .int .i64 0, .slice none 0 0, .int .i64 0, .int .i64 0, .int .i64 0, .int .i64 0, .int .i64 0, .int .i64 0, .int .i32 0, .string ⟨#[]⟩, .slice none 0 0] 32 (0, 0)) := by
  have h1 : Below W.heap.size W ((W.alloc (.cells #[.int .i64 0, .int .i64 0, .slice none 0 0, .int .i64 0, .int .i64 0, .bool false, .int .i64 0, .int .i64 0, .int .i64 0, .int .i64 0, .int .i64 0, .int .i64 0, .slice none 0 0, .int .i64 0, .int .i64 0, .int .i64 0, .int .i64 0, .int .i64 0, .int .i64 0, .int .i32 0, .string ⟨#[]⟩, .slice none 0 0] 32)).setRow W.heap.size A) := below_setRow ((Below.refl _ _).alloc (Nat.le_refl _) _) (Nat.le_refl _) _
  exact ⟨setRow_heap _ _ _ _ _ _ (heap_alloc_new W _), h1, hB.trans (h1.mono hB.size), heap_alloc_new W _⟩
theorem ScrV.shapes {W : World} {s : Scr} {cv tv gv : Value} (h : ScrV W s cv tv gv) : ∃ a1 n1 c1 a2 n2 c2 a3 n3 c3, cv = .slice a1 n1 c1 ∧ tv = .slice a2 n2 c2 ∧ gv = .slice a3 n3 c3 := by
  obtain ⟨a1, c1, h1⟩ := h.c.shape
  obtain ⟨a2, c2, h2⟩ := h.t.slice
  obtain ⟨a3, c3, h3⟩ := h.g.slice
  exact ⟨a1, _, c1, a2, _, c2, a3, _, c3, h1, h2, h3⟩
/-- What is to be done to a desk. -/
def Acts (df : FuncId) (caps : Array Value) (w : World) (s s2 : Scr) (rows rows2 : List (List C)) : Prop :=
  ∀ N W p, Below w.heap.size w W → w.heap.size ≤ N → N ≤ W.heap.size → DkAt W N p s rows → Calls Tryz.prog df (#[.pointer (some ⟨p, 0, none⟩)] ++ caps) W fun e W' => e = .returned (.tuple #[]) ∧ DkAt W' N p s2 rows2 ∧ Below N W W'
section
attribute [local go_sem ↓] load_scr
attribute [local go_sem] isScrV
set_option maxHeartbeats 8000000 in
set_option maxRecDepth 100000 in
theorem does_bad (s : Scr) (cv tv gv : Value) (cf : FuncId) (ccaps : Array Value) (dv : Value) (hcf : Plain cf) (w : World) (hT : Txt.Tab w) (hV : ScrV w s cv tv gv) (hB : Bulk s) (hz : scrErr s ≠ 0)
    (hcall : ∀ w0 W cv tv gv, Below w.heap.size w w0 → Met w0 W s cv tv gv → Calls Tryz.prog cf (#[.agg (scrA s cv tv gv)] ++ ccaps) W (Made w0 W zScr (scrErr s))) :
    Calls Tryz.prog 39 #[.agg (scrA s cv tv gv), .func (.func cf) #[] ccaps, dv] w fun e w' => e = .returned (.bool true) ∧ Below w.heap.size w w' := by
  have x0 := heap_alloc_new w (.cells (scrA s cv tv gv) 32)
  have kb : Below w.heap.size w (w.alloc (.cells (scrA s cv tv gv) 32)) := (Below.refl _ _).alloc (Nat.le_refl _) _
  have HP : Hid (∀ W, Below w.heap.size w W → Calls Tryz.prog 69 #[] W fun e w' => e = .returned (.bool true) ∧ Below W.heap.size W w') := fun W h => printed_any W (Grd.Tab.next hT h)
  have HTB : Hid (∀ W, Below w.heap.size w W → Txt.Tab W) := fun W h => Grd.Tab.next hT h
  have HX0 : Hid _ := x0
  have HKB : Hid _ := kb
  have HV : Hid (ScrV w s cv tv gv) := hV
  have HBK : Hid (Bulk s) := hB
  have HC : Hid (∀ w0 W cv tv gv, Below w.heap.size w w0 → Met w0 W s cv tv gv → Calls Tryz.prog cf (#[.agg (scrA s cv tv gv)] ++ ccaps) W (Made w0 W zScr (scrErr s))) := hcall
  have HCK : Hid (∀ W, Below w.heap.size w W → Calls Tryz.prog 71 #[.agg (scrA s cv tv gv)] W fun e w' => e = .returned (.int .i64 (scrErr s)) ∧ Below W.heap.size W w') := fun W h => checkScreen_any s cv tv gv W (hV.next h) hB.f
  have hzb : (scrErr s != 0) = true := by simp [bne, hz]
  have hee : (scrErr s == scrErr s) = true := by simp
  have HOW := ownScreen_any s cv tv gv _ (hV.next kb) hB
  unfold Plain at hcf
  clear x0 kb hT hV hB hz hcall
  generalize scrErr s = er at *
  go_enter Tryz.func39, Tryz.ntmps39
  go_wp2_with (refine wpList_load_row rfl 32 (.tmp 3) rfl w.heap.size rfl _ _ _ _ HX0.out Tryz.underlying32 rfl (by kernel_rfl) ?_)
  refine HOW.mono ?_
  rintro e V1 ⟨cv1, tv1, gv1, rfl, hV1, b1⟩
  obtain ⟨a1, n1, c1, a2, n2, c2, a3, n3, c3, rfl, rfl, rfl⟩ := hV1.shapes
  have HB1 : Hid (Below w.heap.size w V1) := HKB.out.trans (b1.mono HKB.out.size)
  have HX1 : Hid (V1.heap[w.heap.size]? = _) := Grd.carry HX0.out b1
  have HV1 : Hid (ScrV V1 s _ _ _) := hV1
  obtain ⟨k1, k2, k3, k4⟩ := kept_v (A := scrA s (.slice a1 n1 c1) (.slice a2 n2 c2) (.slice a3 n3 c3)) HB1.out
  have HK1 : Hid _ := k1
  have HK2 : Hid _ := k2
  have HK3 : Hid _ := k3
  have HK4 : Hid _ := k4
  have HX2 : Hid _ := Grd.carry HX1.out k2
  have hlt1 := heap_lt k1
  clear HOW hV1 b1 k1 k2 k3 k4
  go_upto_region 2 with (refine wpList_store_row rfl 32 (.tmp 7) _ rfl V1.heap.size (scrA s (.slice a1 n1 c1) (.slice a2 n2 c2) (.slice a3 n3 c3)) rfl rfl _ _ HK4.out (by kernel_rfl) rfl (scr_one _ _ _ _ _ _ _ _ _ _) ?_)
  have HCF := HC.out V1 _ _ _ _ HB1.out ⟨HTB.out _ HK3.out, HV1.out, HK2.out, HBK.out.f⟩
  clear HK4
  generalize ((V1.alloc (.cells #[.int .i64 0, .int .i64 0, .slice none 0 0, .int .i64 0, .int .i64 0, .bool false, .int .i64 0, .int .i64 0, .int .i64 0, .int .i64 0, .int .i64 0, .int .i64 0, .slice none 0 0, .int .i64 0, .int .i64 0, .int .i64 0, .int .i64 0, .int .i64 0, .int .i64 0, .int .i32 0, .string ⟨#[]⟩, .slice none 0 0] 32)).setRow V1.heap.size (scrA s (.slice a1 n1 c1) (.slice a2 n2 c2) (.slice a3 n3 c3))) = X2 at *
  go_wp2_with (refine wpList_load_row rfl 32 (.tmp 7) rfl V1.heap.size rfl _ _ _ _ HK1.out Tryz.underlying32 rfl (by kernel_rfl) ?_)
  refine HCF.mono ?_
  rintro e V3 ⟨cv3, tv3, gv3, rfl, hO3, b3⟩
  obtain ⟨d1, m1, e1, d2, m2, e2, d3, m3, e3, rfl, rfl, rfl⟩ := hO3.shapes
  have HB3 : Hid (Below w.heap.size w V3) := HK3.out.trans (b3.mono HK3.out.size)
  have HX3 : Hid (V3.heap[w.heap.size]? = _) := Grd.carry HX2.out b3
  have HO3 : Hid (V3.heap[V1.heap.size]? = _) := Grd.carry HK1.out b3
  have HV3 : Hid (ScrV V3 s (.slice a1 n1 c1) (.slice a2 n2 c2) (.slice a3 n3 c3)) := (HV1.out.next HK2.out).next b3
  have HZ3 : Hid (ScrV V3 zScr _ _ _) := hO3.scr
  obtain ⟨k1, k2, k3, k4⟩ := kept_v (A := scrA zScr (.slice d1 m1 e1) (.slice d2 m2 e2) (.slice d3 m3 e3)) HB3.out
  have HL1 : Hid _ := k1
  have HL3 : Hid _ := k3
  have HL4 : Hid _ := k4
  have HX4 : Hid _ := Grd.carry HX3.out k2
  have HO4 : Hid _ := Grd.carry HO3.out k2
  have HV4 : Hid (ScrV _ s (.slice a1 n1 c1) (.slice a2 n2 c2) (.slice a3 n3 c3)) := HV3.out.next k2
  have HZ4 : Hid (ScrV _ zScr (.slice d1 m1 e1) (.slice d2 m2 e2) (.slice d3 m3 e3)) := HZ3.out.next k2
  clear HCF hO3 b3 k1 k2 k3 k4 HC HK1 HK2 HK3 HX2 HX1 HX0 HV1 HB1 HKB
  go_upto_region 3 with (refine wpList_store_row rfl 32 (.tmp 8) _ rfl V3.heap.size (scrA zScr (.slice d1 m1 e1) (.slice d2 m2 e2) (.slice d3 m3 e3)) rfl rfl _ _ HL4.out (by kernel_rfl) rfl (scr_one _ _ _ _ _ _ _ _ _ _) ?_)
  clear HL4 HX3 HO3 HV3 HZ3
  generalize ((V3.alloc (.cells #[.int .i64 0, .int .i64 0, .slice none 0 0, .int .i64 0, .int .i64 0, .bool false, .int .i64 0, .int .i64 0, .int .i64 0, .int .i64 0, .int .i64 0, .int .i64 0, .slice none 0 0, .int .i64 0, .int .i64 0, .int .i64 0, .int .i64 0, .int .i64 0, .int .i64 0, .int .i32 0, .string ⟨#[]⟩, .slice none 0 0] 32)).setRow V3.heap.size (scrA zScr (.slice d1 m1 e1) (.slice d2 m2 e2) (.slice d3 m3 e3))) = X4 at *
  go_wp2_with fail
  refine (HP.out _ HL3.out).mono ?_
  rintro e V5 ⟨rfl, b5⟩
  have HB5 : Hid (Below w.heap.size w V5) := HL3.out.trans (b5.mono HL3.out.size)
  have HX5 : Hid (V5.heap[w.heap.size]? = _) := Grd.carry HX4.out b5
  have HO5 : Hid (V5.heap[V1.heap.size]? = _) := Grd.carry HO4.out b5
  have HL5 : Hid (V5.heap[V3.heap.size]? = _) := Grd.carry HL1.out b5
  have HV5 : Hid (ScrV V5 s (.slice a1 n1 c1) (.slice a2 n2 c2) (.slice a3 n3 c3)) := HV4.out.next b5
  have HZ5 : Hid (ScrV V5 zScr (.slice d1 m1 e1) (.slice d2 m2 e2) (.slice d3 m3 e3)) := HZ4.out.next b5
  clear b5 HX4 HO4 HL1 HV4 HZ4 HL3
  go_wp2_with (first
    | (refine BigFrame.wpList_want rfl fun K hK => wp_load_row 32 (.tmp 7) rfl V1.heap.size rfl _ _ _ _ HO5.out Tryz.underlying32 rfl (by kernel_rfl) (hK _ _ ?_))
    | (refine BigFrame.wpList_want rfl fun K hK => wp_load_row 32 (.tmp 3) rfl w.heap.size rfl _ _ _ _ HX5.out Tryz.underlying32 rfl (by kernel_rfl) (hK _ _ ?_)))
  refine (sameScreen_any s _ _ _ cv tv gv V5 HV5.out (HV.out.next HB5.out) HBK.out.small).mono ?_
  rintro e V6 ⟨rfl, b6⟩
  have HB6 : Hid (Below w.heap.size w V6) := HB5.out.trans (b6.mono HB5.out.size)
  have HX6 : Hid (V6.heap[w.heap.size]? = _) := Grd.carry HX5.out b6
  have HL6 : Hid (V6.heap[V3.heap.size]? = _) := Grd.carry HL5.out b6
  have HZ6 : Hid (ScrV V6 zScr (.slice d1 m1 e1) (.slice d2 m2 e2) (.slice d3 m3 e3)) := HZ5.out.next b6
  clear b6 HX5 HO5 HL5 HV5 HZ5 HB5
  go_wp2_with (refine wpList_load_row rfl 32 (.tmp 3) rfl w.heap.size rfl _ _ _ _ HX6.out Tryz.underlying32 rfl (by kernel_rfl) ?_)
  refine (HCK.out _ HB6.out).mono ?_
  rintro e V7 ⟨rfl, b7⟩
  have HB7 : Hid (Below w.heap.size w V7) := HB6.out.trans (b7.mono HB6.out.size)
  have HL7 : Hid (V7.heap[V3.heap.size]? = _) := Grd.carry HL6.out b7
  have HZ7 : Hid (ScrV V7 zScr (.slice d1 m1 e1) (.slice d2 m2 e2) (.slice d3 m3 e3)) := HZ6.out.next b7
  clear b7 HX6 HL6 HZ6 HB6
  go_wp2_with (refine BigFrame.wpList_want rfl fun K hK => wp_load_row 32 (.tmp 8) rfl V3.heap.size rfl _ _ _ _ HL7.out Tryz.underlying32 rfl (by kernel_rfl) (hK _ _ ?_))
  refine (noScreen_any _ _ _ V7 HZ7.out).mono ?_
  rintro e V8 ⟨rfl, b8⟩
  have HB8 : Hid (Below w.heap.size w V8) := HB7.out.trans (b8.mono HB7.out.size)
  clear b8
  go_wp2_with fail
  go_ret
  exact ⟨rfl, HB8.out⟩
set_option maxHeartbeats 8000000 in
set_option maxRecDepth 100000 in
theorem does_good (s s' s2 : Scr) (n hh : Nat) (rows2 : List (List C)) (cv tv gv : Value) (cf df : FuncId) (ccaps dcaps : Array Value) (hcf : Plain cf) (hdf : Plain df) (w : World) (hT : Txt.Tab w) (hV : ScrV w s cv tv gv) (hB : Bulk s) (hR : RightS s n hh) (hz : scrErr s = 0) (hS' : Small s')
    (hdo : Acts df dcaps w s s2 (rowsL n s.cs hh) rows2) (hrl : rows2.length = hh) (hrn : ∀ i, i < rows2.length → (rows2.getD i []).length = n) (heq : { s2 with w := (n : Int), h := (hh : Int), cs := rows2.flatten } = s')
    (hcall : ∀ w0 W cv tv gv, Below w.heap.size w w0 → Met w0 W s cv tv gv → Calls Tryz.prog cf (#[.agg (scrA s cv tv gv)] ++ ccaps) W (Made w0 W s' 0)) :
    Calls Tryz.prog 39 #[.agg (scrA s cv tv gv), .func (.func cf) #[] ccaps, .func (.func df) #[] dcaps] w fun e w' => e = .returned (.bool true) ∧ Below w.heap.size w w' := by
  have x0 := heap_alloc_new w (.cells (scrA s cv tv gv) 32)
  have kb : Below w.heap.size w (w.alloc (.cells (scrA s cv tv gv) 32)) := (Below.refl _ _).alloc (Nat.le_refl _) _
  have HP : Hid (∀ W, Below w.heap.size w W → Calls Tryz.prog 69 #[] W fun e w' => e = .returned (.bool true) ∧ Below W.heap.size W w') := fun W h => printed_any W (Grd.Tab.next hT h)
  have HTB : Hid (∀ W, Below w.heap.size w W → Txt.Tab W) := fun W h => Grd.Tab.next hT h
  have HX0 : Hid _ := x0
  have HKB : Hid _ := kb
  have HV : Hid (ScrV w s cv tv gv) := hV
  have HBK : Hid (Bulk s) := hB
  have HC : Hid (∀ w0 W cv tv gv, Below w.heap.size w w0 → Met w0 W s cv tv gv → Calls Tryz.prog cf (#[.agg (scrA s cv tv gv)] ++ ccaps) W (Made w0 W s' 0)) := hcall
  have HCK : Hid (∀ W, Below w.heap.size w W → Calls Tryz.prog 71 #[.agg (scrA s cv tv gv)] W fun e w' => e = .returned (.int .i64 0) ∧ Below W.heap.size W w') := fun W h => by
    have := checkScreen_any s cv tv gv W (hV.next h) hB.f
    rw [hz] at this
    exact this
  have HRR : Hid (RightS s n hh) := hR
  have HSM : Hid (Small s') := hS'
  have HDO : Hid (Acts df dcaps w s s2 (rowsL n s.cs hh) rows2) := hdo
  have HRL : Hid (rows2.length = hh ∧ (∀ i, i < rows2.length → (rows2.getD i []).length = n) ∧ { s2 with w := (n : Int), h := (hh : Int), cs := rows2.flatten } = s') := ⟨hrl, hrn, heq⟩
  have HOW := ownScreen_any s cv tv gv _ (hV.next kb) hB
  unfold Plain at hcf hdf
  clear x0 kb hT hV hB hz hcall hR hS' hdo hrl hrn heq
  go_enter Tryz.func39, Tryz.ntmps39
  go_wp2_with (refine wpList_load_row rfl 32 (.tmp 3) rfl w.heap.size rfl _ _ _ _ HX0.out Tryz.underlying32 rfl (by kernel_rfl) ?_)
  refine HOW.mono ?_
  rintro e V1 ⟨cv1, tv1, gv1, rfl, hV1, b1⟩
  obtain ⟨a1, n1, c1, a2, n2, c2, a3, n3, c3, rfl, rfl, rfl⟩ := hV1.shapes
  have HB1 : Hid (Below w.heap.size w V1) := HKB.out.trans (b1.mono HKB.out.size)
  have HX1 : Hid (V1.heap[w.heap.size]? = _) := Grd.carry HX0.out b1
  have HV1 : Hid (ScrV V1 s _ _ _) := hV1
  obtain ⟨k1, k2, k3, k4⟩ := kept_v (A := scrA s (.slice a1 n1 c1) (.slice a2 n2 c2) (.slice a3 n3 c3)) HB1.out
  have HK1 : Hid _ := k1
  have HK2 : Hid _ := k2
  have HK3 : Hid _ := k3
  have HK4 : Hid _ := k4
  have HX2 : Hid _ := Grd.carry HX1.out k2
  have hlt1 := heap_lt k1
  clear HOW hV1 b1 k1 k2 k3 k4
  go_upto_region 2 with (refine wpList_store_row rfl 32 (.tmp 7) _ rfl V1.heap.size (scrA s (.slice a1 n1 c1) (.slice a2 n2 c2) (.slice a3 n3 c3)) rfl rfl _ _ HK4.out (by kernel_rfl) rfl (scr_one _ _ _ _ _ _ _ _ _ _) ?_)
  have HCF := HC.out V1 _ _ _ _ HB1.out ⟨HTB.out _ HK3.out, HV1.out, HK2.out, HBK.out.f⟩
  clear HK4
  generalize ((V1.alloc (.cells #[.int .i64 0, .int .i64 0, .slice none 0 0, .int .i64 0, .int .i64 0, .bool false, .int .i64 0, .int .i64 0, .int .i64 0, .int .i64 0, .int .i64 0, .int .i64 0, .slice none 0 0, .int .i64 0, .int .i64 0, .int .i64 0, .int .i64 0, .int .i64 0, .int .i64 0, .int .i32 0, .string ⟨#[]⟩, .slice none 0 0] 32)).setRow V1.heap.size (scrA s (.slice a1 n1 c1) (.slice a2 n2 c2) (.slice a3 n3 c3))) = X2 at *
  go_wp2_with (refine wpList_load_row rfl 32 (.tmp 7) rfl V1.heap.size rfl _ _ _ _ HK1.out Tryz.underlying32 rfl (by kernel_rfl) ?_)
  refine HCF.mono ?_
  rintro e V3 ⟨cv3, tv3, gv3, rfl, hO3, b3⟩
  obtain ⟨d1, m1, e1, d2, m2, e2, d3, m3, e3, rfl, rfl, rfl⟩ := hO3.shapes
  have HB3 : Hid (Below w.heap.size w V3) := HK3.out.trans (b3.mono HK3.out.size)
  have HX3 : Hid (V3.heap[w.heap.size]? = _) := Grd.carry HX2.out b3
  have HO3 : Hid (V3.heap[V1.heap.size]? = _) := Grd.carry HK1.out b3
  have HV3 : Hid (ScrV V3 s (.slice a1 n1 c1) (.slice a2 n2 c2) (.slice a3 n3 c3)) := (HV1.out.next HK2.out).next b3
  have HZ3 : Hid (ScrV V3 s' _ _ _) := hO3.scr
  obtain ⟨k1, k2, k3, k4⟩ := kept_v (A := scrA s' (.slice d1 m1 e1) (.slice d2 m2 e2) (.slice d3 m3 e3)) HB3.out
  have HL1 : Hid _ := k1
  have HL3 : Hid _ := k3
  have HL4 : Hid _ := k4
  have HX4 : Hid _ := Grd.carry HX3.out k2
  have HO4 : Hid _ := Grd.carry HO3.out k2
  have HV4 : Hid (ScrV _ s (.slice a1 n1 c1) (.slice a2 n2 c2) (.slice a3 n3 c3)) := HV3.out.next k2
  have HZ4 : Hid (ScrV _ s' (.slice d1 m1 e1) (.slice d2 m2 e2) (.slice d3 m3 e3)) := HZ3.out.next k2
  clear HCF hO3 b3 k1 k2 k3 k4 HC HK1 HK2 HK3 HX2 HX1 HX0 HV1 HB1 HKB
  go_upto_region 3 with (refine wpList_store_row rfl 32 (.tmp 8) _ rfl V3.heap.size (scrA s' (.slice d1 m1 e1) (.slice d2 m2 e2) (.slice d3 m3 e3)) rfl rfl _ _ HL4.out (by kernel_rfl) rfl (scr_one _ _ _ _ _ _ _ _ _ _) ?_)
  clear HL4 HX3 HO3 HV3 HZ3
  generalize ((V3.alloc (.cells #[.int .i64 0, .int .i64 0, .slice none 0 0, .int .i64 0, .int .i64 0, .bool false, .int .i64 0, .int .i64 0, .int .i64 0, .int .i64 0, .int .i64 0, .int .i64 0, .slice none 0 0, .int .i64 0, .int .i64 0, .int .i64 0, .int .i64 0, .int .i64 0, .int .i64 0, .int .i32 0, .string ⟨#[]⟩, .slice none 0 0] 32)).setRow V3.heap.size (scrA s' (.slice d1 m1 e1) (.slice d2 m2 e2) (.slice d3 m3 e3))) = X4 at *
  go_wp2_with fail
  refine (HP.out _ HL3.out).mono ?_
  rintro e V5 ⟨rfl, b5⟩
  have HB5 : Hid (Below w.heap.size w V5) := HL3.out.trans (b5.mono HL3.out.size)
  have HX5 : Hid (V5.heap[w.heap.size]? = _) := Grd.carry HX4.out b5
  have HO5 : Hid (V5.heap[V1.heap.size]? = _) := Grd.carry HO4.out b5
  have HL5 : Hid (V5.heap[V3.heap.size]? = _) := Grd.carry HL1.out b5
  have HV5 : Hid (ScrV V5 s (.slice a1 n1 c1) (.slice a2 n2 c2) (.slice a3 n3 c3)) := HV4.out.next b5
  have HZ5 : Hid (ScrV V5 s' (.slice d1 m1 e1) (.slice d2 m2 e2) (.slice d3 m3 e3)) := HZ4.out.next b5
  clear b5 HX4 HO4 HL1 HV4 HZ4 HL3
  go_wp2_with (first
    | (refine BigFrame.wpList_want rfl fun K hK => wp_load_row 32 (.tmp 7) rfl V1.heap.size rfl _ _ _ _ HO5.out Tryz.underlying32 rfl (by kernel_rfl) (hK _ _ ?_))
    | (refine BigFrame.wpList_want rfl fun K hK => wp_load_row 32 (.tmp 3) rfl w.heap.size rfl _ _ _ _ HX5.out Tryz.underlying32 rfl (by kernel_rfl) (hK _ _ ?_)))
  refine (sameScreen_any s _ _ _ cv tv gv V5 HV5.out (HV.out.next HB5.out) HBK.out.small).mono ?_
  rintro e V6 ⟨rfl, b6⟩
  have HB6 : Hid (Below w.heap.size w V6) := HB5.out.trans (b6.mono HB5.out.size)
  have HX6 : Hid (V6.heap[w.heap.size]? = _) := Grd.carry HX5.out b6
  have HL6 : Hid (V6.heap[V3.heap.size]? = _) := Grd.carry HL5.out b6
  have HZ6 : Hid (ScrV V6 s' (.slice d1 m1 e1) (.slice d2 m2 e2) (.slice d3 m3 e3)) := HZ5.out.next b6
  clear b6 HX5 HO5 HL5 HV5 HZ5 HB5
  go_wp2_with (refine wpList_load_row rfl 32 (.tmp 3) rfl w.heap.size rfl _ _ _ _ HX6.out Tryz.underlying32 rfl (by kernel_rfl) ?_)
  refine (HCK.out _ HB6.out).mono ?_
  rintro e V7 ⟨rfl, b7⟩
  have HB7 : Hid (Below w.heap.size w V7) := HB6.out.trans (b7.mono HB6.out.size)
  have HL7 : Hid (V7.heap[V3.heap.size]? = _) := Grd.carry HL6.out b7
  have HX7' : Hid (V7.heap[w.heap.size]? = _) := Grd.carry HX6.out b7
  have HZ7 : Hid (ScrV V7 s' (.slice d1 m1 e1) (.slice d2 m2 e2) (.slice d3 m3 e3)) := HZ6.out.next b7
  clear b7 HX6 HL6 HZ6 HB6
  go_upto_region 8 with fail
  have HX7 : Hid (V7.heap[w.heap.size]? = _) := HX7'.out
  go_wp2_with (refine wpList_load_row rfl 32 (.tmp 3) rfl w.heap.size rfl _ _ _ _ HX7.out Tryz.underlying32 rfl (by kernel_rfl) ?_)
  refine (take_any n hh s cv tv gv w V7 HV.out HB7.out HBK.out.f HRR.out.w HRR.out.h HRR.out.gz).mono ?_
  rintro e V8 ⟨p, rfl, hD8, b8⟩
  have HB8 : Hid (Below w.heap.size w V8) := HB7.out.trans (b8.mono HB7.out.size)
  have HDD := HDO.out V7.heap.size V8 p HB8.out HB7.out.size b8.size hD8
  have HB78 : Hid (Below V7.heap.size V7 V8) := b8
  clear b8 hD8
  go_wp2_with fail
  refine HDD.mono ?_
  rintro e V9 ⟨rfl, hD9, b9⟩
  have HB79 : Hid (Below V7.heap.size V7 V9) := HB78.out.trans b9
  have HB9 : Hid (Below w.heap.size w V9) := HB7.out.trans (HB79.out.mono HB7.out.size)
  have HGV : Hid (∀ W, Below V9.heap.size V9 W → Calls Tryz.prog 74 #[.pointer (some ⟨p, 0, none⟩)] W fun e W' => ∃ cv' tv' gv', e = .returned (.agg (scrA s' cv' tv' gv')) ∧ ScrV W' s' cv' tv' gv' ∧ Below W.heap.size W W') := fun W hW => by
    have h := give_any W _ p s2 rows2 (hD9.next hW) n hh HRR.out.n1 HRR.out.n2 HRR.out.h1 HRR.out.h2 HRL.out.1 HRL.out.2.1 _ rfl
    rw [HRL.out.2.2] at h
    exact h
  have HL9 : Hid (V9.heap[V3.heap.size]? = _) := Grd.carry HL7.out HB79.out
  have HZ9 : Hid (ScrV V9 s' (.slice d1 m1 e1) (.slice d2 m2 e2) (.slice d3 m3 e3)) := HZ7.out.next HB79.out
  clear b9 hD9 HDD HL7 HZ7 HX7 HX7' HB7 HB8 HB78 HB79 HCK HDO HP HTB
  go_upto_region 10 with fail
  have SK : Hid (∀ w', Below V9.heap.size V9 w' → Below V9.heap.size V9 w' ∧ ScrPtr w' (.pointer (some ⟨V3.heap.size, 0, none⟩)) ∧ blkAt w' (.pointer (some ⟨V3.heap.size, 0, none⟩)) = scrA s' (.slice d1 m1 e1) (.slice d2 m2 e2) (.slice d3 m3 e3)) := fun w' hb => by
    have hx := Grd.carry HL9.out hb
    exact ⟨hb, (scrPtr_of hx).1, (scrPtr_of hx).2⟩
  have b0 : Below V9.heap.size V9 V9.drew := (Below.refl _ _).drew
  go_region_held3 (fun w' => Below V9.heap.size V9 w' ∧ ScrPtr w' (.pointer (some ⟨V3.heap.size, 0, none⟩)) ∧ blkAt w' (.pointer (some ⟨V3.heap.size, 0, none⟩)) = scrA s' (.slice d1 m1 e1) (.slice d2 m2 e2) (.slice d3 m3 e3))
    (first | exact SK.out _ q2 | exact SK.out _ q1 | exact SK.out _ b0)
    (first
      | (go_at_call 70; refine (sameScreen_any s' _ _ _ _ _ _ _ (HZ9.out.next q1) HG1.out HSM.out).mono ?_; rintro e U2 ⟨rfl, g2⟩; have q2 := q1.trans (g2.mono q1.size); clear g2)
      | (go_at_call 74; refine (HGV.out _ b0).mono ?_; rintro e U1 ⟨y1, y2, y3, rfl, hG1, g1⟩; have q1 := b0.trans (g1.mono b0.size); have HG1 : Hid (ScrV U1 s' y1 y2 y3) := hG1; clear g1 hG1))
  go_wp2_with fail
  go_ret
  exact ⟨rfl, HB9.out.trans (q2.mono HB9.out.size)⟩
end
end Put
end Go.Proofs.YtmhmmpicedlcpaaGreatDoor

/- trellislaw.acts and one: a call, and what a name says. -/
namespace Go.Proofs.YtmhmmpicedlcpaaGreatDoor
set_option linter.unusedVariables false
open Go.ChangeShapes Go.WideShapes Go.ChangeAt Go.RowKit
namespace Put
open Grd (C SliceAt CellsAt gridErr z0 nilV rowsL RowsAt RowB flat)
theorem cell_box {W : World} {R : Nat} {v : Value} {t : TypeId} (h : W.heap[R]? = some (.cells #[v] t (0, 0))) : W.cell? ⟨R, 0, none⟩ = some v := by simp [World.cell?, h]
/-- What a name does to a desk. -/
def ActMakes (what : ByteArray) (n m : Int) (s s2 : Scr) (rows rows2 : List (List C)) : Prop :=
  ∀ N W p, N ≤ W.heap.size → DkAt W N p s rows → Calls Tryz.prog 41 #[.pointer (some ⟨p, 0, none⟩), .string what, .int .i64 n, .int .i64 m] W fun e W' => e = .returned (.tuple #[]) ∧ DkAt W' N p s2 rows2 ∧ Below N W W'
theorem plain_acts : Plain 40 := by
  intro args W
  kernel_rfl
set_option maxHeartbeats 1000000 in
theorem acts1_acts {what : ByteArray} {n m : Int} {s s2 : Scr} {rows rows2 : List (List C)} (h : ActMakes what n m s s2 rows rows2) (B1 B2 B3 : Nat) (w : World) (h1 : w.cell? ⟨B1, 0, none⟩ = some (.string what)) (h2 : w.cell? ⟨B2, 0, none⟩ = some (.int .i64 n)) (h3 : w.cell? ⟨B3, 0, none⟩ = some (.int .i64 m)) :
    Acts 40 #[.pointer (some ⟨B1, 0, none⟩), .pointer (some ⟨B2, 0, none⟩), .pointer (some ⟨B3, 0, none⟩)] w s s2 rows rows2 := by
  intro N W p hb hN hN2 hD
  have q1 := cell_stay hb h1
  have q2 := cell_stay hb h2
  have q3 := cell_stay hb h3
  have H := h N W p hN2 hD
  clear h hD h1 h2 h3 hb
  show Calls _ _ #[.pointer (some ⟨p, 0, none⟩), .pointer (some ⟨B1, 0, none⟩), .pointer (some ⟨B2, 0, none⟩), .pointer (some ⟨B3, 0, none⟩)] _ _
  go_enter Tryz.func40, Tryz.ntmps40
  go_wp2_with fail
  refine H.mono ?_
  rintro e W1 ⟨rfl, hD1, b1⟩
  go_wp2_with fail
  go_end0
  exact ⟨rfl, hD1, b1⟩
set_option maxHeartbeats 2000000 in
set_option maxRecDepth 100000 in
theorem acts_calls (s : Scr) (cv tv gv fv : Value) (what : ByteArray) (n m : Int) (w : World) (hV : ScrV w s cv tv gv)
    (hD : ∀ W B1 B2 B3, Below w.heap.size w W → W.cell? ⟨B1, 0, none⟩ = some (.string what) → W.cell? ⟨B2, 0, none⟩ = some (.int .i64 n) → W.cell? ⟨B3, 0, none⟩ = some (.int .i64 m) → Calls Tryz.prog 39 #[.agg (scrA s cv tv gv), fv, .func (.func 40) #[] #[.pointer (some ⟨B1, 0, none⟩), .pointer (some ⟨B2, 0, none⟩), .pointer (some ⟨B3, 0, none⟩)]] W fun e w' => e = .returned (.bool true) ∧ Below W.heap.size W w') :
    Calls Tryz.prog 14 #[.agg (scrA s cv tv gv), fv, .string what, .int .i64 n, .int .i64 m] w fun e w' => e = .returned (.bool true) ∧ Below w.heap.size w w' := by
  obtain ⟨ca, cc, rfl⟩ := hV.c.shape
  obtain ⟨ta, tc, rfl⟩ := hV.t.slice
  obtain ⟨ga, gc, rfl⟩ := hV.g.slice
  have hkb : Below w.heap.size w ((((w.alloc (.cells (scrA s (.slice ca s.cs.length cc) (.slice ta s.tabs.length tc) (.slice ga s.gone.length gc)) 32)).alloc (.cells #[.string what] 9)).alloc (.cells #[.int .i64 n] 3)).alloc (.cells #[.int .i64 m] 3)) := (((((Below.refl _ _).alloc (by simp) _).alloc (by simp) _).alloc (by simp; omega) _).alloc (by simp; omega) _)
  have hx0 : (w.alloc (.cells (scrA s (.slice ca s.cs.length cc) (.slice ta s.tabs.length tc) (.slice ga s.gone.length gc)) 32)).heap[w.heap.size]? = some (.cells (scrA s (.slice ca s.cs.length cc) (.slice ta s.tabs.length tc) (.slice ga s.gone.length gc)) 32 (0, 0)) := by
    have h := heap_alloc_new w (.cells (scrA s (.slice ca s.cs.length cc) (.slice ta s.tabs.length tc) (.slice ga s.gone.length gc)) 32)
    have e : w.heap.size = w.heap.size := by simp
    rw [e] at h
    exact h
  have hx0 := (Below.heap_alloc (w.alloc (.cells (scrA s (.slice ca s.cs.length cc) (.slice ta s.tabs.length tc) (.slice ga s.gone.length gc)) 32)) (.cells #[.string what] 9) _ (heap_lt hx0)).trans hx0
  have hx0 := (Below.heap_alloc ((w.alloc (.cells (scrA s (.slice ca s.cs.length cc) (.slice ta s.tabs.length tc) (.slice ga s.gone.length gc)) 32)).alloc (.cells #[.string what] 9)) (.cells #[.int .i64 n] 3) _ (heap_lt hx0)).trans hx0
  have hx0 := (Below.heap_alloc (((w.alloc (.cells (scrA s (.slice ca s.cs.length cc) (.slice ta s.tabs.length tc) (.slice ga s.gone.length gc)) 32)).alloc (.cells #[.string what] 9)).alloc (.cells #[.int .i64 n] 3)) (.cells #[.int .i64 m] 3) _ (heap_lt hx0)).trans hx0
  have hx1 : ((w.alloc (.cells (scrA s (.slice ca s.cs.length cc) (.slice ta s.tabs.length tc) (.slice ga s.gone.length gc)) 32)).alloc (.cells #[.string what] 9)).heap[w.heap.size + 1]? = some (.cells #[.string what] 9 (0, 0)) := by
    have h := heap_alloc_new (w.alloc (.cells (scrA s (.slice ca s.cs.length cc) (.slice ta s.tabs.length tc) (.slice ga s.gone.length gc)) 32)) (.cells #[.string what] 9)
    have e : (w.alloc (.cells (scrA s (.slice ca s.cs.length cc) (.slice ta s.tabs.length tc) (.slice ga s.gone.length gc)) 32)).heap.size = w.heap.size + 1 := by simp
    rw [e] at h
    exact h
  have hx1 := (Below.heap_alloc ((w.alloc (.cells (scrA s (.slice ca s.cs.length cc) (.slice ta s.tabs.length tc) (.slice ga s.gone.length gc)) 32)).alloc (.cells #[.string what] 9)) (.cells #[.int .i64 n] 3) _ (heap_lt hx1)).trans hx1
  have hx1 := (Below.heap_alloc (((w.alloc (.cells (scrA s (.slice ca s.cs.length cc) (.slice ta s.tabs.length tc) (.slice ga s.gone.length gc)) 32)).alloc (.cells #[.string what] 9)).alloc (.cells #[.int .i64 n] 3)) (.cells #[.int .i64 m] 3) _ (heap_lt hx1)).trans hx1
  have hx2 : (((w.alloc (.cells (scrA s (.slice ca s.cs.length cc) (.slice ta s.tabs.length tc) (.slice ga s.gone.length gc)) 32)).alloc (.cells #[.string what] 9)).alloc (.cells #[.int .i64 n] 3)).heap[w.heap.size + 2]? = some (.cells #[.int .i64 n] 3 (0, 0)) := by
    have h := heap_alloc_new ((w.alloc (.cells (scrA s (.slice ca s.cs.length cc) (.slice ta s.tabs.length tc) (.slice ga s.gone.length gc)) 32)).alloc (.cells #[.string what] 9)) (.cells #[.int .i64 n] 3)
    have e : ((w.alloc (.cells (scrA s (.slice ca s.cs.length cc) (.slice ta s.tabs.length tc) (.slice ga s.gone.length gc)) 32)).alloc (.cells #[.string what] 9)).heap.size = w.heap.size + 2 := by simp
    rw [e] at h
    exact h
  have hx2 := (Below.heap_alloc (((w.alloc (.cells (scrA s (.slice ca s.cs.length cc) (.slice ta s.tabs.length tc) (.slice ga s.gone.length gc)) 32)).alloc (.cells #[.string what] 9)).alloc (.cells #[.int .i64 n] 3)) (.cells #[.int .i64 m] 3) _ (heap_lt hx2)).trans hx2
  have hx3 : ((((w.alloc (.cells (scrA s (.slice ca s.cs.length cc) (.slice ta s.tabs.length tc) (.slice ga s.gone.length gc)) 32)).alloc (.cells #[.string what] 9)).alloc (.cells #[.int .i64 n] 3)).alloc (.cells #[.int .i64 m] 3)).heap[w.heap.size + 3]? = some (.cells #[.int .i64 m] 3 (0, 0)) := by
    have h := heap_alloc_new (((w.alloc (.cells (scrA s (.slice ca s.cs.length cc) (.slice ta s.tabs.length tc) (.slice ga s.gone.length gc)) 32)).alloc (.cells #[.string what] 9)).alloc (.cells #[.int .i64 n] 3)) (.cells #[.int .i64 m] 3)
    have e : (((w.alloc (.cells (scrA s (.slice ca s.cs.length cc) (.slice ta s.tabs.length tc) (.slice ga s.gone.length gc)) 32)).alloc (.cells #[.string what] 9)).alloc (.cells #[.int .i64 n] 3)).heap.size = w.heap.size + 3 := by simp
    rw [e] at h
    exact h
  have HX0 : Hid _ := hx0
  have HKB : Hid _ := hkb
  have HC := hD _ (w.heap.size + 1) (w.heap.size + 2) (w.heap.size + 3) hkb (cell_box hx1) (cell_box hx2) (cell_box hx3)
  clear hkb hV hD hx0 hx1 hx2 hx3
  go_enter Tryz.func14, Tryz.ntmps14
  go_upto_region 1 with fail
  generalize ((((w.alloc (.cells (scrA s (.slice ca s.cs.length cc) (.slice ta s.tabs.length tc) (.slice ga s.gone.length gc)) 32)).alloc (.cells #[.string what] 9)).alloc (.cells #[.int .i64 n] 3)).alloc (.cells #[.int .i64 m] 3)) = X at *
  go_wp2_with (refine wpList_load_row rfl 32 (.tmp 5) rfl w.heap.size rfl _ _ _ _ HX0.out Tryz.underlying32 rfl (by kernel_rfl) ?_)
  refine HC.mono ?_
  rintro e V ⟨rfl, b⟩
  have HB : Hid (Below w.heap.size w V) := HKB.out.trans (b.mono HKB.out.size)
  clear HC b
  go_wp2_with fail
  go_ret
  exact ⟨rfl, HB.out⟩
set_option maxHeartbeats 2000000 in
set_option maxRecDepth 100000 in
theorem one1_calls (s s' : Scr) (cv tv gv : Value) (cf : FuncId) (hcf : Plain cf) (n : Int) (B1 B2 : Nat) (er : Int) (w0 w : World) (hV : ScrV w0 s cv tv gv) (hM : w0.heap.size ≤ w.heap.size) (h1 : w.cell? ⟨B1, 0, none⟩ = some (.func (.func cf) #[] #[])) (h2 : w.cell? ⟨B2, 0, none⟩ = some (.int .i64 n))
    (hC : ∀ W, Below w.heap.size w W → Calls Tryz.prog cf #[.agg (scrA s cv tv gv), .int .i64 n] W (Made w0 W s' er)) :
    Calls Tryz.prog 32 #[.agg (scrA s cv tv gv), .pointer (some ⟨B1, 0, none⟩), .pointer (some ⟨B2, 0, none⟩)] w (Made w0 w s' er) := by
  obtain ⟨ca, cc, rfl⟩ := hV.c.shape
  obtain ⟨ta, tc, rfl⟩ := hV.t.slice
  obtain ⟨ga, gc, rfl⟩ := hV.g.slice
  have hkb : Below w.heap.size w ((w.alloc (.cells (scrA s (.slice ca s.cs.length cc) (.slice ta s.tabs.length tc) (.slice ga s.gone.length gc)) 32)).alloc (.cells #[.int .i64 0, .int .i64 0, .slice none 0 0, .int .i64 0, .int .i64 0, .bool false, .int .i64 0, .int .i64 0, .int .i64 0, .int .i64 0, .int .i64 0, .int .i64 0, .slice none 0 0, .int .i64 0, .int .i64 0, .int .i64 0, .int .i64 0, .int .i64 0, .int .i64 0, .int .i32 0, .string ⟨#[]⟩, .slice none 0 0] 32)) := (((Below.refl _ _).alloc (by simp) _).alloc (by simp) _)
  have hx0 : (w.alloc (.cells (scrA s (.slice ca s.cs.length cc) (.slice ta s.tabs.length tc) (.slice ga s.gone.length gc)) 32)).heap[w.heap.size]? = some (.cells (scrA s (.slice ca s.cs.length cc) (.slice ta s.tabs.length tc) (.slice ga s.gone.length gc)) 32 (0, 0)) := by
    have h := heap_alloc_new w (.cells (scrA s (.slice ca s.cs.length cc) (.slice ta s.tabs.length tc) (.slice ga s.gone.length gc)) 32)
    have e : w.heap.size = w.heap.size := by simp
    rw [e] at h
    exact h
  have hx0 := (Below.heap_alloc (w.alloc (.cells (scrA s (.slice ca s.cs.length cc) (.slice ta s.tabs.length tc) (.slice ga s.gone.length gc)) 32)) (.cells #[.int .i64 0, .int .i64 0, .slice none 0 0, .int .i64 0, .int .i64 0, .bool false, .int .i64 0, .int .i64 0, .int .i64 0, .int .i64 0, .int .i64 0, .int .i64 0, .slice none 0 0, .int .i64 0, .int .i64 0, .int .i64 0, .int .i64 0, .int .i64 0, .int .i64 0, .int .i32 0, .string ⟨#[]⟩, .slice none 0 0] 32) _ (heap_lt hx0)).trans hx0
  have hx1 : ((w.alloc (.cells (scrA s (.slice ca s.cs.length cc) (.slice ta s.tabs.length tc) (.slice ga s.gone.length gc)) 32)).alloc (.cells #[.int .i64 0, .int .i64 0, .slice none 0 0, .int .i64 0, .int .i64 0, .bool false, .int .i64 0, .int .i64 0, .int .i64 0, .int .i64 0, .int .i64 0, .int .i64 0, .slice none 0 0, .int .i64 0, .int .i64 0, .int .i64 0, .int .i64 0, .int .i64 0, .int .i64 0, .int .i32 0, .string ⟨#[]⟩, .slice none 0 0] 32)).heap[w.heap.size + 1]? = some (.cells #[.int .i64 0, .int .i64 0, .slice none 0 0, .int .i64 0, .int .i64 0, .bool false, .int .i64 0, .int .i64 0, .int .i64 0, .int .i64 0, .int .i64 0, .int .i64 0, .slice none 0 0, .int .i64 0, .int .i64 0, .int .i64 0, .int .i64 0, .int .i64 0, .int .i64 0, .int .i32 0, .string ⟨#[]⟩, .slice none 0 0] 32 (0, 0)) := by
    have h := heap_alloc_new (w.alloc (.cells (scrA s (.slice ca s.cs.length cc) (.slice ta s.tabs.length tc) (.slice ga s.gone.length gc)) 32)) (.cells #[.int .i64 0, .int .i64 0, .slice none 0 0, .int .i64 0, .int .i64 0, .bool false, .int .i64 0, .int .i64 0, .int .i64 0, .int .i64 0, .int .i64 0, .int .i64 0, .slice none 0 0, .int .i64 0, .int .i64 0, .int .i64 0, .int .i64 0, .int .i64 0, .int .i64 0, .int .i32 0, .string ⟨#[]⟩, .slice none 0 0] 32)
    have e : (w.alloc (.cells (scrA s (.slice ca s.cs.length cc) (.slice ta s.tabs.length tc) (.slice ga s.gone.length gc)) 32)).heap.size = w.heap.size + 1 := by simp
    rw [e] at h
    exact h
  have HX0 : Hid _ := hx0
  have HXR : Hid _ := hx1
  have HKB : Hid _ := hkb
  have HC := hC _ hkb
  have q1 := cell_stay hkb h1
  have q2 := cell_stay hkb h2
  have hsz : w.heap.size ≤ ((w.alloc (.cells (scrA s (.slice ca s.cs.length cc) (.slice ta s.tabs.length tc) (.slice ga s.gone.length gc)) 32)).alloc (.cells #[.int .i64 0, .int .i64 0, .slice none 0 0, .int .i64 0, .int .i64 0, .bool false, .int .i64 0, .int .i64 0, .int .i64 0, .int .i64 0, .int .i64 0, .int .i64 0, .slice none 0 0, .int .i64 0, .int .i64 0, .int .i64 0, .int .i64 0, .int .i64 0, .int .i64 0, .int .i32 0, .string ⟨#[]⟩, .slice none 0 0] 32)).heap.size := hkb.size
  unfold Plain at hcf
  clear hkb hV hC hx0 hx1 h1 h2
  go_enter Tryz.func32, Tryz.ntmps32
  go_upto_region 1 with fail
  generalize ((w.alloc (.cells (scrA s (.slice ca s.cs.length cc) (.slice ta s.tabs.length tc) (.slice ga s.gone.length gc)) 32)).alloc (.cells #[.int .i64 0, .int .i64 0, .slice none 0 0, .int .i64 0, .int .i64 0, .bool false, .int .i64 0, .int .i64 0, .int .i64 0, .int .i64 0, .int .i64 0, .int .i64 0, .slice none 0 0, .int .i64 0, .int .i64 0, .int .i64 0, .int .i64 0, .int .i64 0, .int .i64 0, .int .i32 0, .string ⟨#[]⟩, .slice none 0 0] 32)) = X at *
  go_wp2_with (refine wpList_load_row rfl 32 (.tmp 3) rfl w.heap.size rfl _ _ _ _ HX0.out Tryz.underlying32 rfl (by kernel_rfl) ?_)
  refine HC.mono ?_
  rintro e V ⟨cv', tv', gv', rfl, hO, c2⟩
  obtain ⟨a1, n1, c1, a2, n2, c2', a3, n3, c3, rfl, rfl, rfl⟩ := hO.shapes
  have HO : Hid (ScrO V 0 _ s' _ _ _) := hO
  have HR : Hid (V.heap[w.heap.size + 1]? = _) := Grd.carry HXR.out c2
  have HB : Hid (Below w.heap.size w V) := HKB.out.trans (c2.mono HKB.out.size)
  clear hO c2 HC q1 q2
  go_wp2_with (refine wpList_store_row rfl 32 (.tmp 4) (.tmp 10) rfl (w.heap.size + 1) (scrA s' (.slice a1 n1 c1) (.slice a2 n2 c2') (.slice a3 n3 c3)) rfl rfl _ _ HR.out (by kernel_rfl) rfl (scr_one _ _ _ _ _ _ _ _ _ _) ?_)
  (try simp only [Exit.inBlock, Exit.then])
  refine bodyPost_ret (v := .tuple #[.agg (scrA s' (.slice a1 n1 c1) (.slice a2 n2 c2') (.slice a3 n3 c3)), .int .i64 er]) ?_ rfl ⟨_, _, _, rfl, ?_, below_setRow HB.out (by omega) _⟩
  · exact Grd.results_row_tmp rfl _ _ (w.heap.size + 1) _ _ _ _ rfl (setRow_heap _ _ _ _ _ _ HR.out) Tryz.underlying32 rfl (by kernel_rfl) _ rfl
  · exact (ScrO.off HO.out HR.out screen_is (by omega) fun k hk => setRow_other _ _ _ _ hk).mono hsz
set_option maxHeartbeats 2000000 in
set_option maxRecDepth 100000 in
theorem one_calls (s : Scr) (cv tv gv : Value) (cf : FuncId) (what : ByteArray) (n : Int) (w : World) (hV : ScrV w s cv tv gv)
    (hD : ∀ W B1 B2, Below w.heap.size w W → W.cell? ⟨B1, 0, none⟩ = some (.func (.func cf) #[] #[]) → W.cell? ⟨B2, 0, none⟩ = some (.int .i64 n) → Calls Tryz.prog 14 #[.agg (scrA s cv tv gv), .func (.func 32) #[] #[.pointer (some ⟨B1, 0, none⟩), .pointer (some ⟨B2, 0, none⟩)], .string what, .int .i64 n, .int .i64 0] W fun e w' => e = .returned (.bool true) ∧ Below W.heap.size W w') :
    Calls Tryz.prog 9 #[.agg (scrA s cv tv gv), .func (.func cf) #[] #[], .string what, .int .i64 n] w fun e w' => e = .returned (.bool true) ∧ Below w.heap.size w w' := by
  obtain ⟨ca, cc, rfl⟩ := hV.c.shape
  obtain ⟨ta, tc, rfl⟩ := hV.t.slice
  obtain ⟨ga, gc, rfl⟩ := hV.g.slice
  have hkb : Below w.heap.size w (((w.alloc (.cells (scrA s (.slice ca s.cs.length cc) (.slice ta s.tabs.length tc) (.slice ga s.gone.length gc)) 32)).alloc (.cells #[.func (.func cf) #[] #[]] 34)).alloc (.cells #[.int .i64 n] 3)) := ((((Below.refl _ _).alloc (by simp) _).alloc (by simp) _).alloc (by simp; omega) _)
  have hx0 : (w.alloc (.cells (scrA s (.slice ca s.cs.length cc) (.slice ta s.tabs.length tc) (.slice ga s.gone.length gc)) 32)).heap[w.heap.size]? = some (.cells (scrA s (.slice ca s.cs.length cc) (.slice ta s.tabs.length tc) (.slice ga s.gone.length gc)) 32 (0, 0)) := by
    have h := heap_alloc_new w (.cells (scrA s (.slice ca s.cs.length cc) (.slice ta s.tabs.length tc) (.slice ga s.gone.length gc)) 32)
    have e : w.heap.size = w.heap.size := by simp
    rw [e] at h
    exact h
  have hx0 := (Below.heap_alloc (w.alloc (.cells (scrA s (.slice ca s.cs.length cc) (.slice ta s.tabs.length tc) (.slice ga s.gone.length gc)) 32)) (.cells #[.func (.func cf) #[] #[]] 34) _ (heap_lt hx0)).trans hx0
  have hx0 := (Below.heap_alloc ((w.alloc (.cells (scrA s (.slice ca s.cs.length cc) (.slice ta s.tabs.length tc) (.slice ga s.gone.length gc)) 32)).alloc (.cells #[.func (.func cf) #[] #[]] 34)) (.cells #[.int .i64 n] 3) _ (heap_lt hx0)).trans hx0
  have hx1 : ((w.alloc (.cells (scrA s (.slice ca s.cs.length cc) (.slice ta s.tabs.length tc) (.slice ga s.gone.length gc)) 32)).alloc (.cells #[.func (.func cf) #[] #[]] 34)).heap[w.heap.size + 1]? = some (.cells #[.func (.func cf) #[] #[]] 34 (0, 0)) := by
    have h := heap_alloc_new (w.alloc (.cells (scrA s (.slice ca s.cs.length cc) (.slice ta s.tabs.length tc) (.slice ga s.gone.length gc)) 32)) (.cells #[.func (.func cf) #[] #[]] 34)
    have e : (w.alloc (.cells (scrA s (.slice ca s.cs.length cc) (.slice ta s.tabs.length tc) (.slice ga s.gone.length gc)) 32)).heap.size = w.heap.size + 1 := by simp
    rw [e] at h
    exact h
  have hx1 := (Below.heap_alloc ((w.alloc (.cells (scrA s (.slice ca s.cs.length cc) (.slice ta s.tabs.length tc) (.slice ga s.gone.length gc)) 32)).alloc (.cells #[.func (.func cf) #[] #[]] 34)) (.cells #[.int .i64 n] 3) _ (heap_lt hx1)).trans hx1
  have hx2 : (((w.alloc (.cells (scrA s (.slice ca s.cs.length cc) (.slice ta s.tabs.length tc) (.slice ga s.gone.length gc)) 32)).alloc (.cells #[.func (.func cf) #[] #[]] 34)).alloc (.cells #[.int .i64 n] 3)).heap[w.heap.size + 2]? = some (.cells #[.int .i64 n] 3 (0, 0)) := by
    have h := heap_alloc_new ((w.alloc (.cells (scrA s (.slice ca s.cs.length cc) (.slice ta s.tabs.length tc) (.slice ga s.gone.length gc)) 32)).alloc (.cells #[.func (.func cf) #[] #[]] 34)) (.cells #[.int .i64 n] 3)
    have e : ((w.alloc (.cells (scrA s (.slice ca s.cs.length cc) (.slice ta s.tabs.length tc) (.slice ga s.gone.length gc)) 32)).alloc (.cells #[.func (.func cf) #[] #[]] 34)).heap.size = w.heap.size + 2 := by simp
    rw [e] at h
    exact h
  have HX0 : Hid _ := hx0
  have HKB : Hid _ := hkb
  have HC := hD _ (w.heap.size + 1) (w.heap.size + 2) hkb (cell_box hx1) (cell_box hx2)
  have q2 := cell_box hx2
  clear hkb hV hD hx0 hx1 hx2
  go_enter Tryz.func9, Tryz.ntmps9
  go_upto_region 1 with fail
  generalize (((w.alloc (.cells (scrA s (.slice ca s.cs.length cc) (.slice ta s.tabs.length tc) (.slice ga s.gone.length gc)) 32)).alloc (.cells #[.func (.func cf) #[] #[]] 34)).alloc (.cells #[.int .i64 n] 3)) = X at *
  go_wp2_with (refine wpList_load_row rfl 32 (.tmp 4) rfl w.heap.size rfl _ _ _ _ HX0.out Tryz.underlying32 rfl (by kernel_rfl) ?_)
  refine HC.mono ?_
  rintro e V ⟨rfl, b⟩
  have HB : Hid (Below w.heap.size w V) := HKB.out.trans (b.mono HKB.out.size)
  clear HC b q2
  go_wp2_with fail
  go_ret
  exact ⟨rfl, HB.out⟩
theorem plain_one : Plain 32 := by
  intro args W
  kernel_rfl
/-- What a call makes, and what is to be done, of a right screen. -/
def Agrees (what : ByteArray) (n m : Int) (s s' : Scr) (nn hh : Nat) : Prop := Small s' ∧ ∃ s2 rows2, ActMakes what n m s s2 (rowsL nn s.cs hh) rows2 ∧ rows2.length = hh ∧ (∀ i, i < rows2.length → (rows2.getD i []).length = nn) ∧ { s2 with w := (nn : Int), h := (hh : Int), cs := rows2.flatten } = s'
/-- A call, by a name. -/
theorem acts_any (s : Scr) (cv tv gv : Value) (cf : FuncId) (hcf : Plain cf) (ccaps : Array Value) (what : ByteArray) (n m : Int) (w : World) (hT : Txt.Tab w) (hV : ScrV w s cv tv gv) (hB : Bulk s) (s' : Scr)
    (hbad : scrErr s ≠ 0 → ∀ w0 W cv tv gv, Below w.heap.size w w0 → Met w0 W s cv tv gv → Calls Tryz.prog cf (#[.agg (scrA s cv tv gv)] ++ ccaps) W (Made w0 W zScr (scrErr s)))
    (hgood : ∀ nn hh, RightS s nn hh → (∀ w0 W cv tv gv, Below w.heap.size w w0 → Met w0 W s cv tv gv → Calls Tryz.prog cf (#[.agg (scrA s cv tv gv)] ++ ccaps) W (Made w0 W s' 0)) ∧ Agrees what n m s s' nn hh) :
    Calls Tryz.prog 14 #[.agg (scrA s cv tv gv), .func (.func cf) #[] ccaps, .string what, .int .i64 n, .int .i64 m] w fun e w' => e = .returned (.bool true) ∧ Below w.heap.size w w' :=
  acts_calls s cv tv gv _ what n m w hV fun W B1 B2 B3 hW h1 h2 h3 => by
    by_cases hz : scrErr s = 0
    · obtain ⟨nn, hh, hR⟩ := right_of s hz
      obtain ⟨hc, hS, s2, rows2, hA, hrl, hrn, heq⟩ := hgood nn hh hR
      exact does_good s s' s2 nn hh rows2 cv tv gv cf _ ccaps _ hcf plain_acts W (Grd.Tab.next hT hW) (hV.next hW) hB hR hz hS (acts1_acts hA B1 B2 B3 W h1 h2 h3) hrl hrn heq fun w0 W' cv' tv' gv' hb hm => hc w0 W' cv' tv' gv' (hW.trans (hb.mono hW.size)) hm
    · exact does_bad s cv tv gv cf ccaps _ hcf W (Grd.Tab.next hT hW) (hV.next hW) hB hz fun w0 W' cv' tv' gv' hb hm => hbad hz w0 W' cv' tv' gv' (hW.trans (hb.mono hW.size)) hm
/-- A call with one number, by a name. -/
theorem one_any (s : Scr) (cv tv gv : Value) (cf : FuncId) (hcf : Plain cf) (what : ByteArray) (n : Int) (w : World) (hT : Txt.Tab w) (hV : ScrV w s cv tv gv) (hB : Bulk s) (s' : Scr)
    (hbad : scrErr s ≠ 0 → ∀ w0 W cv tv gv, Met w0 W s cv tv gv → Calls Tryz.prog cf #[.agg (scrA s cv tv gv), .int .i64 n] W (Made w0 W zScr (scrErr s)))
    (hgood : ∀ nn hh, RightS s nn hh → (∀ w0 W cv tv gv, Met w0 W s cv tv gv → Calls Tryz.prog cf #[.agg (scrA s cv tv gv), .int .i64 n] W (Made w0 W s' 0)) ∧ Agrees what n 0 s s' nn hh) :
    Calls Tryz.prog 9 #[.agg (scrA s cv tv gv), .func (.func cf) #[] #[], .string what, .int .i64 n] w fun e w' => e = .returned (.bool true) ∧ Below w.heap.size w w' :=
  one_calls s cv tv gv cf what n w hV fun W B1 B2 hW h1 h2 =>
    acts_any s cv tv gv _ plain_one _ what n 0 W (Grd.Tab.next hT hW) (hV.next hW) hB s'
      (fun hz w0 W' cv' tv' gv' hb hm => one1_calls s zScr cv' tv' gv' cf hcf n B1 B2 _ w0 W' hm.v hm.b.size (cell_stay (hb.trans (hm.b.mono hb.size)) h1) (cell_stay (hb.trans (hm.b.mono hb.size)) h2) fun V hV' => hbad hz w0 V cv' tv' gv' (hm.next hV'))
      (fun nn hh hR => ⟨fun w0 W' cv' tv' gv' hb hm => one1_calls s s' cv' tv' gv' cf hcf n B1 B2 _ w0 W' hm.v hm.b.size (cell_stay (hb.trans (hm.b.mono hb.size)) h1) (cell_stay (hb.trans (hm.b.mono hb.size)) h2) fun V hV' => (hgood nn hh hR).1 w0 V cv' tv' gv' (hm.next hV'), (hgood nn hh hR).2⟩)
end Put
end Go.Proofs.YtmhmmpicedlcpaaGreatDoor

/- Modes that are set and cleared: what is done, and what the reference does. -/
namespace Go.Proofs.YtmhmmpicedlcpaaGreatDoor
open Go.ChangeShapes Go.WideShapes Go.ChangeAt Go.RowKit
namespace Put
open Grd (C)
/-- The cursor goes to the first cell. -/
def homeS (s : Scr) : Scr := { s with x := 0, y := if hasB s.modes 2 then s.top else 0, late := false }
/-- Modes, with bits set or cleared. -/
def modesI (m b : Int) (on : Bool) : Int := if on then bits .or .i64 (bits .andNot .i64 m b) b else bits .andNot .i64 m b
def homeIf (b : Int) (s : Scr) : Scr := if bits .and .i64 b 2 = 0 then s else homeS s
def lateIf (s : Scr) : Scr := { s with late := s.late && hasB s.modes 4 }
/-- Set. -/
def setS (s : Scr) (b : Int) (on : Bool) : Scr := lateIf (homeIf b { s with modes := modesI s.modes b on })
/-- The reference's modes. -/
def modesR (m b : Int) (on : Bool) : Int := if on then bits .or .i64 m b else bits .and .i64 m (63 - b)
theorem mode_nums (m b : Int) (hm0 : 0 ≤ m) (hm1 : m ≤ 63) (hb0 : 0 ≤ b) (hb1 : b ≤ 63) :
    bits .or .i64 (bits .andNot .i64 m b) b = bits .or .i64 m b ∧ bits .andNot .i64 m b = bits .and .i64 m (63 - b) ∧
    (bits .and .i64 b 2 ≠ 0 → hasB (bits .or .i64 m b) 2 = true ∧ hasB (bits .and .i64 m (63 - b)) 2 = false) ∧
    hasB (bits .or .i64 m b) 4 = !(bits .and .i64 (bits .or .i64 m b) 4 == 0) ∧ hasB (bits .and .i64 m (63 - b)) 4 = !(bits .and .i64 (bits .and .i64 m (63 - b)) 4 == 0) := by
  have key : ∀ k : Fin 64, ∀ j : Fin 64, 
    bits .or .i64 (bits .andNot .i64 (k.val : Int) (j.val : Int)) (j.val : Int) = bits .or .i64 (k.val : Int) (j.val : Int) ∧ bits .andNot .i64 (k.val : Int) (j.val : Int) = bits .and .i64 (k.val : Int) (63 - (j.val : Int)) ∧
    (bits .and .i64 (j.val : Int) 2 ≠ 0 → hasB (bits .or .i64 (k.val : Int) (j.val : Int)) 2 = true ∧ hasB (bits .and .i64 (k.val : Int) (63 - (j.val : Int))) 2 = false) ∧
    hasB (bits .or .i64 (k.val : Int) (j.val : Int)) 4 = !(bits .and .i64 (bits .or .i64 (k.val : Int) (j.val : Int)) 4 == 0) ∧ hasB (bits .and .i64 (k.val : Int) (63 - (j.val : Int))) 4 = !(bits .and .i64 (bits .and .i64 (k.val : Int) (63 - (j.val : Int))) 4 == 0) := by decide +kernel
  have h := key ⟨m.toNat, by omega⟩ ⟨b.toNat, by omega⟩
  have e1 : ((m.toNat : Nat) : Int) = m := by omega
  have e2 : ((b.toNat : Nat) : Int) = b := by omega
  simp only [e1, e2] at h
  exact h
theorem and63 (n : Int) : 0 ≤ bits .and .i64 n 63 ∧ bits .and .i64 n 63 ≤ 63 := by
  have h : bits .and .i64 n 63 = IntKind.i64.wrap ((BitVec.ofInt 64 n &&& 63#64).toNat : Int) := rfl
  have h2 : (BitVec.ofInt 64 n &&& 63#64).toNat ≤ 63 := by
    rw [BitVec.toNat_and]
    exact Nat.and_le_right
  rw [h, wrap_id _ (by omega) (by omega)]
  omega
/-- Set, as the reference has it. -/
def setR (s : Scr) (b : Int) (on : Bool) : Scr :=
  let s1 := { s with modes := modesR s.modes b on }
  let s2 := if bits .and .i64 b 2 = 0 then s1 else { s1 with x := 0, y := if on then s.top else 0, late := false }
  { s2 with late := s2.late && !(bits .and .i64 (modesR s.modes b on) 4 == 0) }
theorem setR_same (s : Scr) (b : Int) (on : Bool) (hm0 : 0 ≤ s.modes) (hm1 : s.modes ≤ 63) (hb0 : 0 ≤ b) (hb1 : b ≤ 63) : setR s b on = setS s b on := by
  obtain ⟨h1, h2, h3, h4, h5⟩ := mode_nums s.modes b hm0 hm1 hb0 hb1
  cases on with
  | true =>
    simp only [setR, setS, lateIf, homeIf, homeS, modesI, modesR, if_true, h1]
    by_cases hz : bits .and .i64 b 2 = 0
    · rw [if_pos hz, if_pos hz]
      simp only [h4]
    · rw [if_neg hz, if_neg hz]
      simp only [(h3 hz).1, if_true, h4]
  | false =>
    simp only [setR, setS, lateIf, homeIf, homeS, modesI, modesR, h2, Bool.false_eq_true, if_false]
    by_cases hz : bits .and .i64 b 2 = 0
    · rw [if_pos hz, if_pos hz]
      simp only [h5]
    · rw [if_neg hz, if_neg hz]
      simp only [(h3 hz).2, Bool.false_eq_true, if_false, h5]
theorem homeIf_same (b : Int) (s : Scr) : (homeIf b s).gone = s.gone ∧ (homeIf b s).tabs = s.tabs ∧ (homeIf b s).cs = s.cs ∧ (homeIf b s).w = s.w ∧ (homeIf b s).h = s.h ∧ (homeIf b s).modes = s.modes := by
  unfold homeIf homeS
  split <;> exact ⟨rfl, rfl, rfl, rfl, rfl, rfl⟩
theorem setS_same (s : Scr) (b : Int) (on : Bool) : (setS s b on).gone = s.gone ∧ (setS s b on).tabs = s.tabs ∧ (setS s b on).cs = s.cs ∧ (setS s b on).w = s.w ∧ (setS s b on).h = s.h := by
  obtain ⟨h1, h2, h3, h4, h5, -⟩ := homeIf_same b { s with modes := modesI s.modes b on }
  exact ⟨h1, h2, h3, h4, h5⟩
/-- Save. -/
def saveS (s : Scr) : Scr := { s with kx := s.x, ky := s.y, kf := s.sf, kb := s.sb, kbits := s.sx, km := bits .and .i64 s.modes 6 }
/-- Restore. -/
def restS (s : Scr) : Scr := { s with x := s.kx, y := s.ky, sf := s.kf, sb := s.kb, sx := s.kbits, late := false, modes := bits .or .i64 (bits .andNot .i64 s.modes 6) s.km }
/-- Restore, as the reference has it. -/
def restR (s : Scr) : Scr := { s with x := s.kx, y := s.ky, sf := s.kf, sb := s.kb, sx := s.kbits, late := false, modes := bits .and .i64 s.modes 57 + s.km }
theorem rest_nums (m k : Int) (hm0 : 0 ≤ m) (hm1 : m ≤ 63) (hk : keptOk k = true) : bits .or .i64 (bits .andNot .i64 m 6) k = bits .and .i64 m 57 + k ∧ 0 ≤ bits .and .i64 m 57 + k ∧ bits .and .i64 m 57 + k ≤ 63 := by
  have key : ∀ j : Fin 64, ∀ k : Fin 7, keptOk (k.val : Int) = true → bits .or .i64 (bits .andNot .i64 (j.val : Int) 6) (k.val : Int) = bits .and .i64 (j.val : Int) 57 + (k.val : Int) ∧ 0 ≤ bits .and .i64 (j.val : Int) 57 + (k.val : Int) ∧ bits .and .i64 (j.val : Int) 57 + (k.val : Int) ≤ 63 := by decide +kernel
  have hk2 : k = 0 ∨ k = 2 ∨ k = 4 ∨ k = 6 := by simpa [keptOk] using hk
  have h := key ⟨m.toNat, by omega⟩ ⟨k.toNat, by omega⟩
  have e1 : ((m.toNat : Nat) : Int) = m := by omega
  have e2 : ((k.toNat : Nat) : Int) = k := by omega
  simp only [e1, e2] at h
  exact h hk
end Put
end Go.Proofs.YtmhmmpicedlcpaaGreatDoor

/- Package sheet: Home. -/
namespace Go.Proofs.YtmhmmpicedlcpaaGreatDoor
open Go.ChangeShapes Go.WideShapes Go.ChangeAt Go.RowKit
namespace Put
open Grd (C)
set_option maxHeartbeats 4000000 in
theorem home_any {M N p : Nat} {s : Scr} {rows : List (List C)} (W : World) (hS : ShAt 46 W M N p s rows) :
    Calls Tryz.prog 56 #[.pointer (some ⟨p, 0, none⟩)] W fun e W' => e = .returned (.tuple #[]) ∧ ShAt 46 W' M N p (homeS s) rows ∧ Below N W W' := by
  have HR : Hid (homeS s = { s with x := 0, y := if hasB s.modes 2 then s.top else 0, late := false }) := rfl
  generalize homeS s = s' at *
  have k3 : ShAt 46 (W.setCell ⟨p, 3, none⟩ (.int .i64 0)) M N p { s with x := 0 } rows := hS.set sheet_is 3 _ (fun _ _ _ _ => rfl) rfl rfl
  have k4 : ShAt 46 ((W.setCell ⟨p, 3, none⟩ (.int .i64 0)).setCell ⟨p, 4, none⟩ (.int .i64 0)) M N p { s with x := 0, y := 0 } rows := k3.set sheet_is 4 _ (fun _ _ _ _ => rfl) rfl rfl
  have k5 : ShAt 46 (((W.setCell ⟨p, 3, none⟩ (.int .i64 0)).setCell ⟨p, 4, none⟩ (.int .i64 0)).setCell ⟨p, 5, none⟩ (.bool false)) M N p { s with x := 0, y := 0, late := false } rows := k4.set sheet_is 5 _ (fun _ _ _ _ => rfl) rfl rfl
  have hlo := hS.lo
  have HB5 : Hid (Below N W (((W.setCell ⟨p, 3, none⟩ (.int .i64 0)).setCell ⟨p, 4, none⟩ (.int .i64 0)).setCell ⟨p, 5, none⟩ (.bool false))) := (((Below.refl _ _).setCell hlo _).setCell hlo _).setCell hlo _
  have HK5 : Hid (ShAt 46 (((W.setCell ⟨p, 3, none⟩ (.int .i64 0)).setCell ⟨p, 4, none⟩ (.int .i64 0)).setCell ⟨p, 5, none⟩ (.bool false)) M N p { s with x := 0, y := 0, late := false } rows) := k5
  have HH := has_any 2 _ k5
  obtain ⟨c0, c1, c3, c4, c5, c9, c10, c11, c19, f⟩ := hS.words
  have f3 := f 3
  have f4 := f 4
  have f5 := f 5
  clear k3 k4 k5 hS f c0 c1 c11 c19 c9 c10
  go_enter Tryz.func56, Tryz.ntmps56
  go_wp2_with fail
  refine HH.mono ?_
  rintro e V ⟨rfl, hv⟩
  subst hv
  clear HH f3 f4 f5 c3 c4 c5
  generalize (((W.setCell ⟨p, 3, none⟩ (.int .i64 0)).setCell ⟨p, 4, none⟩ (.int .i64 0)).setCell ⟨p, 5, none⟩ (.bool false)) = Y at *
  cases hmo : hasB s.modes 2 with
  | false =>
    have HE2 : Hid (s' = { s with x := 0, y := 0, late := false }) := by unfold Hid; rw [HR.out, hmo]; rfl
    go_wp2_with fail
    go_end0
    rw [HE2.out]
    exact ⟨rfl, HK5.out, HB5.out⟩
  | true =>
    have HE2 : Hid (s' = { s with x := 0, y := s.top, late := false }) := by unfold Hid; rw [HR.out, hmo]; rfl
    have k6 : ShAt 46 (Y.setCell ⟨p, 4, none⟩ (.int .i64 s.top)) M N p { s with x := 0, y := s.top, late := false } rows := ShAt.set sheet_is HK5.out 4 _ (fun _ _ _ _ => rfl) rfl rfl
    have HK6 : Hid (ShAt 46 (Y.setCell ⟨p, 4, none⟩ (.int .i64 s.top)) M N p { s with x := 0, y := s.top, late := false } rows) := k6
    obtain ⟨c0, c1, c3, c4, c5, c9, c10, c11, c19, f⟩ := ShAt.words HK5.out
    have f4 := f 4
    clear k6 f c0 c1 c3 c5 c10 c11 c19
    go_wp2_with fail
    go_end0
    rw [HE2.out]
    exact ⟨rfl, HK6.out, HB5.out.setCell hlo _⟩
end Put
end Go.Proofs.YtmhmmpicedlcpaaGreatDoor

/- The rows that scroll are chosen: a right screen stays right. No function is walked here. -/
namespace Go.Proofs.YtmhmmpicedlcpaaGreatDoor
open Go.ChangeShapes Go.WideShapes Go.ChangeAt Go.RowKit
namespace Put
open Grd (C)
def lastI (h b : Int) : Int := if b < 1 ∨ h < b then h - 1 else b - 1
def mayB (h a b : Int) : Bool := decide (a < b) || (decide (a = b) && decide (h = 1))
/-- The rows that scroll are chosen. -/
def regS (s : Scr) (a b : Int) : Scr :=
  if mayB s.h (max a 1 - 1) (lastI s.h b) then { s with top := max a 1 - 1, bot := lastI s.h b, x := 0, y := if hasB s.modes 2 then max a 1 - 1 else 0, late := false } else s
theorem reg_right {s : Scr} {n hh : Nat} (h : RightS s n hh) (a b : Int) : RightS (regS s a b) n hh := by
  have n1 := h.n1
  have h1 := h.h1
  have eh := h.h
  unfold regS
  by_cases hq : mayB s.h (max a 1 - 1) (lastI s.h b) = true
  · rw [if_pos hq]
    have hl : 0 ≤ lastI s.h b ∧ lastI s.h b < hh := by
      unfold lastI
      split <;> omega
    simp only [mayB, Bool.or_eq_true, Bool.and_eq_true, decide_eq_true_eq] at hq
    refine ⟨h.w, h.h, h.n1, h.n2, h.h1, h.h2, h.cl, h.gz, by show (0 : Int) ≤ 0; omega, by show (0 : Int) < n; omega, ?_, ?_, h.kx0, h.kx1, h.ky0, h.ky1, by show 0 ≤ max a 1 - 1; omega, by show max a 1 - 1 ≤ lastI s.h b; omega, hl.2, by show max a 1 - 1 < lastI s.h b ∨ hh = 1; omega, by unfold lateBad; rfl, h.looks, h.tl, h.la, h.ti, h.gl, h.gr⟩
    · dsimp only
      split <;> omega
    · dsimp only
      split <;> omega
  · rw [if_neg hq]
    exact h
end Put
end Go.Proofs.YtmhmmpicedlcpaaGreatDoor

/- Package shift: Region's closure. -/
namespace Go.Proofs.YtmhmmpicedlcpaaGreatDoor
open Go.ChangeShapes Go.WideShapes Go.ChangeAt Go.RowKit
namespace Put
open Grd (C)
set_option maxHeartbeats 1000000 in
theorem lastRow_any {M N p : Nat} {s : Scr} {rows : List (List C)} (b : Int) (W : World) (hS : ShAt 46 W M N p s rows) (h1 : 1 ≤ s.h) (h2 : s.h ≤ 60) :
    Calls Tryz.prog 54 #[.pointer (some ⟨p, 0, none⟩), .int .i64 b] W fun e W' => e = .returned (.int .i64 (lastI s.h b)) ∧ W = W' := by
  obtain ⟨c0, c1, c3, c4, c5, c9, c10, c11, c19, f⟩ := hS.words
  have HE : Hid (lastI s.h b = if b < 1 ∨ s.h < b then s.h - 1 else b - 1) := rfl
  have hwr : IntKind.i64.wrap (s.h - 1) = s.h - 1 := wrap_id _ (by omega) (by omega)
  clear hS c0 c3 c4 c5 c9 c10 c11 c19 f
  generalize lastI s.h b = v at *
  by_cases hb : b < 1
  · have HV : Hid (s.h - 1 = v) := by unfold Hid; rw [HE.out, if_pos (.inl hb)]
    go_enter Tryz.func54, Tryz.ntmps54
    go_wp2_with fail
    go_ret
    exact ⟨ret_int HV.out, rfl⟩
  · by_cases hc : s.h < b
    · have HV : Hid (s.h - 1 = v) := by unfold Hid; rw [HE.out, if_pos (.inr hc)]
      go_enter Tryz.func54, Tryz.ntmps54
      go_wp2_with fail
      go_ret
      exact ⟨ret_int HV.out, rfl⟩
    · have HV : Hid (b - 1 = v) := by unfold Hid; rw [HE.out, if_neg (by omega)]
      have hwb : IntKind.i64.wrap (b - 1) = b - 1 := wrap_id _ (by omega) (by omega)
      go_enter Tryz.func54, Tryz.ntmps54
      go_wp2_with fail
      go_ret
      exact ⟨ret_int HV.out, rfl⟩
set_option maxHeartbeats 1000000 in
theorem mayScroll_any {M N p : Nat} {s : Scr} {rows : List (List C)} (a b : Int) (W : World) (hS : ShAt 46 W M N p s rows) :
    Calls Tryz.prog 55 #[.pointer (some ⟨p, 0, none⟩), .int .i64 a, .int .i64 b] W fun e W' => e = .returned (.bool (mayB s.h a b)) ∧ W = W' := by
  obtain ⟨c0, c1, c3, c4, c5, c9, c10, c11, c19, f⟩ := hS.words
  clear hS c0 c3 c4 c5 c9 c10 c11 c19 f
  unfold mayB
  by_cases h1 : a < b
  · go_enter Tryz.func55, Tryz.ntmps55
    go_wp2_with fail
    go_ret
    exact ⟨Sty.ret_bool (by simp [h1]), rfl⟩
  · by_cases h2 : a = b
    · have n2 : (a == b) = true := by simpa using h2
      have H2 : Hid (a = b) := h2
      clear h2
      go_enter Tryz.func55, Tryz.ntmps55
      go_wp2_with fail
      go_ret
      exact ⟨Sty.ret_bool (by rw [Bool.eq_iff_iff]; simp [H2.out]), rfl⟩
    · have n2 : (a == b) = false := by simpa using h2
      have H1 : Hid (¬ a < b) := h1
      have H2 : Hid (¬ a = b) := h2
      clear h2
      go_enter Tryz.func55, Tryz.ntmps55
      go_wp2_with fail
      go_ret
      exact ⟨Sty.ret_bool (by rw [Bool.eq_iff_iff]; simp [H1.out, H2.out]), rfl⟩
set_option maxHeartbeats 4000000 in
theorem region_does (a b : Int) (B1 B2 M : Nat) (w : World) (s : Scr) (rows : List (List C)) (hB1 : w.cell? ⟨B1, 0, none⟩ = some (.int .i64 a)) (hB2 : w.cell? ⟨B2, 0, none⟩ = some (.int .i64 b)) (h1 : 1 ≤ s.h) (h2 : s.h ≤ 60) (ha : a ≤ 9223372036854775807) :
    Does 53 #[.pointer (some ⟨B1, 0, none⟩), .pointer (some ⟨B2, 0, none⟩)] M w s (regS s a b) rows rows := by
  intro W p hb hS
  have q1 := cell_stay hb hB1
  have q2 := cell_stay hb hB2
  have HL : Hid (∀ W', ShAt 46 W' M w.heap.size p s rows → Calls Tryz.prog 54 #[.pointer (some ⟨p, 0, none⟩), .int .i64 b] W' fun e W'' => e = .returned (.int .i64 (lastI s.h b)) ∧ W' = W'') := fun W' h => lastRow_any b W' h h1 h2
  have HM : Hid (∀ W' x y, ShAt 46 W' M w.heap.size p s rows → Calls Tryz.prog 55 #[.pointer (some ⟨p, 0, none⟩), .int .i64 x, .int .i64 y] W' fun e W'' => e = .returned (.bool (mayB s.h x y)) ∧ W' = W'') := fun W' x y h => mayScroll_any x y W' h
  have hmx := Grd.max2 a 1
  have hmx1 : 1 ≤ max a 1 := by omega
  have hmx2 : max a 1 ≤ 9223372036854775807 := by omega
  have hws : IntKind.i64.wrap (max a 1 - 1) = max a 1 - 1 := wrap_id _ (by omega) (by omega)
  have HSd : Hid (ShAt 46 W.drew M w.heap.size p s rows) := hS.drew
  have HR : Hid (regS s a b = if mayB s.h (max a 1 - 1) (lastI s.h b) then { s with top := max a 1 - 1, bot := lastI s.h b, x := 0, y := if hasB s.modes 2 then max a 1 - 1 else 0, late := false } else s) := rfl
  generalize regS s a b = s' at *
  have HL2 := HL.out _ HSd.out
  have SK : Hid (∀ w', Below W.heap.size W w' → Below W.heap.size W w' ∧ w'.cell? ⟨B1, 0, none⟩ = some (.int .i64 a) ∧ w'.cell? ⟨B2, 0, none⟩ = some (.int .i64 b)) := fun w' h => ⟨h, cell_stay h q1, cell_stay h q2⟩
  have b0 : Below W.heap.size W W.drew := (Below.refl _ _).drew
  have HNX : Hid (∀ V, Below W.heap.size W V → ShAt 46 V M w.heap.size p s rows ∧ Below w.heap.size W V) := fun V h => ⟨hS.next h, h.mono hb.size⟩
  clear hS hB1 hB2 HSd
  go_enter Tryz.func53, Tryz.ntmps53
  go_upto_region 0 with fail
  go_region_held3 (fun w' => Below W.heap.size W w' ∧ w'.cell? ⟨B1, 0, none⟩ = some (.int .i64 a) ∧ w'.cell? ⟨B2, 0, none⟩ = some (.int .i64 b))
    (first | exact SK.out _ b0)
    (first | (go_at_call 54; refine HL2.mono ?_; rintro e V ⟨rfl, hv⟩; subst hv))
  all_goals (
    obtain ⟨HSX, HBX⟩ := HNX.out _ b0
    clear SK HL HL2 HNX q1 q2 hws hmx
    generalize W.drew = X at *
    generalize max a 1 - 1 = fr at *
    generalize lastI s.h b = la at *
    have HM2 := HM.out X fr la HSX
    clear HM
    cases hmy : mayB s.h fr la with
    | false =>
      have HE : Hid (s' = s) := by unfold Hid; rw [HR.out, hmy]; rfl
      rw [hmy] at HM2
      clear HR
      go_wp2_with fail
      refine HM2.mono ?_
      rintro e V ⟨rfl, hv⟩
      subst hv
      go_wp2_with fail
      (try simp only [Exit.inBlock, Exit.then])
      refine bodyPost_ret (v := .tuple #[]) (results_none rfl _ _ _) rfl ⟨rfl, ?_, HBX⟩
      rw [HE.out]
      exact HSX
    | true =>
      have HE : Hid (s' = { s with top := fr, bot := la, x := 0, y := if hasB s.modes 2 then fr else 0, late := false }) := by unfold Hid; rw [HR.out, hmy]; rfl
      rw [hmy] at HM2
      have k1 : ShAt 46 (X.setCell ⟨p, 9, none⟩ (.int .i64 fr)) M w.heap.size p { s with top := fr } rows := HSX.set sheet_is 9 _ (fun _ _ _ _ => rfl) rfl rfl
      have k2 : ShAt 46 ((X.setCell ⟨p, 9, none⟩ (.int .i64 fr)).setCell ⟨p, 10, none⟩ (.int .i64 la)) M w.heap.size p { s with top := fr, bot := la } rows := k1.set sheet_is 10 _ (fun _ _ _ _ => rfl) rfl rfl
      have HB2 : Hid (Below w.heap.size W ((X.setCell ⟨p, 9, none⟩ (.int .i64 fr)).setCell ⟨p, 10, none⟩ (.int .i64 la))) := (HBX.setCell HSX.lo _).setCell HSX.lo _
      have HH := home_any _ k2
      obtain ⟨c0, c1, c3, c4, c5, c9, c10, c11, c19, f⟩ := HSX.words
      have f9 := f 9
      have f10 := f 10
      clear k1 k2 HR HSX HBX f c0 c1 c3 c4 c5 c11 c19
      go_wp2_with fail
      refine HM2.mono ?_
      rintro e V ⟨rfl, hv⟩
      subst hv
      go_wp2_with fail
      refine HH.mono ?_
      rintro e V ⟨rfl, hk, hbv⟩
      clear HH HM2 f9 f10 c9 c10
      go_wp2_with fail
      go_end0
      rw [HE.out]
      exact ⟨rfl, hk, HB2.out.trans hbv⟩)
end Put
end Go.Proofs.YtmhmmpicedlcpaaGreatDoor

/- Act: region. -/
namespace Go.Proofs.YtmhmmpicedlcpaaGreatDoor
open Go.ChangeShapes Go.WideShapes Go.ChangeAt Go.RowKit
namespace Put
open Grd (C SliceAt CellsAt gridErr z0 nilV rowsL RowsAt RowB flat)
theorem DkAt.five {W : World} {N p : Nat} {s : Scr} {rows : List (List C)} (h : DkAt W N p s rows) (a b : Int) :
    DkAt (((((W.setCell ⟨p, 9, none⟩ (.int .i64 a)).setCell ⟨p, 10, none⟩ (.int .i64 b)).setCell ⟨p, 3, none⟩ (.int .i64 0)).setCell ⟨p, 4, none⟩ (.int .i64 0)).setCell ⟨p, 5, none⟩ (.bool false)) N p { s with top := a, bot := b, x := 0, y := 0, late := false } rows ∧ Below N W (((((W.setCell ⟨p, 9, none⟩ (.int .i64 a)).setCell ⟨p, 10, none⟩ (.int .i64 b)).setCell ⟨p, 3, none⟩ (.int .i64 0)).setCell ⟨p, 4, none⟩ (.int .i64 0)).setCell ⟨p, 5, none⟩ (.bool false)) := by
  have h1 : DkAt (W.setCell ⟨p, 9, none⟩ (.int .i64 a)) N p { s with top := a } rows := h.set 9 _ (fun _ _ _ _ => rfl) rfl rfl
  have h2 : DkAt ((W.setCell ⟨p, 9, none⟩ (.int .i64 a)).setCell ⟨p, 10, none⟩ (.int .i64 b)) N p { s with top := a, bot := b } rows := h1.set 10 _ (fun _ _ _ _ => rfl) rfl rfl
  have h3 : DkAt (((W.setCell ⟨p, 9, none⟩ (.int .i64 a)).setCell ⟨p, 10, none⟩ (.int .i64 b)).setCell ⟨p, 3, none⟩ (.int .i64 0)) N p { s with top := a, bot := b, x := 0 } rows := h2.set 3 _ (fun _ _ _ _ => rfl) rfl rfl
  have h4 : DkAt ((((W.setCell ⟨p, 9, none⟩ (.int .i64 a)).setCell ⟨p, 10, none⟩ (.int .i64 b)).setCell ⟨p, 3, none⟩ (.int .i64 0)).setCell ⟨p, 4, none⟩ (.int .i64 0)) N p { s with top := a, bot := b, x := 0, y := 0 } rows := h3.set 4 _ (fun _ _ _ _ => rfl) rfl rfl
  exact ⟨h4.set 5 _ (fun _ _ _ _ => rfl) rfl rfl, (((((Below.refl _ _).setCell h.lo _).setCell h.lo _).setCell h.lo _).setCell h.lo _).setCell h.lo _⟩
set_option maxHeartbeats 8000000 in
set_option maxRecDepth 100000 in
theorem act_region_a (n m : Int) (s : Scr) (rows : List (List C)) (w3 : 1 ≤ s.h) (w4 : s.h ≤ 60) (hn : n ≤ 9223372036854775807) (hb : hasB s.modes 2 = !(bits .and .i64 s.modes 2 == 0)) (hm1 : m ≤ 0) : ActMakes ⟨#[114, 101, 103, 105, 111, 110]⟩ n m s (regS s n m) rows rows := by
  intro N W p hN hD
  obtain ⟨c0, c1, c3, c4, c5, c9, c10, c11, c19, f⟩ := hD.words
  have f3 := f 3
  have f4 := f 4
  have f5 := f 5
  have f9 := f 9
  have f10 := f 10
  have hmx := Grd.max2 n 1
  have hws : IntKind.i64.wrap (max n 1 - 1) = max n 1 - 1 := wrap_id _ (by omega) (by omega)
  have hwh : IntKind.i64.wrap (s.h - 1) = s.h - 1 := wrap_id _ (by omega) (by omega)
  have hL : lastI s.h m = (s.h - 1) := by unfold lastI; rw [if_pos (.inl (by omega))]
  have HR : Hid (regS s n m = if mayB s.h (max n 1 - 1) (s.h - 1) then { s with top := max n 1 - 1, bot := (s.h - 1), x := 0, y := if hasB s.modes 2 then max n 1 - 1 else 0, late := false } else s) := by unfold Hid regS; rw [hL]
  have HM : Hid (mayB s.h (max n 1 - 1) (s.h - 1) = (decide (max n 1 - 1 < (s.h - 1)) || (decide (max n 1 - 1 = (s.h - 1)) && decide (s.h = 1)))) := rfl
  have H5 : Hid (DkAt (((((W.setCell ⟨p, 9, none⟩ (.int .i64 (max n 1 - 1))).setCell ⟨p, 10, none⟩ (.int .i64 (s.h - 1))).setCell ⟨p, 3, none⟩ (.int .i64 0)).setCell ⟨p, 4, none⟩ (.int .i64 0)).setCell ⟨p, 5, none⟩ (.bool false)) N p { s with top := max n 1 - 1, bot := (s.h - 1), x := 0, y := 0, late := false } rows ∧ Below N W (((((W.setCell ⟨p, 9, none⟩ (.int .i64 (max n 1 - 1))).setCell ⟨p, 10, none⟩ (.int .i64 (s.h - 1))).setCell ⟨p, 3, none⟩ (.int .i64 0)).setCell ⟨p, 4, none⟩ (.int .i64 0)).setCell ⟨p, 5, none⟩ (.bool false))) := hD.five (max n 1 - 1) (s.h - 1)
  have HD : Hid (DkAt W N p s rows) := hD
  have HLO : Hid (N ≤ p) := hD.lo
  generalize regS s n m = s' at *
  generalize mayB s.h (max n 1 - 1) (s.h - 1) = mb at *
  clear hD c0 c19 f hL
  have HNO : Hid (mb = false → DkAt W N p s' rows ∧ Below N W W) := fun e => by rw [HR.out, e]; exact ⟨HD.out, Below.refl _ _⟩
  have HYS : Hid (mb = true → bits .and .i64 s.modes 2 = 0 → DkAt (((((W.setCell ⟨p, 9, none⟩ (.int .i64 (max n 1 - 1))).setCell ⟨p, 10, none⟩ (.int .i64 (s.h - 1))).setCell ⟨p, 3, none⟩ (.int .i64 0)).setCell ⟨p, 4, none⟩ (.int .i64 0)).setCell ⟨p, 5, none⟩ (.bool false)) N p s' rows ∧ Below N W (((((W.setCell ⟨p, 9, none⟩ (.int .i64 (max n 1 - 1))).setCell ⟨p, 10, none⟩ (.int .i64 (s.h - 1))).setCell ⟨p, 3, none⟩ (.int .i64 0)).setCell ⟨p, 4, none⟩ (.int .i64 0)).setCell ⟨p, 5, none⟩ (.bool false))) := fun e q => by
    have e2 : hasB s.modes 2 = false := by rw [hb, q]; rfl
    rw [HR.out, e, e2]
    exact H5.out
  have HYT : Hid (mb = true → bits .and .i64 s.modes 2 ≠ 0 → DkAt ((((((W.setCell ⟨p, 9, none⟩ (.int .i64 (max n 1 - 1))).setCell ⟨p, 10, none⟩ (.int .i64 (s.h - 1))).setCell ⟨p, 3, none⟩ (.int .i64 0)).setCell ⟨p, 4, none⟩ (.int .i64 0)).setCell ⟨p, 5, none⟩ (.bool false)).setCell ⟨p, 4, none⟩ (.int .i64 (max n 1 - 1))) N p s' rows ∧ Below N W ((((((W.setCell ⟨p, 9, none⟩ (.int .i64 (max n 1 - 1))).setCell ⟨p, 10, none⟩ (.int .i64 (s.h - 1))).setCell ⟨p, 3, none⟩ (.int .i64 0)).setCell ⟨p, 4, none⟩ (.int .i64 0)).setCell ⟨p, 5, none⟩ (.bool false)).setCell ⟨p, 4, none⟩ (.int .i64 (max n 1 - 1)))) := fun e q => by
    have e2 : hasB s.modes 2 = true := by rw [hb]; simp [q]
    rw [HR.out, e, e2]
    exact ⟨DkAt.set H5.out.1 4 _ (fun _ _ _ _ => rfl) rfl rfl, H5.out.2.setCell HLO.out _⟩
  clear HR H5 HD hb
  by_cases hlt : max n 1 - 1 < (s.h - 1)
  · have hmb : mb = true := by rw [HM.out]; simp [hlt]
    clear HM
    by_cases hq : bits .and .i64 s.modes 2 = 0
    · have HF : Hid _ := HYS.out hmb hq
      clear HYS HYT HNO hmb
      go_enter Tryz.func41, Tryz.ntmps41
      go_wp2_with fail
      go_end0
      exact ⟨rfl, HF.out⟩
    · have HF : Hid _ := HYT.out hmb hq
      have hq2 : (bits .and .i64 s.modes 2 == 0) = false := by simpa using hq
      clear HYS HYT HNO hmb
      go_enter Tryz.func41, Tryz.ntmps41
      go_wp2_with fail
      go_end0
      exact ⟨rfl, HF.out⟩
  · by_cases hh1 : s.h = 1
    · have hh2 : (s.h == 1) = true := by simpa using hh1
      by_cases heq : max n 1 - 1 = (s.h - 1)
      · have hmb : mb = true := by rw [HM.out]; simp [heq, hh1]
        have heq2 : (max n 1 - 1 == (s.h - 1)) = true := by simpa using heq
        clear HM hh1 heq
        by_cases hq : bits .and .i64 s.modes 2 = 0
        · have HF : Hid _ := HYS.out hmb hq
          clear HYS HYT HNO hmb
          go_enter Tryz.func41, Tryz.ntmps41
          go_wp2_with fail
          go_end0
          exact ⟨rfl, HF.out⟩
        · have HF : Hid _ := HYT.out hmb hq
          have hq2 : (bits .and .i64 s.modes 2 == 0) = false := by simpa using hq
          clear HYS HYT HNO hmb
          go_enter Tryz.func41, Tryz.ntmps41
          go_wp2_with fail
          go_end0
          exact ⟨rfl, HF.out⟩
      · have hmb : mb = false := by rw [HM.out]; simp [heq, hlt]
        have heq2 : (max n 1 - 1 == (s.h - 1)) = false := by simpa using heq
        have HF : Hid _ := HNO.out hmb
        clear HM hh1 heq HYS HYT HNO hmb
        go_enter Tryz.func41, Tryz.ntmps41
        go_wp2_with fail
        go_end0
        exact ⟨rfl, HF.out⟩
    · have hh2 : (s.h == 1) = false := by simpa using hh1
      have hmb : mb = false := by rw [HM.out]; simp [hh1, hlt]
      have HF : Hid _ := HNO.out hmb
      clear HM hh1 HYS HYT HNO hmb
      go_enter Tryz.func41, Tryz.ntmps41
      go_wp2_with fail
      go_end0
      exact ⟨rfl, HF.out⟩
set_option maxHeartbeats 8000000 in
set_option maxRecDepth 100000 in
theorem act_region_b (n m : Int) (s : Scr) (rows : List (List C)) (w3 : 1 ≤ s.h) (w4 : s.h ≤ 60) (hn : n ≤ 9223372036854775807) (hb : hasB s.modes 2 = !(bits .and .i64 s.modes 2 == 0)) (hm1 : ¬ m ≤ 0) (hm2 : s.h < m) : ActMakes ⟨#[114, 101, 103, 105, 111, 110]⟩ n m s (regS s n m) rows rows := by
  intro N W p hN hD
  obtain ⟨c0, c1, c3, c4, c5, c9, c10, c11, c19, f⟩ := hD.words
  have f3 := f 3
  have f4 := f 4
  have f5 := f 5
  have f9 := f 9
  have f10 := f 10
  have hmx := Grd.max2 n 1
  have hws : IntKind.i64.wrap (max n 1 - 1) = max n 1 - 1 := wrap_id _ (by omega) (by omega)
  have hwh : IntKind.i64.wrap (s.h - 1) = s.h - 1 := wrap_id _ (by omega) (by omega)
  have hL : lastI s.h m = (s.h - 1) := by unfold lastI; rw [if_pos (.inr (by omega))]
  have HR : Hid (regS s n m = if mayB s.h (max n 1 - 1) (s.h - 1) then { s with top := max n 1 - 1, bot := (s.h - 1), x := 0, y := if hasB s.modes 2 then max n 1 - 1 else 0, late := false } else s) := by unfold Hid regS; rw [hL]
  have HM : Hid (mayB s.h (max n 1 - 1) (s.h - 1) = (decide (max n 1 - 1 < (s.h - 1)) || (decide (max n 1 - 1 = (s.h - 1)) && decide (s.h = 1)))) := rfl
  have H5 : Hid (DkAt (((((W.setCell ⟨p, 9, none⟩ (.int .i64 (max n 1 - 1))).setCell ⟨p, 10, none⟩ (.int .i64 (s.h - 1))).setCell ⟨p, 3, none⟩ (.int .i64 0)).setCell ⟨p, 4, none⟩ (.int .i64 0)).setCell ⟨p, 5, none⟩ (.bool false)) N p { s with top := max n 1 - 1, bot := (s.h - 1), x := 0, y := 0, late := false } rows ∧ Below N W (((((W.setCell ⟨p, 9, none⟩ (.int .i64 (max n 1 - 1))).setCell ⟨p, 10, none⟩ (.int .i64 (s.h - 1))).setCell ⟨p, 3, none⟩ (.int .i64 0)).setCell ⟨p, 4, none⟩ (.int .i64 0)).setCell ⟨p, 5, none⟩ (.bool false))) := hD.five (max n 1 - 1) (s.h - 1)
  have HD : Hid (DkAt W N p s rows) := hD
  have HLO : Hid (N ≤ p) := hD.lo
  generalize regS s n m = s' at *
  generalize mayB s.h (max n 1 - 1) (s.h - 1) = mb at *
  clear hD c0 c19 f hL
  have HNO : Hid (mb = false → DkAt W N p s' rows ∧ Below N W W) := fun e => by rw [HR.out, e]; exact ⟨HD.out, Below.refl _ _⟩
  have HYS : Hid (mb = true → bits .and .i64 s.modes 2 = 0 → DkAt (((((W.setCell ⟨p, 9, none⟩ (.int .i64 (max n 1 - 1))).setCell ⟨p, 10, none⟩ (.int .i64 (s.h - 1))).setCell ⟨p, 3, none⟩ (.int .i64 0)).setCell ⟨p, 4, none⟩ (.int .i64 0)).setCell ⟨p, 5, none⟩ (.bool false)) N p s' rows ∧ Below N W (((((W.setCell ⟨p, 9, none⟩ (.int .i64 (max n 1 - 1))).setCell ⟨p, 10, none⟩ (.int .i64 (s.h - 1))).setCell ⟨p, 3, none⟩ (.int .i64 0)).setCell ⟨p, 4, none⟩ (.int .i64 0)).setCell ⟨p, 5, none⟩ (.bool false))) := fun e q => by
    have e2 : hasB s.modes 2 = false := by rw [hb, q]; rfl
    rw [HR.out, e, e2]
    exact H5.out
  have HYT : Hid (mb = true → bits .and .i64 s.modes 2 ≠ 0 → DkAt ((((((W.setCell ⟨p, 9, none⟩ (.int .i64 (max n 1 - 1))).setCell ⟨p, 10, none⟩ (.int .i64 (s.h - 1))).setCell ⟨p, 3, none⟩ (.int .i64 0)).setCell ⟨p, 4, none⟩ (.int .i64 0)).setCell ⟨p, 5, none⟩ (.bool false)).setCell ⟨p, 4, none⟩ (.int .i64 (max n 1 - 1))) N p s' rows ∧ Below N W ((((((W.setCell ⟨p, 9, none⟩ (.int .i64 (max n 1 - 1))).setCell ⟨p, 10, none⟩ (.int .i64 (s.h - 1))).setCell ⟨p, 3, none⟩ (.int .i64 0)).setCell ⟨p, 4, none⟩ (.int .i64 0)).setCell ⟨p, 5, none⟩ (.bool false)).setCell ⟨p, 4, none⟩ (.int .i64 (max n 1 - 1)))) := fun e q => by
    have e2 : hasB s.modes 2 = true := by rw [hb]; simp [q]
    rw [HR.out, e, e2]
    exact ⟨DkAt.set H5.out.1 4 _ (fun _ _ _ _ => rfl) rfl rfl, H5.out.2.setCell HLO.out _⟩
  clear HR H5 HD hb
  by_cases hlt : max n 1 - 1 < (s.h - 1)
  · have hmb : mb = true := by rw [HM.out]; simp [hlt]
    clear HM
    by_cases hq : bits .and .i64 s.modes 2 = 0
    · have HF : Hid _ := HYS.out hmb hq
      clear HYS HYT HNO hmb
      go_enter Tryz.func41, Tryz.ntmps41
      go_wp2_with fail
      go_end0
      exact ⟨rfl, HF.out⟩
    · have HF : Hid _ := HYT.out hmb hq
      have hq2 : (bits .and .i64 s.modes 2 == 0) = false := by simpa using hq
      clear HYS HYT HNO hmb
      go_enter Tryz.func41, Tryz.ntmps41
      go_wp2_with fail
      go_end0
      exact ⟨rfl, HF.out⟩
  · by_cases hh1 : s.h = 1
    · have hh2 : (s.h == 1) = true := by simpa using hh1
      by_cases heq : max n 1 - 1 = (s.h - 1)
      · have hmb : mb = true := by rw [HM.out]; simp [heq, hh1]
        have heq2 : (max n 1 - 1 == (s.h - 1)) = true := by simpa using heq
        clear HM hh1 heq
        by_cases hq : bits .and .i64 s.modes 2 = 0
        · have HF : Hid _ := HYS.out hmb hq
          clear HYS HYT HNO hmb
          go_enter Tryz.func41, Tryz.ntmps41
          go_wp2_with fail
          go_end0
          exact ⟨rfl, HF.out⟩
        · have HF : Hid _ := HYT.out hmb hq
          have hq2 : (bits .and .i64 s.modes 2 == 0) = false := by simpa using hq
          clear HYS HYT HNO hmb
          go_enter Tryz.func41, Tryz.ntmps41
          go_wp2_with fail
          go_end0
          exact ⟨rfl, HF.out⟩
      · have hmb : mb = false := by rw [HM.out]; simp [heq, hlt]
        have heq2 : (max n 1 - 1 == (s.h - 1)) = false := by simpa using heq
        have HF : Hid _ := HNO.out hmb
        clear HM hh1 heq HYS HYT HNO hmb
        go_enter Tryz.func41, Tryz.ntmps41
        go_wp2_with fail
        go_end0
        exact ⟨rfl, HF.out⟩
    · have hh2 : (s.h == 1) = false := by simpa using hh1
      have hmb : mb = false := by rw [HM.out]; simp [hh1, hlt]
      have HF : Hid _ := HNO.out hmb
      clear HM hh1 HYS HYT HNO hmb
      go_enter Tryz.func41, Tryz.ntmps41
      go_wp2_with fail
      go_end0
      exact ⟨rfl, HF.out⟩
set_option maxHeartbeats 8000000 in
set_option maxRecDepth 100000 in
theorem act_region_c (n m : Int) (s : Scr) (rows : List (List C)) (w3 : 1 ≤ s.h) (w4 : s.h ≤ 60) (hn : n ≤ 9223372036854775807) (hb : hasB s.modes 2 = !(bits .and .i64 s.modes 2 == 0)) (hm1 : ¬ m ≤ 0) (hm2 : ¬ s.h < m) : ActMakes ⟨#[114, 101, 103, 105, 111, 110]⟩ n m s (regS s n m) rows rows := by
  intro N W p hN hD
  obtain ⟨c0, c1, c3, c4, c5, c9, c10, c11, c19, f⟩ := hD.words
  have f3 := f 3
  have f4 := f 4
  have f5 := f 5
  have f9 := f 9
  have f10 := f 10
  have hmx := Grd.max2 n 1
  have hws : IntKind.i64.wrap (max n 1 - 1) = max n 1 - 1 := wrap_id _ (by omega) (by omega)
  have hwh : IntKind.i64.wrap (s.h - 1) = s.h - 1 := wrap_id _ (by omega) (by omega)
  have hwm : IntKind.i64.wrap (m - 1) = m - 1 := wrap_id _ (by omega) (by omega)
  have hL : lastI s.h m = (m - 1) := by unfold lastI; rw [if_neg (by omega)]
  have HR : Hid (regS s n m = if mayB s.h (max n 1 - 1) (m - 1) then { s with top := max n 1 - 1, bot := (m - 1), x := 0, y := if hasB s.modes 2 then max n 1 - 1 else 0, late := false } else s) := by unfold Hid regS; rw [hL]
  have HM : Hid (mayB s.h (max n 1 - 1) (m - 1) = (decide (max n 1 - 1 < (m - 1)) || (decide (max n 1 - 1 = (m - 1)) && decide (s.h = 1)))) := rfl
  have H5 : Hid (DkAt (((((W.setCell ⟨p, 9, none⟩ (.int .i64 (max n 1 - 1))).setCell ⟨p, 10, none⟩ (.int .i64 (m - 1))).setCell ⟨p, 3, none⟩ (.int .i64 0)).setCell ⟨p, 4, none⟩ (.int .i64 0)).setCell ⟨p, 5, none⟩ (.bool false)) N p { s with top := max n 1 - 1, bot := (m - 1), x := 0, y := 0, late := false } rows ∧ Below N W (((((W.setCell ⟨p, 9, none⟩ (.int .i64 (max n 1 - 1))).setCell ⟨p, 10, none⟩ (.int .i64 (m - 1))).setCell ⟨p, 3, none⟩ (.int .i64 0)).setCell ⟨p, 4, none⟩ (.int .i64 0)).setCell ⟨p, 5, none⟩ (.bool false))) := hD.five (max n 1 - 1) (m - 1)
  have HD : Hid (DkAt W N p s rows) := hD
  have HLO : Hid (N ≤ p) := hD.lo
  generalize regS s n m = s' at *
  generalize mayB s.h (max n 1 - 1) (m - 1) = mb at *
  clear hD c0 c19 f hL
  have HNO : Hid (mb = false → DkAt W N p s' rows ∧ Below N W W) := fun e => by rw [HR.out, e]; exact ⟨HD.out, Below.refl _ _⟩
  have HYS : Hid (mb = true → bits .and .i64 s.modes 2 = 0 → DkAt (((((W.setCell ⟨p, 9, none⟩ (.int .i64 (max n 1 - 1))).setCell ⟨p, 10, none⟩ (.int .i64 (m - 1))).setCell ⟨p, 3, none⟩ (.int .i64 0)).setCell ⟨p, 4, none⟩ (.int .i64 0)).setCell ⟨p, 5, none⟩ (.bool false)) N p s' rows ∧ Below N W (((((W.setCell ⟨p, 9, none⟩ (.int .i64 (max n 1 - 1))).setCell ⟨p, 10, none⟩ (.int .i64 (m - 1))).setCell ⟨p, 3, none⟩ (.int .i64 0)).setCell ⟨p, 4, none⟩ (.int .i64 0)).setCell ⟨p, 5, none⟩ (.bool false))) := fun e q => by
    have e2 : hasB s.modes 2 = false := by rw [hb, q]; rfl
    rw [HR.out, e, e2]
    exact H5.out
  have HYT : Hid (mb = true → bits .and .i64 s.modes 2 ≠ 0 → DkAt ((((((W.setCell ⟨p, 9, none⟩ (.int .i64 (max n 1 - 1))).setCell ⟨p, 10, none⟩ (.int .i64 (m - 1))).setCell ⟨p, 3, none⟩ (.int .i64 0)).setCell ⟨p, 4, none⟩ (.int .i64 0)).setCell ⟨p, 5, none⟩ (.bool false)).setCell ⟨p, 4, none⟩ (.int .i64 (max n 1 - 1))) N p s' rows ∧ Below N W ((((((W.setCell ⟨p, 9, none⟩ (.int .i64 (max n 1 - 1))).setCell ⟨p, 10, none⟩ (.int .i64 (m - 1))).setCell ⟨p, 3, none⟩ (.int .i64 0)).setCell ⟨p, 4, none⟩ (.int .i64 0)).setCell ⟨p, 5, none⟩ (.bool false)).setCell ⟨p, 4, none⟩ (.int .i64 (max n 1 - 1)))) := fun e q => by
    have e2 : hasB s.modes 2 = true := by rw [hb]; simp [q]
    rw [HR.out, e, e2]
    exact ⟨DkAt.set H5.out.1 4 _ (fun _ _ _ _ => rfl) rfl rfl, H5.out.2.setCell HLO.out _⟩
  clear HR H5 HD hb
  by_cases hlt : max n 1 - 1 < (m - 1)
  · have hmb : mb = true := by rw [HM.out]; simp [hlt]
    clear HM
    by_cases hq : bits .and .i64 s.modes 2 = 0
    · have HF : Hid _ := HYS.out hmb hq
      clear HYS HYT HNO hmb
      go_enter Tryz.func41, Tryz.ntmps41
      go_wp2_with fail
      go_end0
      exact ⟨rfl, HF.out⟩
    · have HF : Hid _ := HYT.out hmb hq
      have hq2 : (bits .and .i64 s.modes 2 == 0) = false := by simpa using hq
      clear HYS HYT HNO hmb
      go_enter Tryz.func41, Tryz.ntmps41
      go_wp2_with fail
      go_end0
      exact ⟨rfl, HF.out⟩
  · by_cases hh1 : s.h = 1
    · have hh2 : (s.h == 1) = true := by simpa using hh1
      by_cases heq : max n 1 - 1 = (m - 1)
      · have hmb : mb = true := by rw [HM.out]; simp [heq, hh1]
        have heq2 : (max n 1 - 1 == (m - 1)) = true := by simpa using heq
        clear HM hh1 heq
        by_cases hq : bits .and .i64 s.modes 2 = 0
        · have HF : Hid _ := HYS.out hmb hq
          clear HYS HYT HNO hmb
          go_enter Tryz.func41, Tryz.ntmps41
          go_wp2_with fail
          go_end0
          exact ⟨rfl, HF.out⟩
        · have HF : Hid _ := HYT.out hmb hq
          have hq2 : (bits .and .i64 s.modes 2 == 0) = false := by simpa using hq
          clear HYS HYT HNO hmb
          go_enter Tryz.func41, Tryz.ntmps41
          go_wp2_with fail
          go_end0
          exact ⟨rfl, HF.out⟩
      · have hmb : mb = false := by rw [HM.out]; simp [heq, hlt]
        have heq2 : (max n 1 - 1 == (m - 1)) = false := by simpa using heq
        have HF : Hid _ := HNO.out hmb
        clear HM hh1 heq HYS HYT HNO hmb
        go_enter Tryz.func41, Tryz.ntmps41
        go_wp2_with fail
        go_end0
        exact ⟨rfl, HF.out⟩
    · have hh2 : (s.h == 1) = false := by simpa using hh1
      have hmb : mb = false := by rw [HM.out]; simp [hh1, hlt]
      have HF : Hid _ := HNO.out hmb
      clear HM hh1 HYS HYT HNO hmb
      go_enter Tryz.func41, Tryz.ntmps41
      go_wp2_with fail
      go_end0
      exact ⟨rfl, HF.out⟩
theorem act_region (n m : Int) (s : Scr) (rows : List (List C)) (w3 : 1 ≤ s.h) (w4 : s.h ≤ 60) (hn : n ≤ 9223372036854775807) (hb : hasB s.modes 2 = !(bits .and .i64 s.modes 2 == 0)) : ActMakes ⟨#[114, 101, 103, 105, 111, 110]⟩ n m s (regS s n m) rows rows := by
  by_cases hm1 : m ≤ 0
  · exact act_region_a n m s rows w3 w4 hn hb hm1
  · by_cases hm2 : s.h < m
    · exact act_region_b n m s rows w3 w4 hn hb hm1 hm2
    · exact act_region_c n m s rows w3 w4 hn hb hm1 hm2
end Put
end Go.Proofs.YtmhmmpicedlcpaaGreatDoor
