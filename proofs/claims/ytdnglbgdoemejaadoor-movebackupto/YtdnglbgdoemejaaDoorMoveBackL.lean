/- The law MoveBack. -/
import Derived.Test.YtdnglbgdoemejaaDoorPartI
import Derived.Test.YtdnglbgdoemejaaDoorPartK
import Derived.Test.YtdnglbgdoemejaaDoorPartH
namespace Go.Proofs.YtdnglbgdoemejaaDoor
open Go.ChangeShapes Go.WideShapes Go.ChangeAt Go.RowKit
namespace Put
open Grd (C SliceAt CellsAt gridErr z0 nilV flat rowsL)
set_option maxHeartbeats 8000000 in
set_option maxRecDepth 100000 in
theorem moveBack_bad (s : Scr) (cv tv gv : Value) (n y x : Int) (w : World) (hT : Txt.Tab w) (hV : ScrV w s cv tv gv) (hF : Fits s) (hz : scrErr s ≠ 0) :
    Calls Tryd.prog 4 #[.agg (scrA s cv tv gv), .int .i64 n, .int .i64 y, .int .i64 x] w fun e w' => e = .returned (.bool true) ∧ Below w.heap.size w w' := by
  have x0 := heap_alloc_new w (.cells (scrA s cv tv gv) 32)
  have kb : Below w.heap.size w (w.alloc (.cells (scrA s cv tv gv) 32)) := (Below.refl _ _).alloc (Nat.le_refl _) _
  have HP : Hid (∀ W, Below w.heap.size w W → Calls Tryd.prog 7 #[] W fun e w' => e = .returned (.bool true) ∧ Below W.heap.size W w') := fun W h => printed_any W (Grd.Tab.next hT h)
  have HC : Hid (∀ W, Below w.heap.size w W → Calls Tryd.prog 8 #[.agg (scrA s cv tv gv)] W fun e w' => e = .returned (.int .i64 (scrErr s)) ∧ Below W.heap.size W w') := fun W h => putCheck_any s cv tv gv W (Grd.Tab.next hT h) (hV.next h) hF
  have HX0 : Hid _ := x0
  have HKB : Hid _ := kb
  have hzb : (scrErr s != 0) = true := by simp [bne, hz]
  clear x0 kb hT hV hF hz
  generalize scrErr s = er at *
  go_enter Tryd.func4, Tryd.ntmps4
  go_wp2_with fail
  refine (HP.out _ HKB.out).mono ?_
  rintro e W1 ⟨rfl, b1⟩
  have HB1 : Hid (Below w.heap.size w W1) := HKB.out.trans (b1.mono HKB.out.size)
  have HX1 : Hid (W1.heap[w.heap.size]? = _) := Grd.carry HX0.out b1
  clear b1
  go_wp2_with (refine BigFrame.wpList_want rfl fun K hK => wp_load_row 32 (.tmp 4) rfl w.heap.size rfl _ _ _ _ HX1.out Tryd.underlying32 rfl (by kernel_rfl) (hK _ _ ?_))
  refine (HC.out _ HB1.out).mono ?_
  rintro e W2 ⟨rfl, b2⟩
  have HB2 : Hid (Below w.heap.size w W2) := HB1.out.trans (b2.mono HB1.out.size)
  clear b2
  go_wp2_with fail
  refine (HP.out _ HB2.out).mono ?_
  rintro e W3 ⟨rfl, b3⟩
  have HB3 : Hid (Below w.heap.size w W3) := HB2.out.trans (b3.mono HB2.out.size)
  clear b3
  go_wp2_with fail
  go_ret
  exact ⟨rfl, HB3.out⟩
/-- A screen that was answered is kept in a variable. -/
theorem kept_in {w W : World} {M N : Nat} {s : Scr} {a1 a2 a3 : Option Addr} {n1 c1 n2 c2 n3 c3 : Nat} (hO : ScrO W M N s (.slice a1 n1 c1) (.slice a2 n2 c2) (.slice a3 n3 c3)) (hB : Below w.heap.size w W) :
    ((W.alloc (.cells #[.int .i64 0, .int .i64 0, .slice none 0 0, .int .i64 0, .int .i64 0, .bool false, .int .i64 0, .int .i64 0, .int .i64 0, .int .i64 0, .int .i64 0, .int .i64 0, .slice none 0 0, .int .i64 0, .int .i64 0, .int .i64 0, .int .i64 0, .int .i64 0, .int .i64 0, .int .i32 0, .string ⟨#[]⟩, .slice none 0 0] 32)).setRow W.heap.size (scrA s (.slice a1 n1 c1) (.slice a2 n2 c2) (.slice a3 n3 c3))).heap[W.heap.size]? = some (.cells (scrA s (.slice a1 n1 c1) (.slice a2 n2 c2) (.slice a3 n3 c3)) 32 (0, 0)) ∧ ScrV W s (.slice a1 n1 c1) (.slice a2 n2 c2) (.slice a3 n3 c3) ∧ Below W.heap.size W ((W.alloc (.cells #[.int .i64 0, .int .i64 0, .slice none 0 0, .int .i64 0, .int .i64 0, .bool false, .int .i64 0, .int .i64 0, .int .i64 0, .int .i64 0, .int .i64 0, .int .i64 0, .slice none 0 0, .int .i64 0, .int .i64 0, .int .i64 0, .int .i64 0, .int .i64 0, .int .i64 0, .int .i32 0, .string ⟨#[]⟩, .slice none 0 0] 32)).setRow W.heap.size (scrA s (.slice a1 n1 c1) (.slice a2 n2 c2) (.slice a3 n3 c3))) ∧ Below w.heap.size w ((W.alloc (.cells #[.int .i64 0, .int .i64 0, .slice none 0 0, .int .i64 0, .int .i64 0, .bool false, .int .i64 0, .int .i64 0, .int .i64 0, .int .i64 0, .int .i64 0, .int .i64 0, .slice none 0 0, .int .i64 0, .int .i64 0, .int .i64 0, .int .i64 0, .int .i64 0, .int .i64 0, .int .i32 0, .string ⟨#[]⟩, .slice none 0 0] 32)).setRow W.heap.size (scrA s (.slice a1 n1 c1) (.slice a2 n2 c2) (.slice a3 n3 c3))) := by
  have h1 : Below W.heap.size W ((W.alloc (.cells #[.int .i64 0, .int .i64 0, .slice none 0 0, .int .i64 0, .int .i64 0, .bool false, .int .i64 0, .int .i64 0, .int .i64 0, .int .i64 0, .int .i64 0, .int .i64 0, .slice none 0 0, .int .i64 0, .int .i64 0, .int .i64 0, .int .i64 0, .int .i64 0, .int .i64 0, .int .i32 0, .string ⟨#[]⟩, .slice none 0 0] 32)).setRow W.heap.size (scrA s (.slice a1 n1 c1) (.slice a2 n2 c2) (.slice a3 n3 c3))) := below_setRow ((Below.refl _ _).alloc (Nat.le_refl _) _) (Nat.le_refl _) _
  exact ⟨setRow_heap _ _ _ _ _ _ (heap_alloc_new W _), hO.scr, h1, hB.trans (h1.mono hB.size)⟩
theorem store_new (W : World) : (W.alloc (.cells #[.int .i64 0, .int .i64 0, .slice none 0 0, .int .i64 0, .int .i64 0, .bool false, .int .i64 0, .int .i64 0, .int .i64 0, .int .i64 0, .int .i64 0, .int .i64 0, .slice none 0 0, .int .i64 0, .int .i64 0, .int .i64 0, .int .i64 0, .int .i64 0, .int .i64 0, .int .i32 0, .string ⟨#[]⟩, .slice none 0 0] 32)).heap[W.heap.size]? = some (.cells #[.int .i64 0, .int .i64 0, .slice none 0 0, .int .i64 0, .int .i64 0, .bool false, .int .i64 0, .int .i64 0, .int .i64 0, .int .i64 0, .int .i64 0, .int .i64 0, .slice none 0 0, .int .i64 0, .int .i64 0, .int .i64 0, .int .i64 0, .int .i64 0, .int .i64 0, .int .i32 0, .string ⟨#[]⟩, .slice none 0 0] 32 (0, 0)) := heap_alloc_new W _
def roomB (s : Scr) (n : Int) : Bool := decide (1 ≤ n ∧ n < s.w - s.x)
/-- A place that is told without Origin, and is there. -/
def thereB (s : Scr) (y x : Int) : Bool := decide (bits .and .i64 s.modes 2 = 0 ∧ 1 ≤ y ∧ y ≤ s.h ∧ 1 ≤ x ∧ x ≤ s.w)
set_option maxHeartbeats 8000000 in
set_option maxRecDepth 100000 in
theorem moveBack_good (s : Scr) (cv tv gv : Value) (n y x : Int) (w : World) (hT : Txt.Tab w) (hV : ScrV w s cv tv gv) (hF : Fits s) (N H : Nat) (hR : RightS s N H) :
    Calls Tryd.prog 4 #[.agg (scrA s cv tv gv), .int .i64 n, .int .i64 y, .int .i64 x] w fun e w' => e = .returned (.bool true) ∧ Below w.heap.size w w' := by
  obtain ⟨ca, cc, rfl⟩ := hV.c.shape
  obtain ⟨ta, tc, rfl⟩ := hV.t.slice
  obtain ⟨ga, gc, rfl⟩ := hV.g.slice
  have x0 := heap_alloc_new w (.cells (scrA s (.slice ca s.cs.length cc) (.slice ta s.tabs.length tc) (.slice ga s.gone.length gc)) 32)
  have kb : Below w.heap.size w (w.alloc (.cells (scrA s (.slice ca s.cs.length cc) (.slice ta s.tabs.length tc) (.slice ga s.gone.length gc)) 32)) := (Below.refl _ _).alloc (Nat.le_refl _) _
  have HP : Hid (∀ W, Below w.heap.size w W → Calls Tryd.prog 7 #[] W fun e w' => e = .returned (.bool true) ∧ Below W.heap.size W w') := fun W h => printed_any W (Grd.Tab.next hT h)
  have HC : Hid (∀ W, Below w.heap.size w W → Calls Tryd.prog 8 #[.agg (scrA s (.slice ca s.cs.length cc) (.slice ta s.tabs.length tc) (.slice ga s.gone.length gc))] W fun e w' => e = .returned (.int .i64 0) ∧ Below W.heap.size W w') := fun W h => by
    have := putCheck_any s _ _ _ W (Grd.Tab.next hT h) (hV.next h) hF
    rw [right_err hR] at this
    exact this
  have HCM : Hid (∀ W, Below w.heap.size w W → Came w W s _ _ _) := fun W h => ⟨Grd.Tab.next hT h, hV, h, hF⟩
  have HTB : Hid (∀ W, Below w.heap.size w W → Txt.Tab W) := fun W h => Grd.Tab.next hT h
  have HRR : Hid (RightS s N H) := hR
  have HFF : Hid (Fits s) := hF
  have HX0 : Hid _ := x0
  have HKB : Hid _ := kb
  have ew := hR.w
  have eh := hR.h
  have v1 := hR.n1
  have v2 := hR.n2
  have v3 := hR.h1
  have v4 := hR.h2
  have v5 := hR.x0
  have v6 := hR.x1
  have v7 := hR.y0
  have v8 := hR.y1
  have HEW : Hid (s.w = N ∧ s.h = H) := ⟨ew, eh⟩
  have w1 : 1 ≤ s.w := by omega
  have w2 : s.w ≤ 120 := by omega
  have w3 : 1 ≤ s.h := by omega
  have w4 : s.h ≤ 60 := by omega
  have w5 : s.x < s.w := by omega
  have w6 : s.y < s.h := by omega
  clear x0 kb hT hV hF hR ew eh v1 v2 v3 v4 v6 v8
  go_enter Tryd.func4, Tryd.ntmps4
  go_wp2_with fail
  refine (HP.out _ HKB.out).mono ?_
  rintro e W1 ⟨rfl, b1⟩
  have HB1 : Hid (Below w.heap.size w W1) := HKB.out.trans (b1.mono HKB.out.size)
  have HX1 : Hid (W1.heap[w.heap.size]? = _) := Grd.carry HX0.out b1
  clear b1
  go_wp2_with (refine BigFrame.wpList_want rfl fun K hK => wp_load_row 32 (.tmp 4) rfl w.heap.size rfl _ _ _ _ HX1.out Tryd.underlying32 rfl (by kernel_rfl) (hK _ _ ?_))
  refine (HC.out _ HB1.out).mono ?_
  rintro e W2 ⟨rfl, b2⟩
  have HB2 : Hid (Below w.heap.size w W2) := HB1.out.trans (b2.mono HB1.out.size)
  have HX2 : Hid (W2.heap[w.heap.size]? = _) := Grd.carry HX1.out b2
  clear b2 HX0 HKB HB1 HX1
  go_upto_region 3 with fail
  go_cut [34] from 15 to 34 (fun c wx => c = .bool (roomB s n) ∧ wx = W2)
  case first =>
    obtain ⟨⟨c0, -, -, c3, -⟩, -, -⟩ := scr_cells HX2.out
    have hwr : IntKind.i64.wrap (s.w - s.x) = s.w - s.x := wrap_id _ (by omega) (by omega)
    go_wp2_with fail
    all_goals go_meet
    all_goals refine ⟨congrArg Value.bool ?_, rfl⟩
    all_goals (unfold roomB; rw [Bool.eq_iff_iff]; simp; try omega)
  case rest =>
    obtain ⟨rfl, rfl⟩ := hcut
    go_upto_if 34 with fail
    go_cut [] from 15 to 75 (fun wx => Below w.heap.size w wx ∧ wx.heap[w.heap.size]? = some (.cells (scrA s (.slice ca s.cs.length cc) (.slice ta s.tabs.length tc) (.slice ga s.gone.length gc)) 32 (0, 0)))
    case first =>
      cases hb : roomB s n with
      | false =>
        go_wp2_with fail
        go_meet
        exact ⟨HB2.out, HX2.out⟩
      | true =>
        have hrm : 1 ≤ n ∧ n < s.w - s.x := by simpa [roomB] using hb
        obtain ⟨r1, r2⟩ := hrm
        have ec : cnt n = n := by unfold cnt withinI; omega
        have HRT := right_any (HCM.out _ HB2.out) HRR.out n
        rw [ec] at HRT
        obtain ⟨sa, hsa⟩ : ∃ sa, sa = movedS s (s.x + n) s.y := ⟨_, rfl⟩
        have ea : sa.x = s.x + n ∧ sa.y = s.y ∧ sa.w = s.w ∧ sa.h = s.h := by
          rw [hsa]
          unfold movedS withinI
          exact ⟨by simp only; omega, by simp only; omega, rfl, rfl⟩
        have hRa : RightS sa N H := by rw [hsa]; exact moved_right HRR.out _ _
        have hFa : Fits sa := by rw [hsa]; exact moved_fits HFF.out _ _
        rw [← hsa] at HRT
        have HEA : Hid (sa.x = s.x + n ∧ sa.y = s.y ∧ sa.w = s.w ∧ sa.h = s.h) := ea
        have HRA : Hid (RightS sa N H) := hRa
        have HFA : Hid (Fits sa) := hFa
        clear hb hsa ea hRa hFa
        go_wp2_with (refine wpList_load_row rfl 32 (.tmp 4) rfl w.heap.size rfl _ _ _ _ HX2.out Tryd.underlying32 rfl (by kernel_rfl) ?_)
        refine HRT.mono ?_
        rintro e V1 ⟨cv', tv', gv', rfl, hO, c1'⟩
        obtain ⟨a1, n1, c1, a2, n2, c2, a3, n3, c3, rfl, rfl, rfl⟩ := hO.shapes
        have hbV : Below w.heap.size w V1 := HB2.out.trans (c1'.mono HB2.out.size)
        obtain ⟨k1, k2, k3, k4⟩ := kept_in hO hbV
        have HK1 : Hid _ := k1
        have HK2 : Hid (ScrV V1 sa _ _ _) := k2
        have HK3 : Hid _ := k3
        have HK4 : Hid _ := k4
        have HX3 : Hid _ := Grd.carry (Grd.carry HX2.out c1') k3
        have HSN : Hid _ := store_new V1
        clear HRT hO c1' hbV k1 k2 k3 k4
        go_upto_region 5 with (refine wpList_store_row rfl 32 (.tmp 9) _ rfl V1.heap.size (scrA sa (.slice a1 n1 c1) (.slice a2 n2 c2) (.slice a3 n3 c3)) rfl rfl _ _ HSN.out (by kernel_rfl) rfl (scr_one _ _ _ _ _ _ _ _ _ _) ?_)
        clear HSN
        generalize ((V1.alloc (.cells #[.int .i64 0, .int .i64 0, .slice none 0 0, .int .i64 0, .int .i64 0, .bool false, .int .i64 0, .int .i64 0, .int .i64 0, .int .i64 0, .int .i64 0, .int .i64 0, .slice none 0 0, .int .i64 0, .int .i64 0, .int .i64 0, .int .i64 0, .int .i64 0, .int .i64 0, .int .i32 0, .string ⟨#[]⟩, .slice none 0 0] 32)).setRow V1.heap.size (scrA sa (.slice a1 n1 c1) (.slice a2 n2 c2) (.slice a3 n3 c3))) = Y at *
        have HLT := left_any (w0 := V1) (w := Y) ⟨HTB.out _ HK4.out, HK2.out, HK3.out, HFA.out⟩ HRA.out n
        rw [ec] at HLT
        obtain ⟨sb, hsb⟩ : ∃ sb, sb = movedS sa (sa.x - n) sa.y := ⟨_, rfl⟩
        have eb : sb.x = s.x ∧ sb.y = s.y := by
          obtain ⟨e1, e2, e3, e4⟩ := HEA.out
          rw [hsb]
          unfold movedS withinI
          exact ⟨by simp only; omega, by simp only; omega⟩
        rw [← hsb] at HLT
        have HEB : Hid (sb.x = s.x ∧ sb.y = s.y) := eb
        clear hsb eb
        go_wp2_with (refine wpList_load_row rfl 32 (.tmp 9) rfl V1.heap.size rfl _ _ _ _ HK1.out Tryd.underlying32 rfl (by kernel_rfl) ?_)
        refine HLT.mono ?_
        rintro e V2 ⟨cv', tv', gv', rfl, hO, c1'⟩
        obtain ⟨a4, n4, c4, a5, n5, c5, a6, n6, c6, rfl, rfl, rfl⟩ := hO.shapes
        have hbV : Below w.heap.size w V2 := HK4.out.trans (c1'.mono HK4.out.size)
        obtain ⟨k1, -, k3, k4⟩ := kept_in hO hbV
        have HL1 : Hid _ := k1
        have HL4 : Hid _ := k4
        have HX4 : Hid _ := Grd.carry (Grd.carry HX3.out c1') k3
        have HK5 : Hid _ := Grd.carry (Grd.carry HK1.out c1') k3
        have HSN : Hid _ := store_new V2
        clear HLT hO c1' hbV k1 k3 k4
        go_upto_region 6 with (refine wpList_store_row rfl 32 (.tmp 11) _ rfl V2.heap.size (scrA sb (.slice a4 n4 c4) (.slice a5 n5 c5) (.slice a6 n6 c6)) rfl rfl _ _ HSN.out (by kernel_rfl) rfl (scr_one _ _ _ _ _ _ _ _ _ _) ?_)
        clear HSN
        generalize ((V2.alloc (.cells #[.int .i64 0, .int .i64 0, .slice none 0 0, .int .i64 0, .int .i64 0, .bool false, .int .i64 0, .int .i64 0, .int .i64 0, .int .i64 0, .int .i64 0, .int .i64 0, .slice none 0 0, .int .i64 0, .int .i64 0, .int .i64 0, .int .i64 0, .int .i64 0, .int .i64 0, .int .i32 0, .string ⟨#[]⟩, .slice none 0 0] 32)).setRow V2.heap.size (scrA sb (.slice a4 n4 c4) (.slice a5 n5 c5) (.slice a6 n6 c6))) = Y2 at *
        obtain ⟨⟨-, -, -, s3, s4, -⟩, -, -⟩ := scr_cells HX4.out
        obtain ⟨⟨-, -, -, t3, t4, -⟩, -, -⟩ := scr_cells HL1.out
        obtain ⟨⟨-, -, -, q3, -⟩, -, -⟩ := scr_cells HK5.out
        rw [HEB.out.1] at t3
        rw [HEB.out.2] at t4
        rw [HEA.out.1] at q3
        have hwr : IntKind.i64.wrap (s.x + n) = s.x + n := wrap_id _ (by omega) (by omega)
        go_wp2_with fail
        go_meet
        exact ⟨HL4.out, HX4.out⟩
    case rest =>
      obtain ⟨hb3, hx3⟩ := hcut
      have HB3 : Hid (Below w.heap.size w wc) := hb3
      have HX3 : Hid (wc.heap[w.heap.size]? = _) := hx3
      have HTO := to_any (HCM.out _ hb3) HRR.out y x
      obtain ⟨sz, hsz⟩ : ∃ sz, sz = movedS s (cnt x - 1) (rowTo s y) := ⟨_, rfl⟩
      rw [← hsz] at HTO
      have ez : sz.w = s.w ∧ sz.h = s.h ∧ sz.cs = s.cs ∧ sz.x = withinI (cnt x - 1) 0 (s.w - 1) ∧ sz.y = withinI (rowTo s y) 0 (s.h - 1) := by rw [hsz]; exact ⟨rfl, rfl, rfl, rfl, rfl⟩
      have HEZ : Hid _ := ez
      clear hb3 hx3 hsz ez HB2 HX2
      go_wp2_with (refine wpList_load_row rfl 32 (.tmp 4) rfl w.heap.size rfl _ _ _ _ HX3.out Tryd.underlying32 rfl (by kernel_rfl) ?_)
      refine HTO.mono ?_
      rintro e V1 ⟨cv', tv', gv', rfl, hO, c1'⟩
      obtain ⟨a1, n1, c1, a2, n2, c2, a3, n3, c3, rfl, rfl, rfl⟩ := hO.shapes
      have hbV : Below w.heap.size w V1 := HB3.out.trans (c1'.mono HB3.out.size)
      obtain ⟨k1, k2, k3, k4⟩ := kept_in hO hbV
      have HK1 : Hid _ := k1
      have HK2 : Hid (ScrV _ sz _ _ _) := k2.next k3
      have HK4 : Hid _ := k4
      have HX4 : Hid _ := Grd.carry (Grd.carry HX3.out c1') k3
      have HSN : Hid _ := store_new V1
      clear HTO hO c1' hbV k1 k2 k3 k4 HX3 HB3
      go_upto_region 9 with (refine wpList_store_row rfl 32 (.tmp 13) _ rfl V1.heap.size (scrA sz (.slice a1 n1 c1) (.slice a2 n2 c2) (.slice a3 n3 c3)) rfl rfl _ _ HSN.out (by kernel_rfl) rfl (scr_one _ _ _ _ _ _ _ _ _ _) ?_)
      clear HSN
      generalize ((V1.alloc (.cells #[.int .i64 0, .int .i64 0, .slice none 0 0, .int .i64 0, .int .i64 0, .bool false, .int .i64 0, .int .i64 0, .int .i64 0, .int .i64 0, .int .i64 0, .int .i64 0, .slice none 0 0, .int .i64 0, .int .i64 0, .int .i64 0, .int .i64 0, .int .i64 0, .int .i64 0, .int .i32 0, .string ⟨#[]⟩, .slice none 0 0] 32)).setRow V1.heap.size (scrA sz (.slice a1 n1 c1) (.slice a2 n2 c2) (.slice a3 n3 c3))) = Y at *
      go_upto_region 11 with fail
      go_cut [110] from 15 to 110 (fun c wx => c = .bool (thereB s y x) ∧ wx = Y)
      case first =>
        obtain ⟨⟨c0, c1', -⟩, ⟨c11, -⟩, -⟩ := scr_cells HX4.out
        go_wp2_with fail
        all_goals go_meet
        all_goals refine ⟨congrArg Value.bool ?_, rfl⟩
        all_goals (unfold thereB; rw [Bool.eq_iff_iff]; simp; try omega)
      case rest =>
        obtain ⟨rfl, rfl⟩ := hcut
        cases ht : thereB s y x with
        | true =>
          have h : bits .and .i64 s.modes 2 = 0 ∧ 1 ≤ y ∧ y ≤ s.h ∧ 1 ≤ x ∧ x ≤ s.w := by simpa [thereB] using ht
          obtain ⟨h1, h2, h3, h4, h5⟩ := h
          have hb2 : hasB s.modes 2 = false := by unfold hasB; rw [h1]; rfl
          have e1 : sz.x = x - 1 := by rw [HEZ.out.2.2.2.1]; unfold cnt withinI; omega
          have e2 : sz.y = y - 1 := by rw [HEZ.out.2.2.2.2]; unfold rowTo; rw [hb2, if_neg (by simp)]; unfold cnt withinI; omega
          obtain ⟨⟨-, -, -, d3, d4, -⟩, -, -⟩ := scr_cells HK1.out
          rw [e1] at d3
          rw [e2] at d4
          have q1 : IntKind.i64.wrap (x - 1) = x - 1 := wrap_id _ (by omega) (by omega)
          have q2 : IntKind.i64.wrap (y - 1) = y - 1 := wrap_id _ (by omega) (by omega)
          clear h1 ht
          go_wp2_with fail
          go_ret
          exact ⟨rfl, HK4.out⟩
        | false =>
          obtain ⟨⟨d0, d1, d2, -⟩, -, -⟩ := scr_cells HK1.out
          obtain ⟨⟨c0, c1', c2', -⟩, -, -⟩ := scr_cells HX4.out
          rw [HEZ.out.1] at d0
          rw [HEZ.out.2.1] at d1
          have hc1 := HK2.out.c
          rw [HEZ.out.2.2.1] at hc1
          have HSG := Grd.same_any_big s.w s.h _ _ s.cs _ hc1 ((HCM.out _ HK4.out).v.c.below HK4.out) (by have := HRR.out.cl; have := Nat.mul_le_mul HRR.out.n2 HRR.out.h2; omega)
          go_wp2_with fail
          refine HSG.mono ?_
          rintro e V2 ⟨rfl, b4⟩
          have HB5 : Hid (Below w.heap.size w V2) := HK4.out.trans (b4.mono HK4.out.size)
          clear HSG b4
          go_wp2_with fail
          go_ret
          exact ⟨rfl, HB5.out⟩
theorem moveBack_walk (s : Scr) (cv tv gv : Value) (n y x : Int) (w : World) (hT : Txt.Tab w) (hV : ScrV w s cv tv gv) (hF : Fits s) :
    Calls Tryd.prog 4 #[.agg (scrA s cv tv gv), .int .i64 n, .int .i64 y, .int .i64 x] w fun e w' => e = .returned (.bool true) ∧ Below w.heap.size w w' := by
  by_cases hz : scrErr s = 0
  · obtain ⟨N, H, hR⟩ := right_of s hz
    exact moveBack_good s cv tv gv n y x w hT hV hF N H hR
  · exact moveBack_bad s cv tv gv n y x w hT hV hF hz
end Put
end Go.Proofs.YtdnglbgdoemejaaDoor
