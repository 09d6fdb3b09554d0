/- put.New where there is no such size; the reference's NewScreen. -/
import Derived.Test.YtnkeahfcpbepjaaDoorPartG
import Derived.Test.YtnkeahfcpbepjaaDoorPartJ
import Derived.Test.YtnkeahfcpbepjaaDoorPartF
import Derived.Test.YtnkeahfcpbepjaaDoorPartI
import Derived.Test.YtnkeahfcpbepjaaDoorPartD
namespace Go.Proofs.YtnkeahfcpbepjaaDoor
open Go.ChangeShapes Go.WideShapes Go.ChangeAt Go.RowKit
namespace Put
open Grd (C SliceAt CellsAt gridErr z0 nilV isSize OwnG flat)
set_option maxHeartbeats 4000000 in
set_option maxRecDepth 100000 in
theorem new_bad' (a h : Int) (w : World) (hs : isSize a h = false) : Calls Tryd.prog 10 #[.int .i64 a, .int .i64 h] w (Made w w zScr 3) := by
  have HN : Hid (∀ W, Calls Tryd.prog 40 #[.int .i64 a, .int .i64 h] W fun e w' => e = .returned (.tuple #[.agg #[.int .i64 0, .int .i64 0, .slice none 0 0], .int .i64 3]) ∧ Below W.heap.size W w') := fun W => Grd.new_bad a h W hs
  have hx0 := heap_alloc_new w (.cells #[.int .i64 0, .int .i64 0, .slice none 0 0, .int .i64 0, .int .i64 0, .bool false, .int .i64 0, .int .i64 0, .int .i64 0, .int .i64 0, .int .i64 0, .int .i64 0, .slice none 0 0, .int .i64 0, .int .i64 0, .int .i64 0, .int .i64 0, .int .i64 0, .int .i64 0, .int .i32 0, .string ⟨#[]⟩, .slice none 0 0] 32)
  have kb : Below w.heap.size w (w.alloc (.cells #[.int .i64 0, .int .i64 0, .slice none 0 0, .int .i64 0, .int .i64 0, .bool false, .int .i64 0, .int .i64 0, .int .i64 0, .int .i64 0, .int .i64 0, .int .i64 0, .slice none 0 0, .int .i64 0, .int .i64 0, .int .i64 0, .int .i64 0, .int .i64 0, .int .i64 0, .int .i32 0, .string ⟨#[]⟩, .slice none 0 0] 32)) := (Below.refl _ _).alloc (Nat.le_refl _) _
  have HX0 : Hid _ := hx0
  have HKB : Hid _ := kb
  clear hs hx0 kb
  go_enter Tryd.func10, Tryd.ntmps10
  go_wp2_with fail
  refine (HN.out _).mono ?_
  rintro e W1 ⟨rfl, b1⟩
  have hb1 : Below w.heap.size w W1 := HKB.out.trans (b1.mono HKB.out.size)
  have bg : Below W1.heap.size W1 (W1.alloc (.cells #[.int .i64 0, .int .i64 0, .slice none 0 0] 24)) := (Below.refl _ _).alloc (Nat.le_refl _) _
  have HX2 : Hid ((W1.alloc (.cells #[.int .i64 0, .int .i64 0, .slice none 0 0] 24)).heap[w.heap.size]? = _) := Grd.carry (Grd.carry HX0.out b1) bg
  have HB2 : Hid (Below w.heap.size w (W1.alloc (.cells #[.int .i64 0, .int .i64 0, .slice none 0 0] 24))) := hb1.trans (bg.mono hb1.size)
  clear b1 hb1 bg
  go_wp2_with (refine wpList_store_row rfl 32 (.tmp 4) (.tmp 18) rfl w.heap.size (scrA zScr (.slice none 0 0) (.slice none 0 0) (.slice none 0 0)) rfl rfl _ _ HX2.out (by kernel_rfl) rfl (scr_one zScr _ _ _ _ _ _ _ _ _) ?_)
  (try simp only [Exit.inBlock, Exit.then])
  refine bodyPost_ret (v := .tuple #[.agg (scrA zScr (.slice none 0 0) (.slice none 0 0) (.slice none 0 0)), .int .i64 3]) ?_ rfl ⟨_, _, _, rfl, zScr_own _ _ _, below_setRow HB2.out (Nat.le_refl _) _⟩
  exact Grd.results_row_tmp rfl _ _ w.heap.size _ _ _ _ rfl (setRow_heap _ _ _ _ _ _ HX2.out) Tryd.underlying32 rfl (by kernel_rfl) _ rfl
theorem newTabs_len (n : Nat) : (newTabs n).length = n := by simp [newTabs]
theorem newTabs_next (n k : Nat) (h : k < n) : (newTabs n).take (k + 1) = (newTabs n).take k ++ [decide (0 < k ∧ k % 8 = 0)] := by
  rw [take_next (newTabs n) k false (by rw [newTabs_len]; exact h)]
  have e : (newTabs n).getD k false = decide (0 < k ∧ k % 8 = 0) := by simp [newTabs, List.getD, h]
  rw [e]
theorem build_new2_run (W : World) (a b y : Int) (q : Option Addr) (l c : Nat) : (Instr.build 32 #[(0, .agg #[.int .i64 a, .int .i64 b, .slice q l c]), (6, .int .i64 y), (7, .int .i64 4), (9, .agg #[.int .i64 0, .int .i64 0, .int .i64 0, .int .i64 0, .int .i64 0, .int .i64 4])]).run Tryd.prog W = .ok (.agg (scrA (preScr a b y) (.slice q l c) (.slice none 0 0) (.slice none 0 0))) W := by kernel_rfl
theorem build_new2 (a : Act) (dst : Option Tmp) (x y z : Operand) (ty : TypeId) (pos : String) (after : Array Edge) (guard : Option (Nat × Bool)) (W : World) (hx : IsGridV (a.eval x)) (hy : IsIntV (a.eval y)) (hz : IsKeptV (a.eval z)) :
    (execOp a.eval { dst, op := .build 32 #[(0, x), (6, y), (7, Operand.const (.int .i64 4)), (9, z)], type := ty, pos, after, guard }).run Tryd.prog W = .ok (.value (.agg (newArr (a.eval x) (a.eval y) (.slice none 0 0)))) W := by
  obtain ⟨a1, b1, q, l, c, hx⟩ := hx
  obtain ⟨y1, hy⟩ := hy
  unfold IsKeptV at hz
  have e4 : a.eval (Operand.const (.int .i64 4)) = .int .i64 4 := rfl
  unfold execOp
  simp only [List.map_toArray, List.map_cons, List.map_nil, hx, hy, hz, e4, newArr_scr, Sem.run_bind, build_new2_run, Sem.run_pure, Result.andThen_ok]
section
attribute [local go_sem ↓] build_new2
attribute [local go_sem] isGridV isIntV isKeptV newArr_scr
set_option maxHeartbeats 4000000 in
set_option maxRecDepth 100000 in
theorem newScreen_own (n hh : Nat) (w : World) (hs : isSize n hh = true) : Calls Tryd.prog 17 #[.int .i64 (n : Int), .int .i64 (hh : Int)] w fun e W' => ∃ cv' tv' gv', e = .returned (.agg (scrA (newScr n hh) cv' tv' gv')) ∧ gv' = .slice none 0 0 ∧ Grd.OwnG W' w.heap.size cv' (newScr n hh).cs ∧ W'.ownsRow w.heap.size 4 1 tv' (newScr n hh).tabs.length ((newScr n hh).tabs.map Value.bool) ∧ Below w.heap.size w W' := by
  have hsz : 1 ≤ (n : Int) ∧ (n : Int) ≤ 120 ∧ 1 ≤ (hh : Int) ∧ (hh : Int) ≤ 60 := by simpa [Grd.isSize] using hs
  obtain ⟨w1, w2, w3, w4⟩ := hsz
  have HN : Hid (∀ W, Calls Tryd.prog 56 #[.int .i64 (n : Int), .int .i64 (hh : Int)] W fun e w' => ∃ v, e = .returned (.agg #[.int .i64 (n : Int), .int .i64 (hh : Int), v]) ∧ OwnG w' W.heap.size v (List.replicate (n * hh) (32, 0, 0, 0)) ∧ Below W.heap.size W w') := fun W => by
    have h := Grd.newGrid_any (n : Int) (hh : Int) W hs
    have e : ((n : Int) * (hh : Int)).toNat = n * hh := by rw [← Int.natCast_mul, Int.toNat_natCast]
    rw [e] at h
    exact h
  obtain ⟨i0, hi, hzz⟩ := Option.map_eq_some_iff.1 info_bool
  simp only [Prod.mk.injEq] at hzz
  obtain ⟨hz0, hz1, hz2⟩ := hzz
  have hx0 := heap_alloc_new w (.cells #[.int .i64 0, .int .i64 0, .slice none 0 0, .int .i64 0, .int .i64 0, .bool false, .int .i64 0, .int .i64 0, .int .i64 0, .int .i64 0, .int .i64 0, .int .i64 0, .slice none 0 0, .int .i64 0, .int .i64 0, .int .i64 0, .int .i64 0, .int .i64 0, .int .i64 0, .int .i32 0, .string ⟨#[]⟩, .slice none 0 0] 32)
  have kb : Below w.heap.size w (w.alloc (.cells #[.int .i64 0, .int .i64 0, .slice none 0 0, .int .i64 0, .int .i64 0, .bool false, .int .i64 0, .int .i64 0, .int .i64 0, .int .i64 0, .int .i64 0, .int .i64 0, .slice none 0 0, .int .i64 0, .int .i64 0, .int .i64 0, .int .i64 0, .int .i64 0, .int .i64 0, .int .i32 0, .string ⟨#[]⟩, .slice none 0 0] 32)) := (Below.refl _ _).alloc (Nat.le_refl _) _
  have HX0 : Hid _ := hx0
  have HKB : Hid _ := kb
  have hwr : IntKind.i64.wrap ((hh : Int) - 1) = (hh : Int) - 1 := by rw [IntKind.wrap_i64]; omega
  clear hs hx0 kb
  go_enter Tryd.func17, Tryd.ntmps17
  go_wp2_with fail
  refine (HN.out _).mono ?_
  rintro e W1 ⟨v, rfl, ho, b1⟩
  obtain ⟨g, cap, rest, ⟨t, ht⟩, hv, hg1, hcap1, hcap2, hgh⟩ := ho
  subst ht
  obtain ⟨L, hL⟩ : ∃ L, L = List.replicate (n * hh) ((32, 0, 0, 0) : C) := ⟨_, rfl⟩
  rw [← hL] at hv hcap1 hgh
  subst hv
  have HLL : Hid (L = List.replicate (n * hh) (32, 0, 0, 0)) := hL
  have HRB : Hid (Grd.RowB W1 g (.slice (some ⟨g, 0, none⟩) L.length cap) L) := ⟨cap, rest, rfl, hcap1, hcap2, hgh⟩
  have hb1 : Below w.heap.size w W1 := HKB.out.trans (b1.mono HKB.out.size)
  have hX1 := Grd.carry HX0.out b1
  have hg0 : w.heap.size < g := by simp at hg1; omega
  have hgl := heap_lt hgh
  have HA : Hid ((W1.alloc (.cells #[.int .i64 0, .int .i64 0, .slice none 0 0, .int .i64 0, .int .i64 0, .bool false, .int .i64 0, .int .i64 0, .int .i64 0, .int .i64 0, .int .i64 0, .int .i64 0, .slice none 0 0, .int .i64 0, .int .i64 0, .int .i64 0, .int .i64 0, .int .i64 0, .int .i64 0, .int .i32 0, .string ⟨#[]⟩, .slice none 0 0] 32)).heap[W1.heap.size]? = some (.cells #[.int .i64 0, .int .i64 0, .slice none 0 0, .int .i64 0, .int .i64 0, .bool false, .int .i64 0, .int .i64 0, .int .i64 0, .int .i64 0, .int .i64 0, .int .i64 0, .slice none 0 0, .int .i64 0, .int .i64 0, .int .i64 0, .int .i64 0, .int .i64 0, .int .i64 0, .int .i32 0, .string ⟨#[]⟩, .slice none 0 0] 32 (0, 0))) := heap_alloc_new _ _
  have h1 : Below W1.heap.size W1 ((W1.alloc (.cells #[.int .i64 0, .int .i64 0, .slice none 0 0, .int .i64 0, .int .i64 0, .bool false, .int .i64 0, .int .i64 0, .int .i64 0, .int .i64 0, .int .i64 0, .int .i64 0, .slice none 0 0, .int .i64 0, .int .i64 0, .int .i64 0, .int .i64 0, .int .i64 0, .int .i64 0, .int .i32 0, .string ⟨#[]⟩, .slice none 0 0] 32)).setRow W1.heap.size (scrA (preScr (n : Int) (hh : Int) ((hh : Int) - 1)) (.slice (some ⟨g, 0, none⟩) L.length cap) (.slice none 0 0) (.slice none 0 0))) := below_setRow ((Below.refl _ _).alloc (Nat.le_refl _) _) (Nat.le_refl _) _
  have HY1 : Hid (((W1.alloc (.cells #[.int .i64 0, .int .i64 0, .slice none 0 0, .int .i64 0, .int .i64 0, .bool false, .int .i64 0, .int .i64 0, .int .i64 0, .int .i64 0, .int .i64 0, .int .i64 0, .slice none 0 0, .int .i64 0, .int .i64 0, .int .i64 0, .int .i64 0, .int .i64 0, .int .i64 0, .int .i32 0, .string ⟨#[]⟩, .slice none 0 0] 32)).setRow W1.heap.size (scrA (preScr (n : Int) (hh : Int) ((hh : Int) - 1)) (.slice (some ⟨g, 0, none⟩) L.length cap) (.slice none 0 0) (.slice none 0 0))).heap[W1.heap.size]? = some (.cells (scrA (preScr (n : Int) (hh : Int) ((hh : Int) - 1)) (.slice (some ⟨g, 0, none⟩) L.length cap) (.slice none 0 0) (.slice none 0 0)) 32 (0, 0))) := setRow_heap _ _ _ _ _ _ (heap_alloc_new W1 _)
  have HY0 : Hid (((W1.alloc (.cells #[.int .i64 0, .int .i64 0, .slice none 0 0, .int .i64 0, .int .i64 0, .bool false, .int .i64 0, .int .i64 0, .int .i64 0, .int .i64 0, .int .i64 0, .int .i64 0, .slice none 0 0, .int .i64 0, .int .i64 0, .int .i64 0, .int .i64 0, .int .i64 0, .int .i64 0, .int .i32 0, .string ⟨#[]⟩, .slice none 0 0] 32)).setRow W1.heap.size (scrA (preScr (n : Int) (hh : Int) ((hh : Int) - 1)) (.slice (some ⟨g, 0, none⟩) L.length cap) (.slice none 0 0) (.slice none 0 0))).heap[w.heap.size]? = _) := Grd.carry hX1 h1
  have HRB2 : Hid (Grd.RowB ((W1.alloc (.cells #[.int .i64 0, .int .i64 0, .slice none 0 0, .int .i64 0, .int .i64 0, .bool false, .int .i64 0, .int .i64 0, .int .i64 0, .int .i64 0, .int .i64 0, .int .i64 0, .slice none 0 0, .int .i64 0, .int .i64 0, .int .i64 0, .int .i64 0, .int .i64 0, .int .i64 0, .int .i32 0, .string ⟨#[]⟩, .slice none 0 0] 32)).setRow W1.heap.size (scrA (preScr (n : Int) (hh : Int) ((hh : Int) - 1)) (.slice (some ⟨g, 0, none⟩) L.length cap) (.slice none 0 0) (.slice none 0 0))) g (.slice (some ⟨g, 0, none⟩) L.length cap) L) := HRB.out.below h1
  have HBY : Hid (Below w.heap.size w ((W1.alloc (.cells #[.int .i64 0, .int .i64 0, .slice none 0 0, .int .i64 0, .int .i64 0, .bool false, .int .i64 0, .int .i64 0, .int .i64 0, .int .i64 0, .int .i64 0, .int .i64 0, .slice none 0 0, .int .i64 0, .int .i64 0, .int .i64 0, .int .i64 0, .int .i64 0, .int .i64 0, .int .i32 0, .string ⟨#[]⟩, .slice none 0 0] 32)).setRow W1.heap.size (scrA (preScr (n : Int) (hh : Int) ((hh : Int) - 1)) (.slice (some ⟨g, 0, none⟩) L.length cap) (.slice none 0 0) (.slice none 0 0)))) := hb1.trans (h1.mono hb1.size)
  have hw1 := hb1.size
  have hw0 := heap_lt hX1
  clear b1 hX1 h1 HRB hgh hL hb1
  go_upto_region 2 with (refine wpList_store_row rfl 32 (.tmp 5) _ rfl W1.heap.size (scrA (preScr (n : Int) (hh : Int) ((hh : Int) - 1)) (.slice (some ⟨g, 0, none⟩) L.length cap) (.slice none 0 0) (.slice none 0 0)) rfl rfl _ _ HA.out (by kernel_rfl) rfl (scr_one _ _ _ _ _ _ _ _ _ _) ?_)
  clear HA
  generalize ((W1.alloc (.cells #[.int .i64 0, .int .i64 0, .slice none 0 0, .int .i64 0, .int .i64 0, .bool false, .int .i64 0, .int .i64 0, .int .i64 0, .int .i64 0, .int .i64 0, .int .i64 0, .slice none 0 0, .int .i64 0, .int .i64 0, .int .i64 0, .int .i64 0, .int .i64 0, .int .i64 0, .int .i32 0, .string ⟨#[]⟩, .slice none 0 0] 32)).setRow W1.heap.size (scrA (preScr (n : Int) (hh : Int) ((hh : Int) - 1)) (.slice (some ⟨g, 0, none⟩) L.length cap) (.slice none 0 0) (.slice none 0 0))) = X at *
  go_wp2_with fail
  go_loopg [15] n (fun q i wr => ∃ (k : Nat) (tv : Value), i = .int .i64 (k : Int) ∧ k ≤ n ∧ n - k ≤ q ∧ wr.heap[W1.heap.size]? = some (.cells (scrA (preScr (n : Int) (hh : Int) ((hh : Int) - 1)) (.slice (some ⟨g, 0, none⟩) L.length cap) tv (.slice none 0 0)) 32 (0, 0)) ∧ wr.heap[w.heap.size]? = some (.cells #[.int .i64 0, .int .i64 0, .slice none 0 0, .int .i64 0, .int .i64 0, .bool false, .int .i64 0, .int .i64 0, .int .i64 0, .int .i64 0, .int .i64 0, .int .i64 0, .slice none 0 0, .int .i64 0, .int .i64 0, .int .i64 0, .int .i64 0, .int .i64 0, .int .i64 0, .int .i32 0, .string ⟨#[]⟩, .slice none 0 0] 32 (0, 0)) ∧ Grd.RowB wr g (.slice (some ⟨g, 0, none⟩) L.length cap) L ∧ wr.ownsRow (W1.heap.size + 1) 4 1 tv k (((newTabs n).take k).map Value.bool) ∧ Below w.heap.size w wr)
  case atStart => exact ⟨0, .slice none 0 0, rfl, by omega, by omega, HY1.out, HY0.out, HRB2.out, by rw [List.take_zero]; exact World.ownsRow_nil _ _ _ _, HBY.out⟩
  case round =>
    clear HY1 HY0 HRB2 HBY
    obtain ⟨k, tv, rfl, hk, hq, hy1, hy0, hrb, hown, hb⟩ := hrel
    obtain ⟨ta, tc, rfl⟩ := own_slice hown
    have HY1 : Hid (wr.heap[W1.heap.size]? = _) := hy1
    have HY0 : Hid (wr.heap[w.heap.size]? = _) := hy0
    have HRB : Hid (Grd.RowB wr g _ L) := hrb
    have HO : Hid (wr.ownsRow (W1.heap.size + 1) 4 1 _ k _) := hown
    have HB : Hid (Below w.heap.size w wr) := hb
    have hN := heap_lt hy1
    clear hy0 hrb hown hb
    by_cases hlt : k < n
    · have lt1 : ((k : Int) < (n : Int)) := by omega
      have c12 := (scr_cells hy1).2.1.2.1
      have HNX : Hid ((newTabs n).take (k + 1) = (newTabs n).take k ++ [decide (0 < k ∧ k % 8 = 0)]) := newTabs_next n k hlt
      obtain ⟨bb, hbb⟩ : ∃ bb, bb = decide (0 < k ∧ k % 8 = 0) := ⟨_, rfl⟩
      have HBB : Hid (bb = decide (0 < k ∧ k % 8 = 0)) := hbb
      clear hy1 hbb
      by_cases k0 : 0 < k
      · have k1 : (0 : Int) < (k : Int) := by omega
        have hmod : IntKind.i64.wrap ((k : Int) % 8) = (k : Int) % 8 := by rw [IntKind.wrap_i64]; omega
        have HM : Hid (((k : Int) % 8 == 0) = bb) := by
          unfold Hid
          rw [HBB.out, Bool.eq_iff_iff]
          simp
          omega
        have hm := HM.out
        go_wp2_with (at_builtin; refine Hid.out ?_)
        unfold Hid
        refine wpList_append_own _ rfl _ _ 27 rfl (W1.heap.size + 1) 4 i0 (.bool false) 1 1 und_bools hi hz0 hz1 hz2 rfl (by decide) _ _ _ rfl (HO.out.alloc _) ⟨wr.heap.size, 0, none⟩ 1 1 [.bool bb] rfl rfl (cell_one_new _ _ _) (by intro u hu; simp at hu; rw [hu]; rfl) (by unfold maxLen; omega) (by omega) (by simp; omega) ?_
        intro v3 W3 hown3 hgrow hnil
        obtain ⟨ta3, tc3, rfl⟩ := own_slice hown3
        have kZ : Below wr.heap.size wr (wr.alloc (.cells #[.bool bb] 4)) := (Below.refl _ _).alloc (Nat.le_refl _) _
        have hfrom := Grd.own_from HO.out
        have hA3 : W3.heap[W1.heap.size]? = _ := (hgrow.block _ (by simp; omega) (fun e => by have := hfrom _ e.symm; omega)).trans (Grd.carry HY1.out kZ)
        have hB3 : W3.heap[w.heap.size]? = _ := (hgrow.block _ (by simp; omega) (fun e => by have := hfrom _ e.symm; omega)).trans (Grd.carry HY0.out kZ)
        have hR3 : Grd.RowB W3 g (.slice (some ⟨g, 0, none⟩) L.length cap) L := by
          obtain ⟨cap', rest', q0, q1, q2, q3⟩ := HRB.out
          exact ⟨cap', rest', q0, q1, q2, (hgrow.block _ (by have := heap_lt q3; simp; omega) (fun e => by have := hfrom _ e.symm; omega)).trans (Grd.carry q3 kZ)⟩
        have hBB3 : Below w.heap.size w W3 := (HB.out.alloc HB.out.size _).grown hgrow (by have := HB.out.size; simp; omega) (fun q hq => by have := hfrom q hq; omega)
        have f12 := (scr_cells hA3).2.2 12
        have d12 := (scr_cells hA3).2.1.2.1
        have HZ1 : Hid ((W3.setCell ⟨W1.heap.size, 12, none⟩ (.slice ta3 (k + 1) tc3)).heap[W1.heap.size]? = some (.cells (scrA (preScr (n : Int) (hh : Int) ((hh : Int) - 1)) (.slice (some ⟨g, 0, none⟩) L.length cap) (.slice ta3 (k + 1) tc3) (.slice none 0 0)) 32 (0, 0))) := store_at hA3 rfl
        have HZ0 : Hid ((W3.setCell ⟨W1.heap.size, 12, none⟩ (.slice ta3 (k + 1) tc3)).heap[w.heap.size]? = _) := (store_off (by omega)).trans hB3
        have HZR : Hid (Grd.RowB (W3.setCell ⟨W1.heap.size, 12, none⟩ (.slice ta3 (k + 1) tc3)) g (.slice (some ⟨g, 0, none⟩) L.length cap) L) := by
          obtain ⟨cap', rest', q0, q1, q2, q3⟩ := hR3
          exact ⟨cap', rest', q0, q1, q2, (store_off (by omega)).trans q3⟩
        have HZO : Hid ((W3.setCell ⟨W1.heap.size, 12, none⟩ (.slice ta3 (k + 1) tc3)).ownsRow (W1.heap.size + 1) 4 1 (.slice ta3 (k + 1) tc3) (k + 1) (((newTabs n).take (k + 1)).map Value.bool)) := by
          unfold Hid
          have h4 := own_off (i := 12) (v := .slice ta3 (k + 1) tc3) hown3 hA3 (by decide)
          rw [HNX.out, List.map_append, ← HBB.out, List.map_singleton]
          exact h4
        have HZB : Hid (Below w.heap.size w (W3.setCell ⟨W1.heap.size, 12, none⟩ (.slice ta3 (k + 1) tc3))) := hBB3.setCell hw1 _
        clear hA3 hB3 hR3 hBB3 kZ hown3 hgrow hnil c12
        go_wp2_with fail
        go_roundg (n - (k + 1))
        case measure => omega
        case rel => exact ⟨k + 1, _, by go_num, by omega, by omega, HZ1.out, HZ0.out, HZR.out, HZO.out, HZB.out⟩
      · have k1 : ¬ (0 : Int) < (k : Int) := by omega
        have HM : Hid (false = bb) := by
          unfold Hid
          rw [HBB.out]
          simp
          omega
        go_wp2_with (at_builtin; refine Hid.out ?_)
        unfold Hid
        refine wpList_append_own _ rfl _ _ 27 rfl (W1.heap.size + 1) 4 i0 (.bool false) 1 1 und_bools hi hz0 hz1 hz2 rfl (by decide) _ _ _ rfl (HO.out.alloc _) ⟨wr.heap.size, 0, none⟩ 1 1 [.bool false] rfl rfl (cell_one_new _ _ _) (by intro u hu; simp at hu; rw [hu]; rfl) (by unfold maxLen; omega) (by omega) (by simp; omega) ?_
        intro v3 W3 hown3 hgrow hnil
        obtain ⟨ta3, tc3, rfl⟩ := own_slice hown3
        have kZ : Below wr.heap.size wr (wr.alloc (.cells #[.bool false] 4)) := (Below.refl _ _).alloc (Nat.le_refl _) _
        have hfrom := Grd.own_from HO.out
        have hA3 : W3.heap[W1.heap.size]? = _ := (hgrow.block _ (by simp; omega) (fun e => by have := hfrom _ e.symm; omega)).trans (Grd.carry HY1.out kZ)
        have hB3 : W3.heap[w.heap.size]? = _ := (hgrow.block _ (by simp; omega) (fun e => by have := hfrom _ e.symm; omega)).trans (Grd.carry HY0.out kZ)
        have hR3 : Grd.RowB W3 g (.slice (some ⟨g, 0, none⟩) L.length cap) L := by
          obtain ⟨cap', rest', q0, q1, q2, q3⟩ := HRB.out
          exact ⟨cap', rest', q0, q1, q2, (hgrow.block _ (by have := heap_lt q3; simp; omega) (fun e => by have := hfrom _ e.symm; omega)).trans (Grd.carry q3 kZ)⟩
        have hBB3 : Below w.heap.size w W3 := (HB.out.alloc HB.out.size _).grown hgrow (by have := HB.out.size; simp; omega) (fun q hq => by have := hfrom q hq; omega)
        have f12 := (scr_cells hA3).2.2 12
        have d12 := (scr_cells hA3).2.1.2.1
        have HZ1 : Hid ((W3.setCell ⟨W1.heap.size, 12, none⟩ (.slice ta3 (k + 1) tc3)).heap[W1.heap.size]? = some (.cells (scrA (preScr (n : Int) (hh : Int) ((hh : Int) - 1)) (.slice (some ⟨g, 0, none⟩) L.length cap) (.slice ta3 (k + 1) tc3) (.slice none 0 0)) 32 (0, 0))) := store_at hA3 rfl
        have HZ0 : Hid ((W3.setCell ⟨W1.heap.size, 12, none⟩ (.slice ta3 (k + 1) tc3)).heap[w.heap.size]? = _) := (store_off (by omega)).trans hB3
        have HZR : Hid (Grd.RowB (W3.setCell ⟨W1.heap.size, 12, none⟩ (.slice ta3 (k + 1) tc3)) g (.slice (some ⟨g, 0, none⟩) L.length cap) L) := by
          obtain ⟨cap', rest', q0, q1, q2, q3⟩ := hR3
          exact ⟨cap', rest', q0, q1, q2, (store_off (by omega)).trans q3⟩
        have HZO : Hid ((W3.setCell ⟨W1.heap.size, 12, none⟩ (.slice ta3 (k + 1) tc3)).ownsRow (W1.heap.size + 1) 4 1 (.slice ta3 (k + 1) tc3) (k + 1) (((newTabs n).take (k + 1)).map Value.bool)) := by
          unfold Hid
          have h4 := own_off (i := 12) (v := .slice ta3 (k + 1) tc3) hown3 hA3 (by decide)
          rw [HNX.out, List.map_append, ← HBB.out, ← HM.out, List.map_singleton]
          exact h4
        have HZB : Hid (Below w.heap.size w (W3.setCell ⟨W1.heap.size, 12, none⟩ (.slice ta3 (k + 1) tc3))) := hBB3.setCell hw1 _
        clear hA3 hB3 hR3 hBB3 kZ hown3 hgrow hnil c12
        go_wp2_with fail
        go_roundg (n - (k + 1))
        case measure => omega
        case rel => exact ⟨k + 1, _, by go_num, by omega, by omega, HZ1.out, HZ0.out, HZR.out, HZO.out, HZB.out⟩
    · have lt1 : ¬ ((k : Int) < (n : Int)) := by omega
      have hkn : k = n := by omega
      subst hkn
      clear hy1
      go_wp2_with (first
        | (refine wpList_load_row rfl 32 (.tmp 5) rfl W1.heap.size rfl _ _ _ _ HY1.out Tryd.underlying32 rfl (by kernel_rfl) ?_)
        | (refine wpList_store_row rfl 32 (.tmp 4) _ rfl w.heap.size (scrA (preScr (k : Int) (hh : Int) ((hh : Int) - 1)) (.slice (some ⟨g, 0, none⟩) L.length cap) (.slice ta k tc) (.slice none 0 0)) rfl rfl _ _ HY0.out (by kernel_rfl) rfl (scr_one _ _ _ _ _ _ _ _ _ _) ?_))
      (try simp only [Exit.inBlock, Exit.then])
      have hO := HO.out
      rw [List.take_of_length_le (by rw [newTabs_len]; exact Nat.le_refl _)] at hO
      have hO2 := owns_kept (w' := wr.setRow w.heap.size (scrA (preScr (k : Int) (hh : Int) ((hh : Int) - 1)) (.slice (some ⟨g, 0, none⟩) L.length cap) (.slice ta k tc) (.slice none 0 0))) hO fun q hq => setRow_other _ _ _ _ (by have := (owns_block hO q hq).1; omega)
      refine bodyPost_ret (v := .agg (scrA (preScr (k : Int) (hh : Int) ((hh : Int) - 1)) (.slice (some ⟨g, 0, none⟩) L.length cap) (.slice ta k tc) (.slice none 0 0))) ?_ rfl ⟨.slice (some ⟨g, 0, none⟩) L.length cap, .slice ta k tc, .slice none 0 0, rfl, rfl, ?_, ?_, below_setRow HB.out (Nat.le_refl _) _⟩
      · exact results_cell_row rfl _ _ w.heap.size _ _ _ _ rfl (setRow_heap _ _ _ _ _ _ HY0.out) Tryd.underlying32 rfl (by kernel_rfl)
      · show Grd.OwnG _ _ _ (List.replicate (k * hh) (32, 0, 0, 0))
        rw [← HLL.out]
        obtain ⟨cap', rest', h0, h1, h2, h3⟩ := HRB.out
        exact ⟨g, cap', rest', ⟨_, rfl⟩, h0, by omega, h1, h2, (setRow_other _ _ _ _ (by omega)).trans h3⟩
      · show World.ownsRow _ _ _ _ _ (newTabs k).length _
        rw [newTabs_len]
        exact Grd.ownsRow_mono hO2 (by omega)
end
theorem newScreen_any (n hh : Nat) (w : World) (hs : isSize n hh = true) : Calls Tryd.prog 17 #[.int .i64 (n : Int), .int .i64 (hh : Int)] w fun e W' => ∃ cv' tv' gv', e = .returned (.agg (scrA (newScr n hh) cv' tv' gv')) ∧ ScrV W' (newScr n hh) cv' tv' gv' ∧ Below w.heap.size w W' := by
  refine (newScreen_own n hh w hs).mono ?_
  rintro e W' ⟨cv', tv', gv', rfl, rfl, h1, h2, h3⟩
  have hC : OwnC W' w.heap.size cv' (newScr n hh).cs := .inr h1
  exact ⟨_, _, _, rfl, ⟨hC.cells, own_boolsV h2, .inl ⟨rfl, none, 0, rfl⟩⟩, h3⟩
end Put
end Go.Proofs.YtnkeahfcpbepjaaDoor

/- trellislaw.noScreen. -/
namespace Go.Proofs.YtnkeahfcpbepjaaDoor
open Go.ChangeShapes Go.WideShapes Go.ChangeAt Go.RowKit
namespace Put
theorem zScr_v' (W : World) : ScrV W zScr (.slice none 0 0) (.slice none 0 0) (.slice none 0 0) := ⟨.inl ⟨rfl, none, 0, rfl⟩, .inl ⟨rfl, none, 0, rfl⟩, .inl ⟨rfl, none, 0, rfl⟩⟩
theorem zScr_small' : Small zScr := ⟨by simp [zScr], by simp [zScr], by simp [zScr], by simp [zScr]⟩
set_option maxHeartbeats 2000000 in
set_option maxRecDepth 100000 in
theorem noScreen_any' (cv tv gv : Value) (w : World) (hV : ScrV w zScr cv tv gv) : Calls Tryd.prog 15 #[.agg (scrA zScr cv tv gv)] w fun e w' => e = .returned (.bool true) ∧ Below w.heap.size w w' := by
  have x0 := heap_alloc_new w (.cells (scrA zScr cv tv gv) 32)
  have kb : Below w.heap.size w (w.alloc (.cells (scrA zScr cv tv gv) 32)) := (Below.refl _ _).alloc (Nat.le_refl _) _
  have HX0 : Hid _ := x0
  have HKB : Hid _ := kb
  have HS := sameScreen_any zScr cv tv gv (.slice none 0 0) (.slice none 0 0) (.slice none 0 0) _ (hV.next kb) (zScr_v' _) zScr_small'
  clear x0 kb hV
  go_enter Tryd.func15, Tryd.ntmps15
  go_wp2_with (refine wpList_load_row rfl 32 (.tmp 1) rfl w.heap.size rfl _ _ _ _ HX0.out Tryd.underlying32 rfl (by kernel_rfl) ?_)
  refine HS.mono ?_
  rintro e W1 ⟨rfl, b1⟩
  have HB1 : Hid (Below w.heap.size w W1) := HKB.out.trans (b1.mono HKB.out.size)
  clear b1 HS
  go_wp2_with fail
  go_ret
  exact ⟨rfl, HB1.out⟩
end Put
end Go.Proofs.YtnkeahfcpbepjaaDoor

/- The walk of the reference's CheckGrid. -/
namespace Go.Proofs.YtnkeahfcpbepjaaDoor
open Go.ChangeShapes Go.WideShapes Go.ChangeAt Go.RowKit
namespace Grd
open Txt (wd)
open Sty (isSt)
theorem isStyle_to (f b x : Int) (v : Bool) (h : isSt (f, b, x) = v) (w : World) : Calls Tryd.prog 50 #[.agg #[.int .i64 f, .int .i64 b, .int .i64 x]] w fun e w' => e = .returned (.bool v) ∧ Below w.heap.size w w' := by
  have := Sty.isStyle_any f b x w
  rwa [h] at this
theorem size_false (a b : Int) (h : isSize a b = false) : (a < 1 ∨ 120 < a) ∨ (b < 1 ∨ 60 < b) := by
  unfold isSize at h
  have := of_decide_eq_false h
  omega
set_option maxHeartbeats 1000000 in
theorem ref_size1 (a b : Int) (v : Value) (w : World) (h : isSize a b = false) :
    Calls Tryd.prog 48 #[.agg #[.int .i64 a, .int .i64 b, v]] w fun e w' => e = .returned (.int .i64 3) ∧ Below w.heap.size w w' := by
  rcases size_false a b h with (h1 | h1) | h2
  · go_enter Tryd.func48, Tryd.ntmps48
    go_wp2_with fail
    go_ret
    exact ⟨rfl, (Below.refl _ _).alloc (Nat.le_refl _) _⟩
  · have h1' : 1 ≤ a := by omega
    go_enter Tryd.func48, Tryd.ntmps48
    go_wp2_with fail
    go_ret
    exact ⟨rfl, (Below.refl _ _).alloc (Nat.le_refl _) _⟩
  · by_cases ha : 1 ≤ a ∧ a ≤ 120
    · obtain ⟨ha1, ha2⟩ := ha
      rcases h2 with h2 | h2
      · go_enter Tryd.func48, Tryd.ntmps48
        go_wp2_with fail
        go_ret
        exact ⟨rfl, (Below.refl _ _).alloc (Nat.le_refl _) _⟩
      · have h2' : 1 ≤ b := by omega
        go_enter Tryd.func48, Tryd.ntmps48
        go_wp2_with fail
        go_ret
        exact ⟨rfl, (Below.refl _ _).alloc (Nat.le_refl _) _⟩
    · by_cases h1 : a < 1
      · clear h2 ha
        go_enter Tryd.func48, Tryd.ntmps48
        go_wp2_with fail
        go_ret
        exact ⟨rfl, (Below.refl _ _).alloc (Nat.le_refl _) _⟩
      · have h1' : 1 ≤ a := by omega
        have h1'' : 120 < a := by omega
        clear h2 ha
        go_enter Tryd.func48, Tryd.ntmps48
        go_wp2_with fail
        go_ret
        exact ⟨rfl, (Below.refl _ _).alloc (Nat.le_refl _) _⟩
set_option maxHeartbeats 1000000 in
theorem ref_size2 (a b : Int) (ad : Option Addr) (L c : Nat) (w : World) (h : isSize a b = true) (hL : (L : Int) ≠ a * b) :
    Calls Tryd.prog 48 #[.agg #[.int .i64 a, .int .i64 b, .slice ad L c]] w fun e w' => e = .returned (.int .i64 3) ∧ Below w.heap.size w w' := by
  have ⟨p0, p1, p2, p3, p4, p5⟩ := prod_in a b h
  clear h
  obtain ⟨p, hp⟩ : ∃ p, p = a * b := ⟨_, rfl⟩
  rw [← hp] at hL p0 p1
  have e1 : a * b = p := hp.symm
  clear hp
  have ne : ((L : Int) != p) = true := by simpa using hL
  clear hL
  go_enter Tryd.func48, Tryd.ntmps48
  go_wp2_with fail
  go_ret
  exact ⟨rfl, (Below.refl _ _).alloc (Nat.le_refl _) _⟩
set_option maxHeartbeats 4000000 in
set_option maxRecDepth 100000 in
theorem ref_rows (n hh : Nat) (b o c : Nat) (cs : List C) (w : World) (hC : CellsAt w b o cs) (hs : isSize n hh = true) (hL : cs.length = n * hh) :
    Calls Tryd.prog 48 #[.agg #[.int .i64 (n : Int), .int .i64 (hh : Int), .slice (some ⟨b, o, none⟩) cs.length c]] w fun e w' => e = .returned (.int .i64 (firstErr (cellR n cs) 0 (n * hh))) ∧ Below w.heap.size w w' := by
  have HC : Hid (CellsAt w b o cs) := hC
  have ⟨p0, p1, p2, p3, p4, p5⟩ := prod_in n hh hs
  clear hs hC
  have e1 : (n : Int) * (hh : Int) = (cs.length : Int) := by rw [hL]; simp
  have l1 : cs.length ≤ 7200 := by rw [hL]; omega
  have HMOD : Hid (∀ k, k < cs.length → ¬ k % n + 1 = n → k + 1 < cs.length) := fun k hk hl => by
    rcases Nat.lt_or_ge (k + 1) cs.length with h | h
    · exact h
    · exfalso
      apply hl
      have e : k + 1 = n * hh := by omega
      have hn1 : 1 ≤ n := by omega
      have hlt := Nat.mod_lt k (show 0 < n by omega)
      have h1 : (k + 1) % n = 0 := by rw [e]; exact Nat.mul_mod_right n hh
      rw [Nat.add_mod] at h1
      rcases Nat.lt_or_ge (k % n + 1) n with h2 | h2
      · rcases Nat.lt_or_ge 1 n with h3 | h3
        · rw [Nat.mod_eq_of_lt h3, Nat.mod_eq_of_lt h2] at h1
          omega
        · omega
      · omega
  rw [← hL]
  clear hL p0 p1
  have ne : ((cs.length : Int) != (cs.length : Int)) = false := by simp
  generalize hl : cs.length = L at *
  have HLn : Hid (cs.length = L) := hl
  clear hl
  go_enter Tryd.func48, Tryd.ntmps48
  go_wp2_with fail
  go_loopg [39] L (fun g i wr => ∃ k : Nat, i = .int .i64 (k : Int) ∧ k ≤ L ∧ L - k ≤ g ∧ Below w.heap.size w wr ∧ wr.heap[w.heap.size]? = some (.cells #[.int .i64 (n : Int), .int .i64 (hh : Int), .slice (some ⟨b, o, none⟩) L c] 24 (0, 0)) ∧ firstErr (cellR n cs) k (L - k) = firstErr (cellR n cs) 0 L)
  case atStart => exact ⟨0, rfl, by omega, by omega, (Below.refl _ _).alloc (Nat.le_refl _) _, heap_alloc_new _ _, rfl⟩
  case round =>
    obtain ⟨k, rfl, hk, hg, hb, hv, hf⟩ := hrel
    have HF1 : Hid (firstErr (cellR n cs) k (L - k) = firstErr (cellR n cs) 0 L) := hf
    clear hf
    have ⟨g0, g1, g2, _⟩ := cells3 hv
    by_cases hlt : k < L
    · have HST : Hid (firstErr (cellR n cs) k (L - k) = if cellR n cs k = 0 then firstErr (cellR n cs) (k + 1) (L - (k + 1)) else cellR n cs k) := first_step (cellR n cs) k L hlt
      have lt1 : ((k : Int) < (L : Int)) := by omega
      obtain ⟨t0, t1, t2, t3⟩ := HC.out.below hb k (by rw [HLn.out]; exact hlt)
      have HCW : Hid (CellsAt wr b o cs) := HC.out.below hb
      rcases hcc : cs.getD k z0 with ⟨r, f, bk, xx⟩
      rw [hcc] at t0 t1 t2 t3
      dsimp only at t0 t1 t2 t3
      have HCC : Hid (cs.getD k z0 = (r, f, bk, xx)) := hcc
      clear hcc
      have ⟨c0, c1, c2, c3⟩ := cells4_new wr 63 (.int .i32 r) (.int .i64 f) (.int .i64 bk) (.int .i64 xx)
      have kb : Below wr.heap.size wr (wr.alloc (.cells #[.int .i32 r, .int .i64 f, .int .i64 bk, .int .i64 xx] 63)) := (Below.refl _ _).alloc (Nat.le_refl _) _
      have g0' := cell_keep kb g0
      have g1' := cell_keep kb g1
      have g2' := cell_keep kb g2
      by_cases hr : r = 0
      · cases hs : isSt (f, bk, xx) with
        | false =>
          have HZ : cellR n cs k = 4 := by unfold cellR; rw [HCC.out]; dsimp only; rw [if_pos (Or.inr hs)]
          have HV : Hid ((4 : Int) = firstErr (cellR n cs) 0 L) := by unfold Hid; rw [← HF1.out, HST.out, HZ, if_neg (by decide)]
          subst hr
          have HW : Hid (wd 0 = 0) := wd0
          have HS : Hid (isSt (f, bk, xx) = false) := hs
          clear hs HZ
          go_wp2_with (first | (go_at_call 51; refine (widthOf_to 0 _ 0 HW.out).mono ?_; rintro e W1 ⟨rfl, b1⟩; have d0 := cell_keep b1 c0; have d1 := cell_keep b1 c1; have d2 := cell_keep b1 c2; have d3 := cell_keep b1 c3; have G0 := cell_keep b1 g0'; have G1 := cell_keep b1 g1'; have G2 := cell_keep b1 g2'; have kw1 : Below wr.heap.size wr W1 := kb.trans (b1.mono kb.size)) | (go_at_call 50; refine (isStyle_to f bk xx _ HS.out _).mono ?_; rintro e W2 ⟨rfl, b2⟩; have e0 := cell_keep b2 d0; have e1 := cell_keep b2 d1; have e2 := cell_keep b2 d2; have e3 := cell_keep b2 d3; have E0 := cell_keep b2 G0; have E1 := cell_keep b2 G1; have E2 := cell_keep b2 G2; have kw2 : Below wr.heap.size wr W2 := kw1.trans (b2.mono kw1.size)))
          go_ret
          exact ⟨Txt.ret_int HV.out, hb.trans (kw2.mono hb.size)⟩
        | true =>
          by_cases hx0 : k % n = 0
          · have HZ : cellR n cs k = 5 := by unfold cellR; rw [HCC.out]; dsimp only; rw [if_neg (by simp [hr, hs])]; rw [if_pos ⟨hr, Or.inl hx0⟩]
            have HV : Hid ((5 : Int) = firstErr (cellR n cs) 0 L) := by unfold Hid; rw [← HF1.out, HST.out, HZ, if_neg (by decide)]
            subst hr
            have HW : Hid (wd 0 = 0) := wd0
            have nx : ((k : Int) % (n : Int) == 0) = true := by rw [← Int.natCast_emod, hx0]; rfl
            have HS : Hid (isSt (f, bk, xx) = true) := hs
            clear hs HZ
            go_wp2_with (first | (go_at_call 51; refine (widthOf_to 0 _ 0 HW.out).mono ?_; rintro e W1 ⟨rfl, b1⟩; have d0 := cell_keep b1 c0; have d1 := cell_keep b1 c1; have d2 := cell_keep b1 c2; have d3 := cell_keep b1 c3; have G0 := cell_keep b1 g0'; have G1 := cell_keep b1 g1'; have G2 := cell_keep b1 g2'; have kw1 : Below wr.heap.size wr W1 := kb.trans (b1.mono kb.size)) | (go_at_call 50; refine (isStyle_to f bk xx _ HS.out _).mono ?_; rintro e W2 ⟨rfl, b2⟩; have e0 := cell_keep b2 d0; have e1 := cell_keep b2 d1; have e2 := cell_keep b2 d2; have e3 := cell_keep b2 d3; have E0 := cell_keep b2 G0; have E1 := cell_keep b2 G1; have E2 := cell_keep b2 G2; have kw2 : Below wr.heap.size wr W2 := kw1.trans (b2.mono kw1.size)))
            have y0 : ∀ d os, (Sort.grow (redrawn W2 d) os).cell? ⟨wr.heap.size, 0, none⟩ = some (.int .i32 0) := fun d os => cell_regrown e0 d os
            have y1 : ∀ d os, (Sort.grow (redrawn W2 d) os).cell? ⟨wr.heap.size, 1, none⟩ = some (.int .i64 f) := fun d os => cell_regrown e1 d os
            have y2 : ∀ d os, (Sort.grow (redrawn W2 d) os).cell? ⟨wr.heap.size, 2, none⟩ = some (.int .i64 bk) := fun d os => cell_regrown e2 d os
            have y3 : ∀ d os, (Sort.grow (redrawn W2 d) os).cell? ⟨wr.heap.size, 3, none⟩ = some (.int .i64 xx) := fun d os => cell_regrown e3 d os
            have z0 : ∀ d os, (Sort.grow (redrawn W2 d) os).cell? ⟨w.heap.size, 0, none⟩ = some (.int .i64 (n : Int)) := fun d os => cell_regrown E0 d os
            have z2 : ∀ d os, (Sort.grow (redrawn W2 d) os).cell? ⟨w.heap.size, 2, none⟩ = some (.slice (some ⟨b, o, none⟩) L c) := fun d os => cell_regrown E2 d os
            refine wp_region_quiet_below (by kernel_rfl) (by kernel_rfl) ?_
            repeat (first | go_big_quiet_skip | quiet_step (fail))
            refine wpQuiet_nil ?_
            intro _ hw'
            obtain ⟨⟨dq, os⟩, hw''⟩ := hw'
            subst hw''
            have b3 := below_regrown W2 dq os
            have kw3 : Below wr.heap.size wr (Sort.grow (redrawn W2 dq) os) := kw2.trans (b3.mono kw2.size)
            have F0 := cell_keep b3 E0
            have F2 := cell_keep b3 E2
            have N0 := fun (a : Addr) (v : Value) (h : wr.cell? a = some v) => cell_keep kw3 h
            clear y0 y1 y2 y3 z0 z2
            generalize Sort.grow (redrawn W2 dq) os = W3 at *
            go_wp2_with fail
            go_ret
            exact ⟨Txt.ret_int HV.out, hb.trans (kw3.mono hb.size)⟩
          · have hk0 : 0 < k := by
              rcases Nat.eq_zero_or_pos k with h | h
              · exact absurd (by rw [h]; simp) hx0
              · exact h
            obtain ⟨q0, q1, q2, q3⟩ := HCW.out (k - 1) (by rw [HLn.out]; omega)
            rcases hpp : cs.getD (k - 1) z0 with ⟨rp, fp, bp, xp⟩
            rw [hpp] at q0 q1 q2 q3
            dsimp only at q0 q1 q2 q3
            have nx : ((k : Int) % (n : Int) == 0) = false := by rw [← Int.natCast_emod]; simp only [beq_eq_false_iff_ne, ne_eq]; omega

            by_cases hp2 : wd rp = 2
            · by_cases hq : (fp, bp, xp) = (f, bk, xx)
              · have HZ : cellR n cs k = 0 := by unfold cellR; rw [HCC.out]; dsimp only; rw [if_neg (by simp [hr, hs])]; rw [if_neg (by rw [hpp]; simp [hx0, hp2, hq]), if_neg (by rw [hr, wd0]; simp)]
                have HV : Hid (firstErr (cellR n cs) (k + 1) (L - (k + 1)) = firstErr (cellR n cs) 0 L) := by unfold Hid; rw [← HF1.out, HST.out, if_pos HZ]
                subst hr
                have HW : Hid (wd 0 = 0) := wd0
                have HP : Hid (wd rp = 2) := hp2
                clear hp2
                have nq : ∀ w, (binOp .neq 26 (.agg #[.int .i64 fp, .int .i64 bp, .int .i64 xp]) (.agg #[.int .i64 f, .int .i64 bk, .int .i64 xx])).run Tryd.prog w = .ok (.bool false) w := fun w => by rw [Sty.neq_agg]; simp [hq]
                clear hq hpp
                have HS : Hid (isSt (f, bk, xx) = true) := hs
                clear hs HZ
                go_wp2_with (first | (go_at_call 51; refine (widthOf_to 0 _ 0 HW.out).mono ?_; rintro e W1 ⟨rfl, b1⟩; have d0 := cell_keep b1 c0; have d1 := cell_keep b1 c1; have d2 := cell_keep b1 c2; have d3 := cell_keep b1 c3; have G0 := cell_keep b1 g0'; have G1 := cell_keep b1 g1'; have G2 := cell_keep b1 g2'; have kw1 : Below wr.heap.size wr W1 := kb.trans (b1.mono kb.size)) | (go_at_call 50; refine (isStyle_to f bk xx _ HS.out _).mono ?_; rintro e W2 ⟨rfl, b2⟩; have e0 := cell_keep b2 d0; have e1 := cell_keep b2 d1; have e2 := cell_keep b2 d2; have e3 := cell_keep b2 d3; have E0 := cell_keep b2 G0; have E1 := cell_keep b2 G1; have E2 := cell_keep b2 G2; have kw2 : Below wr.heap.size wr W2 := kw1.trans (b2.mono kw1.size)))
                have y0 : ∀ d os, (Sort.grow (redrawn W2 d) os).cell? ⟨wr.heap.size, 0, none⟩ = some (.int .i32 0) := fun d os => cell_regrown e0 d os
                have y1 : ∀ d os, (Sort.grow (redrawn W2 d) os).cell? ⟨wr.heap.size, 1, none⟩ = some (.int .i64 f) := fun d os => cell_regrown e1 d os
                have y2 : ∀ d os, (Sort.grow (redrawn W2 d) os).cell? ⟨wr.heap.size, 2, none⟩ = some (.int .i64 bk) := fun d os => cell_regrown e2 d os
                have y3 : ∀ d os, (Sort.grow (redrawn W2 d) os).cell? ⟨wr.heap.size, 3, none⟩ = some (.int .i64 xx) := fun d os => cell_regrown e3 d os
                have z0 : ∀ d os, (Sort.grow (redrawn W2 d) os).cell? ⟨w.heap.size, 0, none⟩ = some (.int .i64 (n : Int)) := fun d os => cell_regrown E0 d os
                have z2 : ∀ d os, (Sort.grow (redrawn W2 d) os).cell? ⟨w.heap.size, 2, none⟩ = some (.slice (some ⟨b, o, none⟩) L c) := fun d os => cell_regrown E2 d os
                have u0 : ∀ d os, (Sort.grow (redrawn W2 d) os).cell? ⟨b, o + (k - 1) * 4, none⟩ = some (.int .i32 rp) := fun d os => cell_regrown (cell_keep kw2 q0) d os
                have u1 : ∀ d os, (Sort.grow (redrawn W2 d) os).cell? ⟨b, o + (k - 1) * 4 + 1, none⟩ = some (.int .i64 fp) := fun d os => cell_regrown (cell_keep kw2 q1) d os
                have u2 : ∀ d os, (Sort.grow (redrawn W2 d) os).cell? ⟨b, o + (k - 1) * 4 + 2, none⟩ = some (.int .i64 bp) := fun d os => cell_regrown (cell_keep kw2 q2) d os
                have u3 : ∀ d os, (Sort.grow (redrawn W2 d) os).cell? ⟨b, o + (k - 1) * 4 + 3, none⟩ = some (.int .i64 xp) := fun d os => cell_regrown (cell_keep kw2 q3) d os
                have hwr : IntKind.i64.wrap ((k : Int) - 1) = ((k - 1 : Nat) : Int) := by unfold IntKind.wrap; simp [IntKind.bits, IntKind.signed]; omega
                have hkp : k - 1 < L := by omega
                have K4 : Hid (∀ d os, Calls Tryd.prog 51 #[.int .i32 rp] (Sort.grow (redrawn W2 d) os) fun e w'' => e = .returned (.int .i64 2) ∧ ∃ p : Regrown, w'' = Sort.grow (redrawn W2 p.d) p.os) := fun d os => Calls.regrown_of (widthOf_to rp _ 2 HP.out)
                refine wp_region_quiet_below (by kernel_rfl) (by kernel_rfl) ?_
                repeat (first | go_big_quiet_skip | quiet_step (first | (go_at_call 51; exact K4.out _ _)))
                refine wpQuiet_nil ?_
                intro _ hw'
                obtain ⟨⟨dq, os⟩, hw''⟩ := hw'
                subst hw''
                have b3 := below_regrown W2 dq os
                have kw3 : Below wr.heap.size wr (Sort.grow (redrawn W2 dq) os) := kw2.trans (b3.mono kw2.size)
                have F0 := cell_keep b3 E0
                have F2 := cell_keep b3 E2
                have N0 := fun (a : Addr) (v : Value) (h : wr.cell? a = some v) => cell_keep kw3 h
                clear y0 y1 y2 y3 z0 z2 u0 u1 u2 u3
                generalize Sort.grow (redrawn W2 dq) os = W3 at *
                go_wp2_with fail
                go_roundg (L - (k + 1))
                case measure => omega
                case rel => exact ⟨k + 1, rfl, by omega, by omega, hb.trans (kw3.mono hb.size), carry hv kw3, HV.out⟩
              · have HZ : cellR n cs k = 5 := by unfold cellR; rw [HCC.out]; dsimp only; rw [if_neg (by simp [hr, hs])]; rw [if_pos ⟨hr, Or.inr (Or.inr (by rw [hpp]; exact hq))⟩]
                have HV : Hid ((5 : Int) = firstErr (cellR n cs) 0 L) := by unfold Hid; rw [← HF1.out, HST.out, HZ, if_neg (by decide)]
                subst hr
                have HW : Hid (wd 0 = 0) := wd0
                have HP : Hid (wd rp = 2) := hp2
                clear hp2
                have nq : ∀ w, (binOp .neq 26 (.agg #[.int .i64 fp, .int .i64 bp, .int .i64 xp]) (.agg #[.int .i64 f, .int .i64 bk, .int .i64 xx])).run Tryd.prog w = .ok (.bool true) w := fun w => by rw [Sty.neq_agg]; simp [hq]
                clear hq hpp
                have HS : Hid (isSt (f, bk, xx) = true) := hs
                clear hs HZ
                go_wp2_with (first | (go_at_call 51; refine (widthOf_to 0 _ 0 HW.out).mono ?_; rintro e W1 ⟨rfl, b1⟩; have d0 := cell_keep b1 c0; have d1 := cell_keep b1 c1; have d2 := cell_keep b1 c2; have d3 := cell_keep b1 c3; have G0 := cell_keep b1 g0'; have G1 := cell_keep b1 g1'; have G2 := cell_keep b1 g2'; have kw1 : Below wr.heap.size wr W1 := kb.trans (b1.mono kb.size)) | (go_at_call 50; refine (isStyle_to f bk xx _ HS.out _).mono ?_; rintro e W2 ⟨rfl, b2⟩; have e0 := cell_keep b2 d0; have e1 := cell_keep b2 d1; have e2 := cell_keep b2 d2; have e3 := cell_keep b2 d3; have E0 := cell_keep b2 G0; have E1 := cell_keep b2 G1; have E2 := cell_keep b2 G2; have kw2 : Below wr.heap.size wr W2 := kw1.trans (b2.mono kw1.size)))
                have y0 : ∀ d os, (Sort.grow (redrawn W2 d) os).cell? ⟨wr.heap.size, 0, none⟩ = some (.int .i32 0) := fun d os => cell_regrown e0 d os
                have y1 : ∀ d os, (Sort.grow (redrawn W2 d) os).cell? ⟨wr.heap.size, 1, none⟩ = some (.int .i64 f) := fun d os => cell_regrown e1 d os
                have y2 : ∀ d os, (Sort.grow (redrawn W2 d) os).cell? ⟨wr.heap.size, 2, none⟩ = some (.int .i64 bk) := fun d os => cell_regrown e2 d os
                have y3 : ∀ d os, (Sort.grow (redrawn W2 d) os).cell? ⟨wr.heap.size, 3, none⟩ = some (.int .i64 xx) := fun d os => cell_regrown e3 d os
                have z0 : ∀ d os, (Sort.grow (redrawn W2 d) os).cell? ⟨w.heap.size, 0, none⟩ = some (.int .i64 (n : Int)) := fun d os => cell_regrown E0 d os
                have z2 : ∀ d os, (Sort.grow (redrawn W2 d) os).cell? ⟨w.heap.size, 2, none⟩ = some (.slice (some ⟨b, o, none⟩) L c) := fun d os => cell_regrown E2 d os
                have u0 : ∀ d os, (Sort.grow (redrawn W2 d) os).cell? ⟨b, o + (k - 1) * 4, none⟩ = some (.int .i32 rp) := fun d os => cell_regrown (cell_keep kw2 q0) d os
                have u1 : ∀ d os, (Sort.grow (redrawn W2 d) os).cell? ⟨b, o + (k - 1) * 4 + 1, none⟩ = some (.int .i64 fp) := fun d os => cell_regrown (cell_keep kw2 q1) d os
                have u2 : ∀ d os, (Sort.grow (redrawn W2 d) os).cell? ⟨b, o + (k - 1) * 4 + 2, none⟩ = some (.int .i64 bp) := fun d os => cell_regrown (cell_keep kw2 q2) d os
                have u3 : ∀ d os, (Sort.grow (redrawn W2 d) os).cell? ⟨b, o + (k - 1) * 4 + 3, none⟩ = some (.int .i64 xp) := fun d os => cell_regrown (cell_keep kw2 q3) d os
                have hwr : IntKind.i64.wrap ((k : Int) - 1) = ((k - 1 : Nat) : Int) := by unfold IntKind.wrap; simp [IntKind.bits, IntKind.signed]; omega
                have hkp : k - 1 < L := by omega
                have K4 : Hid (∀ d os, Calls Tryd.prog 51 #[.int .i32 rp] (Sort.grow (redrawn W2 d) os) fun e w'' => e = .returned (.int .i64 2) ∧ ∃ p : Regrown, w'' = Sort.grow (redrawn W2 p.d) p.os) := fun d os => Calls.regrown_of (widthOf_to rp _ 2 HP.out)
                refine wp_region_quiet_below (by kernel_rfl) (by kernel_rfl) ?_
                repeat (first | go_big_quiet_skip | quiet_step (first | (go_at_call 51; exact K4.out _ _)))
                refine wpQuiet_nil ?_
                intro _ hw'
                obtain ⟨⟨dq, os⟩, hw''⟩ := hw'
                subst hw''
                have b3 := below_regrown W2 dq os
                have kw3 : Below wr.heap.size wr (Sort.grow (redrawn W2 dq) os) := kw2.trans (b3.mono kw2.size)
                have F0 := cell_keep b3 E0
                have F2 := cell_keep b3 E2
                have N0 := fun (a : Addr) (v : Value) (h : wr.cell? a = some v) => cell_keep kw3 h
                clear y0 y1 y2 y3 z0 z2 u0 u1 u2 u3
                generalize Sort.grow (redrawn W2 dq) os = W3 at *
                go_wp2_with fail
                go_ret
                exact ⟨Txt.ret_int HV.out, hb.trans (kw3.mono hb.size)⟩
            · have HZ : cellR n cs k = 5 := by unfold cellR; rw [HCC.out]; dsimp only; rw [if_neg (by simp [hr, hs])]; rw [if_pos ⟨hr, Or.inr (Or.inl (by rw [hpp]; exact hp2))⟩]
              have HV : Hid ((5 : Int) = firstErr (cellR n cs) 0 L) := by unfold Hid; rw [← HF1.out, HST.out, HZ, if_neg (by decide)]
              subst hr
              have HW : Hid (wd 0 = 0) := wd0
              have np : (wd rp != 2) = true := by simpa using hp2
              clear hpp
              have HS : Hid (isSt (f, bk, xx) = true) := hs
              clear hs HZ
              go_wp2_with (first | (go_at_call 51; refine (widthOf_to 0 _ 0 HW.out).mono ?_; rintro e W1 ⟨rfl, b1⟩; have d0 := cell_keep b1 c0; have d1 := cell_keep b1 c1; have d2 := cell_keep b1 c2; have d3 := cell_keep b1 c3; have G0 := cell_keep b1 g0'; have G1 := cell_keep b1 g1'; have G2 := cell_keep b1 g2'; have kw1 : Below wr.heap.size wr W1 := kb.trans (b1.mono kb.size)) | (go_at_call 50; refine (isStyle_to f bk xx _ HS.out _).mono ?_; rintro e W2 ⟨rfl, b2⟩; have e0 := cell_keep b2 d0; have e1 := cell_keep b2 d1; have e2 := cell_keep b2 d2; have e3 := cell_keep b2 d3; have E0 := cell_keep b2 G0; have E1 := cell_keep b2 G1; have E2 := cell_keep b2 G2; have kw2 : Below wr.heap.size wr W2 := kw1.trans (b2.mono kw1.size)))
              have y0 : ∀ d os, (Sort.grow (redrawn W2 d) os).cell? ⟨wr.heap.size, 0, none⟩ = some (.int .i32 0) := fun d os => cell_regrown e0 d os
              have y1 : ∀ d os, (Sort.grow (redrawn W2 d) os).cell? ⟨wr.heap.size, 1, none⟩ = some (.int .i64 f) := fun d os => cell_regrown e1 d os
              have y2 : ∀ d os, (Sort.grow (redrawn W2 d) os).cell? ⟨wr.heap.size, 2, none⟩ = some (.int .i64 bk) := fun d os => cell_regrown e2 d os
              have y3 : ∀ d os, (Sort.grow (redrawn W2 d) os).cell? ⟨wr.heap.size, 3, none⟩ = some (.int .i64 xx) := fun d os => cell_regrown e3 d os
              have z0 : ∀ d os, (Sort.grow (redrawn W2 d) os).cell? ⟨w.heap.size, 0, none⟩ = some (.int .i64 (n : Int)) := fun d os => cell_regrown E0 d os
              have z2 : ∀ d os, (Sort.grow (redrawn W2 d) os).cell? ⟨w.heap.size, 2, none⟩ = some (.slice (some ⟨b, o, none⟩) L c) := fun d os => cell_regrown E2 d os
              have u0 : ∀ d os, (Sort.grow (redrawn W2 d) os).cell? ⟨b, o + (k - 1) * 4, none⟩ = some (.int .i32 rp) := fun d os => cell_regrown (cell_keep kw2 q0) d os
              have u1 : ∀ d os, (Sort.grow (redrawn W2 d) os).cell? ⟨b, o + (k - 1) * 4 + 1, none⟩ = some (.int .i64 fp) := fun d os => cell_regrown (cell_keep kw2 q1) d os
              have u2 : ∀ d os, (Sort.grow (redrawn W2 d) os).cell? ⟨b, o + (k - 1) * 4 + 2, none⟩ = some (.int .i64 bp) := fun d os => cell_regrown (cell_keep kw2 q2) d os
              have u3 : ∀ d os, (Sort.grow (redrawn W2 d) os).cell? ⟨b, o + (k - 1) * 4 + 3, none⟩ = some (.int .i64 xp) := fun d os => cell_regrown (cell_keep kw2 q3) d os
              have hwr : IntKind.i64.wrap ((k : Int) - 1) = ((k - 1 : Nat) : Int) := by unfold IntKind.wrap; simp [IntKind.bits, IntKind.signed]; omega
              have hkp : k - 1 < L := by omega
              have K4 : Hid (∀ d os, Calls Tryd.prog 51 #[.int .i32 rp] (Sort.grow (redrawn W2 d) os) fun e w'' => e = .returned (.int .i64 (wd rp)) ∧ ∃ p : Regrown, w'' = Sort.grow (redrawn W2 p.d) p.os) := fun d os => Calls.regrown_of (Txt.widthOf_any rp _)
              refine wp_region_quiet_below (by kernel_rfl) (by kernel_rfl) ?_
              repeat (first | go_big_quiet_skip | quiet_step (first | (go_at_call 51; exact K4.out _ _)))
              refine wpQuiet_nil ?_
              intro _ hw'
              obtain ⟨⟨dq, os⟩, hw''⟩ := hw'
              subst hw''
              have b3 := below_regrown W2 dq os
              have kw3 : Below wr.heap.size wr (Sort.grow (redrawn W2 dq) os) := kw2.trans (b3.mono kw2.size)
              have F0 := cell_keep b3 E0
              have F2 := cell_keep b3 E2
              have N0 := fun (a : Addr) (v : Value) (h : wr.cell? a = some v) => cell_keep kw3 h
              clear y0 y1 y2 y3 z0 z2 u0 u1 u2 u3
              generalize Sort.grow (redrawn W2 dq) os = W3 at *
              go_wp2_with fail
              go_ret
              exact ⟨Txt.ret_int HV.out, hb.trans (kw3.mono hb.size)⟩
      · by_cases hw : wd r = 0
        · have HZ : cellR n cs k = 4 := by unfold cellR; rw [HCC.out]; dsimp only; rw [if_pos (Or.inl ⟨hr, hw⟩)]
          have HV : Hid ((4 : Int) = firstErr (cellR n cs) 0 L) := by unfold Hid; rw [← HF1.out, HST.out, HZ, if_neg (by decide)]
          have nr : (r != 0) = true := by simpa using hr
          have nr' : (r == 0) = false := by simpa using hr
          have HW : Hid (wd r = 0) := hw
          clear hw HZ
          go_wp2_with (go_at_call 51; refine (widthOf_to r _ 0 HW.out).mono ?_; rintro e W1 ⟨rfl, b1⟩; have d0 := cell_keep b1 c0; have d1 := cell_keep b1 c1; have d2 := cell_keep b1 c2; have d3 := cell_keep b1 c3; have G0 := cell_keep b1 g0'; have G1 := cell_keep b1 g1'; have G2 := cell_keep b1 g2'; have kw1 : Below wr.heap.size wr W1 := kb.trans (b1.mono kb.size))
          go_ret
          exact ⟨Txt.ret_int HV.out, hb.trans (kw1.mono hb.size)⟩
        · cases hs : isSt (f, bk, xx) with
          | false =>
            have HZ : cellR n cs k = 4 := by unfold cellR; rw [HCC.out]; dsimp only; rw [if_pos (Or.inr hs)]
            have HV : Hid ((4 : Int) = firstErr (cellR n cs) 0 L) := by unfold Hid; rw [← HF1.out, HST.out, HZ, if_neg (by decide)]
            have nr : (r != 0) = true := by simpa using hr
            have nr' : (r == 0) = false := by simpa using hr
            have HW : Hid (wd r = wd r) := rfl
            have nw : (wd r == 0) = false := by simpa using hw
            have HS : Hid (isSt (f, bk, xx) = false) := hs
            clear hs HZ
            go_wp2_with (first | (go_at_call 51; refine (widthOf_to r _ _ HW.out).mono ?_; rintro e W1 ⟨rfl, b1⟩; have d0 := cell_keep b1 c0; have d1 := cell_keep b1 c1; have d2 := cell_keep b1 c2; have d3 := cell_keep b1 c3; have G0 := cell_keep b1 g0'; have G1 := cell_keep b1 g1'; have G2 := cell_keep b1 g2'; have kw1 : Below wr.heap.size wr W1 := kb.trans (b1.mono kb.size)) | (go_at_call 50; refine (isStyle_to f bk xx _ HS.out _).mono ?_; rintro e W2 ⟨rfl, b2⟩; have e0 := cell_keep b2 d0; have e1 := cell_keep b2 d1; have e2 := cell_keep b2 d2; have e3 := cell_keep b2 d3; have E0 := cell_keep b2 G0; have E1 := cell_keep b2 G1; have E2 := cell_keep b2 G2; have kw2 : Below wr.heap.size wr W2 := kw1.trans (b2.mono kw1.size)))
            go_ret
            exact ⟨Txt.ret_int HV.out, hb.trans (kw2.mono hb.size)⟩
          | true =>
            by_cases h2 : wd r = 2
            · by_cases hl : k % n + 1 = n
              · have HZ : cellR n cs k = 5 := by unfold cellR; rw [HCC.out]; dsimp only; rw [if_neg (by simp [hw, hs])]; rw [if_neg (by simp [hr]), if_pos ⟨h2, Or.inl hl⟩]
                have HV : Hid ((5 : Int) = firstErr (cellR n cs) 0 L) := by unfold Hid; rw [← HF1.out, HST.out, HZ, if_neg (by decide)]
                have nr : (r != 0) = true := by simpa using hr
                have nr' : (r == 0) = false := by simpa using hr
                have HW : Hid (wd r = 2) := h2
                clear h2 hw
                have nl : ((k : Int) % (n : Int) == (n : Int) - 1) = true := by rw [← Int.natCast_emod]; simp only [beq_iff_eq]; omega
                have HS : Hid (isSt (f, bk, xx) = true) := hs
                clear hs HZ
                go_wp2_with (first | (go_at_call 51; refine (widthOf_to r _ 2 HW.out).mono ?_; rintro e W1 ⟨rfl, b1⟩; have d0 := cell_keep b1 c0; have d1 := cell_keep b1 c1; have d2 := cell_keep b1 c2; have d3 := cell_keep b1 c3; have G0 := cell_keep b1 g0'; have G1 := cell_keep b1 g1'; have G2 := cell_keep b1 g2'; have kw1 : Below wr.heap.size wr W1 := kb.trans (b1.mono kb.size)) | (go_at_call 50; refine (isStyle_to f bk xx _ HS.out _).mono ?_; rintro e W2 ⟨rfl, b2⟩; have e0 := cell_keep b2 d0; have e1 := cell_keep b2 d1; have e2 := cell_keep b2 d2; have e3 := cell_keep b2 d3; have E0 := cell_keep b2 G0; have E1 := cell_keep b2 G1; have E2 := cell_keep b2 G2; have kw2 : Below wr.heap.size wr W2 := kw1.trans (b2.mono kw1.size)))
                have y0 : ∀ d os, (Sort.grow (redrawn W2 d) os).cell? ⟨wr.heap.size, 0, none⟩ = some (.int .i32 r) := fun d os => cell_regrown e0 d os
                have y1 : ∀ d os, (Sort.grow (redrawn W2 d) os).cell? ⟨wr.heap.size, 1, none⟩ = some (.int .i64 f) := fun d os => cell_regrown e1 d os
                have y2 : ∀ d os, (Sort.grow (redrawn W2 d) os).cell? ⟨wr.heap.size, 2, none⟩ = some (.int .i64 bk) := fun d os => cell_regrown e2 d os
                have y3 : ∀ d os, (Sort.grow (redrawn W2 d) os).cell? ⟨wr.heap.size, 3, none⟩ = some (.int .i64 xx) := fun d os => cell_regrown e3 d os
                have z0 : ∀ d os, (Sort.grow (redrawn W2 d) os).cell? ⟨w.heap.size, 0, none⟩ = some (.int .i64 (n : Int)) := fun d os => cell_regrown E0 d os
                have z2 : ∀ d os, (Sort.grow (redrawn W2 d) os).cell? ⟨w.heap.size, 2, none⟩ = some (.slice (some ⟨b, o, none⟩) L c) := fun d os => cell_regrown E2 d os
                refine wp_region_quiet_below (by kernel_rfl) (by kernel_rfl) ?_
                repeat (first | go_big_quiet_skip | quiet_step (fail))
                refine wpQuiet_nil ?_
                intro _ hw'
                obtain ⟨⟨dq, os⟩, hw''⟩ := hw'
                subst hw''
                have b3 := below_regrown W2 dq os
                have kw3 : Below wr.heap.size wr (Sort.grow (redrawn W2 dq) os) := kw2.trans (b3.mono kw2.size)
                have F0 := cell_keep b3 E0
                have F2 := cell_keep b3 E2
                have N0 := fun (a : Addr) (v : Value) (h : wr.cell? a = some v) => cell_keep kw3 h
                clear y0 y1 y2 y3 z0 z2
                generalize Sort.grow (redrawn W2 dq) os = W3 at *
                go_wp2_with fail
                go_ret
                exact ⟨Txt.ret_int HV.out, hb.trans (kw3.mono hb.size)⟩
              · have hk1 : k + 1 < L := by
                  have hmod := HMOD.out k hlt hl
                  exact hmod
                obtain ⟨s0, _⟩ := HCW.out (k + 1) (by rw [HLn.out]; exact hk1)
                generalize hrn : (cs.getD (k + 1) z0).1 = rn at s0
                have nl : ((k : Int) % (n : Int) == (n : Int) - 1) = false := by rw [← Int.natCast_emod]; simp only [beq_eq_false_iff_ne, ne_eq]; omega
                have hkL : ((k : Int) + 1) < (L : Int) := by omega

                by_cases hn : rn = 0
                · have HZ : cellR n cs k = 0 := by unfold cellR; rw [HCC.out]; dsimp only; rw [if_neg (by simp [hw, hs])]; rw [if_neg (by simp [hr]), if_neg (by rw [hrn]; simp [hl, hn])]
                  have HV : Hid (firstErr (cellR n cs) (k + 1) (L - (k + 1)) = firstErr (cellR n cs) 0 L) := by unfold Hid; rw [← HF1.out, HST.out, if_pos HZ]
                  have nr : (r != 0) = true := by simpa using hr
                  have nr' : (r == 0) = false := by simpa using hr
                  have HW : Hid (wd r = 2) := h2
                  clear h2 hw hrn
                  subst hn
                  have HS : Hid (isSt (f, bk, xx) = true) := hs
                  clear hs HZ
                  go_wp2_with (first | (go_at_call 51; refine (widthOf_to r _ 2 HW.out).mono ?_; rintro e W1 ⟨rfl, b1⟩; have d0 := cell_keep b1 c0; have d1 := cell_keep b1 c1; have d2 := cell_keep b1 c2; have d3 := cell_keep b1 c3; have G0 := cell_keep b1 g0'; have G1 := cell_keep b1 g1'; have G2 := cell_keep b1 g2'; have kw1 : Below wr.heap.size wr W1 := kb.trans (b1.mono kb.size)) | (go_at_call 50; refine (isStyle_to f bk xx _ HS.out _).mono ?_; rintro e W2 ⟨rfl, b2⟩; have e0 := cell_keep b2 d0; have e1 := cell_keep b2 d1; have e2 := cell_keep b2 d2; have e3 := cell_keep b2 d3; have E0 := cell_keep b2 G0; have E1 := cell_keep b2 G1; have E2 := cell_keep b2 G2; have kw2 : Below wr.heap.size wr W2 := kw1.trans (b2.mono kw1.size)))
                  have y0 : ∀ d os, (Sort.grow (redrawn W2 d) os).cell? ⟨wr.heap.size, 0, none⟩ = some (.int .i32 r) := fun d os => cell_regrown e0 d os
                  have y1 : ∀ d os, (Sort.grow (redrawn W2 d) os).cell? ⟨wr.heap.size, 1, none⟩ = some (.int .i64 f) := fun d os => cell_regrown e1 d os
                  have y2 : ∀ d os, (Sort.grow (redrawn W2 d) os).cell? ⟨wr.heap.size, 2, none⟩ = some (.int .i64 bk) := fun d os => cell_regrown e2 d os
                  have y3 : ∀ d os, (Sort.grow (redrawn W2 d) os).cell? ⟨wr.heap.size, 3, none⟩ = some (.int .i64 xx) := fun d os => cell_regrown e3 d os
                  have z0 : ∀ d os, (Sort.grow (redrawn W2 d) os).cell? ⟨w.heap.size, 0, none⟩ = some (.int .i64 (n : Int)) := fun d os => cell_regrown E0 d os
                  have z2 : ∀ d os, (Sort.grow (redrawn W2 d) os).cell? ⟨w.heap.size, 2, none⟩ = some (.slice (some ⟨b, o, none⟩) L c) := fun d os => cell_regrown E2 d os
                  refine wp_region_quiet_below (by kernel_rfl) (by kernel_rfl) ?_
                  repeat (first | go_big_quiet_skip | quiet_step (fail))
                  refine wpQuiet_nil ?_
                  intro _ hw'
                  obtain ⟨⟨dq, os⟩, hw''⟩ := hw'
                  subst hw''
                  have b3 := below_regrown W2 dq os
                  have kw3 : Below wr.heap.size wr (Sort.grow (redrawn W2 dq) os) := kw2.trans (b3.mono kw2.size)
                  have F0 := cell_keep b3 E0
                  have F2 := cell_keep b3 E2
                  have N0 := fun (a : Addr) (v : Value) (h : wr.cell? a = some v) => cell_keep kw3 h
                  clear y0 y1 y2 y3 z0 z2
                  generalize Sort.grow (redrawn W2 dq) os = W3 at *
                  have s1 := N0 _ _ s0
                  clear N0
                  go_wp2_with fail
                  go_roundg (L - (k + 1))
                  case measure => omega
                  case rel => exact ⟨k + 1, rfl, by omega, by omega, hb.trans (kw3.mono hb.size), carry hv kw3, HV.out⟩
                · have HZ : cellR n cs k = 5 := by unfold cellR; rw [HCC.out]; dsimp only; rw [if_neg (by simp [hw, hs])]; rw [if_neg (by simp [hr]), if_pos ⟨h2, Or.inr (by rw [hrn]; exact hn)⟩]
                  have HV : Hid ((5 : Int) = firstErr (cellR n cs) 0 L) := by unfold Hid; rw [← HF1.out, HST.out, HZ, if_neg (by decide)]
                  have nr : (r != 0) = true := by simpa using hr
                  have nr' : (r == 0) = false := by simpa using hr
                  have HW : Hid (wd r = 2) := h2
                  clear h2 hw hrn
                  have nn : (rn != 0) = true := by simpa using hn
                  have HS : Hid (isSt (f, bk, xx) = true) := hs
                  clear hs HZ
                  go_wp2_with (first | (go_at_call 51; refine (widthOf_to r _ 2 HW.out).mono ?_; rintro e W1 ⟨rfl, b1⟩; have d0 := cell_keep b1 c0; have d1 := cell_keep b1 c1; have d2 := cell_keep b1 c2; have d3 := cell_keep b1 c3; have G0 := cell_keep b1 g0'; have G1 := cell_keep b1 g1'; have G2 := cell_keep b1 g2'; have kw1 : Below wr.heap.size wr W1 := kb.trans (b1.mono kb.size)) | (go_at_call 50; refine (isStyle_to f bk xx _ HS.out _).mono ?_; rintro e W2 ⟨rfl, b2⟩; have e0 := cell_keep b2 d0; have e1 := cell_keep b2 d1; have e2 := cell_keep b2 d2; have e3 := cell_keep b2 d3; have E0 := cell_keep b2 G0; have E1 := cell_keep b2 G1; have E2 := cell_keep b2 G2; have kw2 : Below wr.heap.size wr W2 := kw1.trans (b2.mono kw1.size)))
                  have y0 : ∀ d os, (Sort.grow (redrawn W2 d) os).cell? ⟨wr.heap.size, 0, none⟩ = some (.int .i32 r) := fun d os => cell_regrown e0 d os
                  have y1 : ∀ d os, (Sort.grow (redrawn W2 d) os).cell? ⟨wr.heap.size, 1, none⟩ = some (.int .i64 f) := fun d os => cell_regrown e1 d os
                  have y2 : ∀ d os, (Sort.grow (redrawn W2 d) os).cell? ⟨wr.heap.size, 2, none⟩ = some (.int .i64 bk) := fun d os => cell_regrown e2 d os
                  have y3 : ∀ d os, (Sort.grow (redrawn W2 d) os).cell? ⟨wr.heap.size, 3, none⟩ = some (.int .i64 xx) := fun d os => cell_regrown e3 d os
                  have z0 : ∀ d os, (Sort.grow (redrawn W2 d) os).cell? ⟨w.heap.size, 0, none⟩ = some (.int .i64 (n : Int)) := fun d os => cell_regrown E0 d os
                  have z2 : ∀ d os, (Sort.grow (redrawn W2 d) os).cell? ⟨w.heap.size, 2, none⟩ = some (.slice (some ⟨b, o, none⟩) L c) := fun d os => cell_regrown E2 d os
                  refine wp_region_quiet_below (by kernel_rfl) (by kernel_rfl) ?_
                  repeat (first | go_big_quiet_skip | quiet_step (fail))
                  refine wpQuiet_nil ?_
                  intro _ hw'
                  obtain ⟨⟨dq, os⟩, hw''⟩ := hw'
                  subst hw''
                  have b3 := below_regrown W2 dq os
                  have kw3 : Below wr.heap.size wr (Sort.grow (redrawn W2 dq) os) := kw2.trans (b3.mono kw2.size)
                  have F0 := cell_keep b3 E0
                  have F2 := cell_keep b3 E2
                  have N0 := fun (a : Addr) (v : Value) (h : wr.cell? a = some v) => cell_keep kw3 h
                  clear y0 y1 y2 y3 z0 z2
                  generalize Sort.grow (redrawn W2 dq) os = W3 at *
                  have s1 := N0 _ _ s0
                  clear N0
                  go_wp2_with fail
                  go_ret
                  exact ⟨Txt.ret_int HV.out, hb.trans (kw3.mono hb.size)⟩
            · have HZ : cellR n cs k = 0 := by unfold cellR; rw [HCC.out]; dsimp only; rw [if_neg (by simp [hw, hs])]; rw [if_neg (by simp [hr]), if_neg (by simp [h2])]
              have HV : Hid (firstErr (cellR n cs) (k + 1) (L - (k + 1)) = firstErr (cellR n cs) 0 L) := by unfold Hid; rw [← HF1.out, HST.out, if_pos HZ]
              have nr : (r != 0) = true := by simpa using hr
              have nr' : (r == 0) = false := by simpa using hr
              have nw : (wd r == 0) = false := by simpa using hw
              have n2 : (wd r == 2) = false := by simpa using h2
              have HW : Hid (wd r = wd r) := rfl
              have HS : Hid (isSt (f, bk, xx) = true) := hs
              clear hs HZ
              go_wp2_with (first | (go_at_call 51; refine (widthOf_to r _ _ HW.out).mono ?_; rintro e W1 ⟨rfl, b1⟩; have d0 := cell_keep b1 c0; have d1 := cell_keep b1 c1; have d2 := cell_keep b1 c2; have d3 := cell_keep b1 c3; have G0 := cell_keep b1 g0'; have G1 := cell_keep b1 g1'; have G2 := cell_keep b1 g2'; have kw1 : Below wr.heap.size wr W1 := kb.trans (b1.mono kb.size)) | (go_at_call 50; refine (isStyle_to f bk xx _ HS.out _).mono ?_; rintro e W2 ⟨rfl, b2⟩; have e0 := cell_keep b2 d0; have e1 := cell_keep b2 d1; have e2 := cell_keep b2 d2; have e3 := cell_keep b2 d3; have E0 := cell_keep b2 G0; have E1 := cell_keep b2 G1; have E2 := cell_keep b2 G2; have kw2 : Below wr.heap.size wr W2 := kw1.trans (b2.mono kw1.size)))
              have y0 : ∀ d os, (Sort.grow (redrawn W2 d) os).cell? ⟨wr.heap.size, 0, none⟩ = some (.int .i32 r) := fun d os => cell_regrown e0 d os
              have y1 : ∀ d os, (Sort.grow (redrawn W2 d) os).cell? ⟨wr.heap.size, 1, none⟩ = some (.int .i64 f) := fun d os => cell_regrown e1 d os
              have y2 : ∀ d os, (Sort.grow (redrawn W2 d) os).cell? ⟨wr.heap.size, 2, none⟩ = some (.int .i64 bk) := fun d os => cell_regrown e2 d os
              have y3 : ∀ d os, (Sort.grow (redrawn W2 d) os).cell? ⟨wr.heap.size, 3, none⟩ = some (.int .i64 xx) := fun d os => cell_regrown e3 d os
              have z0 : ∀ d os, (Sort.grow (redrawn W2 d) os).cell? ⟨w.heap.size, 0, none⟩ = some (.int .i64 (n : Int)) := fun d os => cell_regrown E0 d os
              have z2 : ∀ d os, (Sort.grow (redrawn W2 d) os).cell? ⟨w.heap.size, 2, none⟩ = some (.slice (some ⟨b, o, none⟩) L c) := fun d os => cell_regrown E2 d os
              refine wp_region_quiet_below (by kernel_rfl) (by kernel_rfl) ?_
              repeat (first | go_big_quiet_skip | quiet_step (fail))
              refine wpQuiet_nil ?_
              intro _ hw'
              obtain ⟨⟨dq, os⟩, hw''⟩ := hw'
              subst hw''
              have b3 := below_regrown W2 dq os
              have kw3 : Below wr.heap.size wr (Sort.grow (redrawn W2 dq) os) := kw2.trans (b3.mono kw2.size)
              have F0 := cell_keep b3 E0
              have F2 := cell_keep b3 E2
              have N0 := fun (a : Addr) (v : Value) (h : wr.cell? a = some v) => cell_keep kw3 h
              clear y0 y1 y2 y3 z0 z2
              generalize Sort.grow (redrawn W2 dq) os = W3 at *
              go_wp2_with fail
              go_roundg (L - (k + 1))
              case measure => omega
              case rel => exact ⟨k + 1, rfl, by omega, by omega, hb.trans (kw3.mono hb.size), carry hv kw3, HV.out⟩
    · have lt1 : ¬ ((k : Int) < (L : Int)) := by omega
      have HV : Hid (0 = firstErr (cellR n cs) 0 L) := by unfold Hid; rw [← HF1.out, first_end _ _ _ hlt]
      go_wp2_with fail
      go_ret
      exact ⟨Txt.ret_int HV.out, hb⟩
theorem ref_any (a h : Int) (v : Value) (cs : List C) (w : World) (hS : SliceAt w v cs) :
    Calls Tryd.prog 48 #[.agg #[.int .i64 a, .int .i64 h, v]] w fun e w' => e = .returned (.int .i64 (gridErr a h cs)) ∧ Below w.heap.size w w' := by
  unfold gridErr
  cases hs : isSize a h with
  | false => rw [if_pos (Or.inl rfl)]; exact ref_size1 a h v w hs
  | true =>
    obtain ⟨p0, p1, p2, p3, p4, p5⟩ := prod_in a h hs
    by_cases hL : (cs.length : Int) = a * h
    · rw [if_neg (by simp [hL])]
      rcases hS with ⟨rfl, _⟩ | ⟨_, b, o, c, rfl, hc, hm, hC⟩
      · exfalso
        have : 1 * 1 ≤ a * h := Int.mul_le_mul p2 p4 (by omega) (by omega)
        simp at hL
        omega
      · obtain ⟨n, rfl⟩ := Int.eq_ofNat_of_zero_le (show 0 ≤ a by omega)
        obtain ⟨m, rfl⟩ := Int.eq_ofNat_of_zero_le (show 0 ≤ h by omega)
        rw [Int.toNat_natCast, Int.toNat_natCast, errs_same n m cs (by exact_mod_cast hL)]
        exact ref_rows n m b o c cs w hC hs (by exact_mod_cast hL)
    · rw [if_pos (Or.inr hL)]
      obtain ⟨ad, c, rfl⟩ := hS.shape
      exact ref_size2 a h ad cs.length c w hs hL
end Grd
end Go.Proofs.YtnkeahfcpbepjaaDoor

/- The walk of the reference's CleanOf. -/
namespace Go.Proofs.YtnkeahfcpbepjaaDoor
open Go.ChangeShapes Go.WideShapes Go.ChangeAt Go.RowKit Go.Maps
namespace Txt

set_option maxHeartbeats 1000000 in
theorem cleanOf_any (s : ByteArray) (w : World) (hs : s.size ≤ 281474976710656) :
    Calls Tryd.prog 52 #[.string s] w fun e w' => e = .returned (.string (bs (cleanL (runes s)))) ∧ Below w.heap.size w w' := by
  go_enter Tryd.func52, Tryd.ntmps52
  go_wp2
  go_loopw [3] (fun a wr => ∃ (pos f : Nat) (acc : List UInt8), wr.heap[w.heap.size]? = some (.stringIter s pos) ∧ Below w.heap.size w wr ∧ a = .string (bs acc) ∧ acc ++ cleanL (rs s f pos) = cleanL (runes s) ∧ s.size ≤ pos + f ∧ acc.length ≤ 4 * pos ∧ pos ≤ s.size) (fun _ wr => s.size - wr.iterPos w.heap.size)
  case atStart =>
    exact ⟨0, s.size, [], World.iter_heap w s 0, (Below.refl _ w).alloc (Nat.le_refl _) _, rfl, by simp [runes], by omega, by simp, by omega⟩
  case round =>
    obtain ⟨pos, f, acc, hit, hbw, rfl, hc, hf, hal, hps⟩ := hrel
    have HC : Hid (acc ++ cleanL (rs s f pos) = cleanL (runes s)) := hc
    clear hc
    have hsz : w.heap.size < wr.heap.size := (Array.getElem?_eq_some_iff.1 hit).1
    by_cases hp : pos < s.size
    · have hnx : ∀ ty, (Instr.next (.pointer (some ⟨w.heap.size, 0, none⟩)) true ty).run Tryd.prog wr = _ := fun ty => Lib.run_next_any_at wr w.heap.size s pos ty hit hp
      have hwd := width_pos s pos hp
      have hfit := decode_fits s pos hp
      obtain ⟨f, rfl⟩ : ∃ g, f = g + 1 := ⟨f - 1, by omega⟩
      have HR : Hid (rs s (f + 1) pos = (((Utf8.decode s pos).1 : Int), (Utf8.decode s pos).2) :: rs s f (pos + (Utf8.decode s pos).2)) := rs_step s f pos hp
      have hit2 := Lib.iterAt_heap wr w.heap.size s pos (pos + (Utf8.decode s pos).2) hit
      have hbw2 := Lib.below_iterAt hbw (k := w.heap.size) (Nat.le_refl _) s (pos + (Utf8.decode s pos).2)
      have hsz2 : w.heap.size < (wr.iterAt w.heap.size s (pos + (Utf8.decode s pos).2)).heap.size := by rw [Lib.iterAt_size]; exact hsz
      have HI : Hid (wr.iterPos w.heap.size = pos) := by simp only [Hid, World.iterPos, hit]
      clear hit
      generalize Utf8.decode s pos = d at *
      have hl4 := encodeRune_length d.1
      by_cases hpos : 0 < wd d.1
      · have HE : Hid (Utf8.encode (d.1 : Int) = bs (Lib.encodeRune d.1)) := encode_eq d.1
        have hsum : ¬ 9223372036854775807 < (bs acc).size + (Utf8.encode (d.1 : Int)).size := by rw [HE.out, bs_size, bs_size]; omega
        go_wp2_with (go_at_call 51; refine (widthOf_any _ _).mono ?_; rintro e W1 ⟨rfl, b1⟩)
        go_roundw
        case rel =>
          refine ⟨pos + d.2, f, acc ++ Lib.encodeRune d.1, (b1.block _ hsz2).trans hit2, hbw2.trans (b1.mono (by omega)), ?_, ?_, by omega, by simp; omega, by omega⟩
          · rw [← bs_append, ← HE.out]
          · rw [← HC.out, HR.out]; simp [cleanL, hpos]
        case measure =>
          rw [HI.out]
          simp only [World.iterPos, (b1.block _ hsz2).trans hit2]
          omega
      · have hz : ¬ 0 < wd d.1 := hpos
        go_wp2_with (go_at_call 51; refine (widthOf_any _ _).mono ?_; rintro e W1 ⟨rfl, b1⟩)
        go_roundw
        case rel =>
          refine ⟨pos + d.2, f, acc, (b1.block _ hsz2).trans hit2, hbw2.trans (b1.mono (by omega)), rfl, ?_, by omega, by omega, by omega⟩
          rw [← HC.out, HR.out]; simp only [cleanL]; rw [if_neg (by omega)]; rfl
        case measure =>
          rw [HI.out]
          simp only [World.iterPos, (b1.block _ hsz2).trans hit2]
          omega
    · have hnx : ∀ ty, (Instr.next (.pointer (some ⟨w.heap.size, 0, none⟩)) true ty).run Tryd.prog wr = _ := fun ty => Lib.run_next_end_at wr w.heap.size s pos ty hit hp
      go_wp2
      go_ret
      have := HC.out
      rw [rs_end s f pos hp, cleanL, List.append_nil] at this
      subst this
      exact ⟨rfl, hbw⟩
end Txt
end Go.Proofs.YtnkeahfcpbepjaaDoor
