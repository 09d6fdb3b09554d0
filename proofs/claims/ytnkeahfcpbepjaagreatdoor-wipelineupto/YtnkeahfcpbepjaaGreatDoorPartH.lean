/- slices.Chunk and slices.Collect at a grid's cells: its rows. -/
import Derived.Test.YtnkeahfcpbepjaaGreatDoorRows
import Derived.Test.YtnkeahfcpbepjaaGreatDoorProg
import Derived.RangeFuncBox
import Derived.RangeFuncLeaves
import Derived.Shelf.Abstract
import Derived.Shelf.RegionOpen
import Derived.WalkKit
import Derived.OwnWalkIn
import Derived.TacticsInMore
import Derived.LoopNIn
import Derived.LoopIn
import Derived.Maps.AppendAt
import Derived.Sort.BigQuietIn
import Derived.WalkSmall
import Derived.Test.YtnkeahfcpbepjaaGreatDoorPartG
import Derived.Test.YtnkeahfcpbepjaaGreatDoorPartE
import Derived.Deep.RegionHeld3
import Derived.Deep.Cut
import Derived.Deep.CutRange
import Derived.Lib.AppendZeros
import Derived.Test.YtnkeahfcpbepjaaGreatDoorPartF
import Derived.BigQuiet
namespace Go.Proofs.YtnkeahfcpbepjaaGreatDoor
open Go.RowKit Go.Shelf
namespace Put
attribute [local go_sem] Oper.semAt_some
/-- The value of row k: n cells of four words each. -/
def rowV (b o n k : Nat) : Value := .slice (some ⟨b, o + k * n * 4, none⟩) n n
theorem minP (a b : Int) (w : World) : (Builtin.min_ #[3, 3] 3 #[.int .i64 a, .int .i64 b]).run Tryz.prog w = .ok (.int .i64 (min a b)) w := by
  simp [Builtin.min_, Builtin.min2, go_sem]
  repeat' split
  all_goals omega
set_option maxRecDepth 100000 in
set_option maxHeartbeats 4000000 in
theorem chunk1_in (F : Fence) (q : Nat) (hf : F.fn 156) (hro : F.round = none) (hq : 1 ≤ q) (l Bs Bn n₀ b o n hh cap : Nat) (hn : 1 ≤ n) (hn' : n ≤ 1000) (hh' : hh ≤ 1000) (hcap : n * hh ≤ cap) (J Jx : List Nat → World → Prop)
    (hY : ∀ pre x W, J pre W → pre.length < hh → YieldAt F (q - 1) Tryz.prog l #[rowV b o n x] W fun e W' =>
      (e = .returned (.bool true) ∧ J (pre ++ [x]) W' ∧ Below n₀ W W') ∨ (e = .returned (.bool false) ∧ Jx (pre ++ [x]) W'))
    (W : World) (hBs : Bs < n₀) (hBn : Bn < n₀) (hs : W.cell? ⟨Bs, 0, none⟩ = some (.slice (some ⟨b, o, none⟩) (n * hh) cap)) (hc : W.cell? ⟨Bn, 0, none⟩ = some (.int .i64 (n : Int))) (hJ : AbidesFrom W.heap.size J) (h0 : J [] W) :
    CallsIn F q Tryz.prog 156 #[.func (.yield l) #[] #[], .pointer (some ⟨Bs, 0, none⟩), .pointer (some ⟨Bn, 0, none⟩)] W fun e W' => (∃ v, e = .returned v) ∧
      ((∃ ys, ys = List.range hh ∧ J ys W') ∨ (∃ pre, True ∧ Jx pre W')) := by
  refine callsIn_of_wp Tryz.func156 rfl hf ?_ hro
  simp only [Tryz.ntmps156, List.size_toArray, List.length_cons, List.length_nil, Nat.reduceAdd, Nat.reduceSub, Array.replicate_succ, Array.replicate_zero, List.push_toArray, List.append_toArray, List.nil_append, List.cons_append]
  gi_wp2
  gi_loopw [4] (fun i wr => ∃ k : Nat, k ≤ hh ∧ i = .int .i64 ((k * n : Nat) : Int) ∧ J (List.range k) wr ∧ Below n₀ W wr)
    (fun i _ => hh * n - (intOf i).toNat)
  case atStart => exact ⟨0, Nat.zero_le _, by simp, h0, Below.refl _ _⟩
  case round =>
    obtain ⟨k, hk, rfl, hJs, hnx⟩ := hrel
    have cs : ∀ m, (wr.drewN m).cell? ⟨Bs, 0, none⟩ = some (.slice (some ⟨b, o, none⟩) (n * hh) cap) := fun m => (hnx.cell (p := ⟨Bs, 0, none⟩) hBs).trans hs
    have cn : ∀ m, (wr.drewN m).cell? ⟨Bn, 0, none⟩ = some (.int .i64 (n : Int)) := fun m => (hnx.cell (p := ⟨Bn, 0, none⟩) hBn).trans hc
    have cs0 := cs 0
    have cn0 := cn 0
    simp only [World.drewN_zero] at cs0 cn0
    have hmin := minP (n : Int)
    by_cases hlt : k < hh
    · have hJd : ∀ m, J (List.range k) (wr.drewN m) := fun m => hJ _ wr _ none hJs ⟨rfl, rfl, rfl, Nat.le_refl _, fun _ _ _ => rfl⟩ (fun r e => by cases e)
      have hYk := fun m => hY _ k (wr.drewN m) (hJd m) (by simpa using hlt)
      unfold rowV at hYk
      have HN : Hid (List.range (k + 1) = List.range k ++ [k]) := List.range_succ
      have l1 : k * n + n ≤ n * hh := by
        have : (k + 1) * n ≤ hh * n := Nat.mul_le_mul_right n hlt
        rw [Nat.mul_comm n hh]
        rw [Nat.add_mul] at this
        omega
      have l2 : n * hh ≤ 1000000 := by
        have : n * hh ≤ 1000 * 1000 := Nat.mul_le_mul hn' hh'
        omega
      have HNX : Hid ((((k + 1) * n : Nat) : Int) = ((k * n : Nat) : Int) + (n : Int)) := by unfold Hid; rw [Nat.add_mul]; omega
      have HM : Hid (hh * n - (k + 1) * n < hh * n - k * n) := by
        unfold Hid
        have : hh * n = n * hh := Nat.mul_comm _ _
        rw [Nat.add_mul]
        omega
      clear hY hs hc h0 hJ hJs
      generalize n * hh = L at *
      generalize hK : k * n = K at *
      have HK : Hid (k * n = K) := hK
      clear hK
      have lt1 : ((K : Nat) : Int) < (L : Int) := by omega
      have hKL : K ≤ L := by omega
      have hcK : ¬ cap = K := by omega
      have hm1 : min (n : Int) ((L - K : Nat) : Int) = (n : Int) := by omega
      gi_wp2
      refine wpIn_region_quiet_lit hro (by kernel_rfl) (by kernel_rfl) ?_
      repeat (gi_big_quiet_step (fail))
      refine wpQuietIn_nil ?_
      intro _ hw'
      obtain ⟨nq, hw''⟩ := hw'
      subst hw''
      obtain ⟨fn, tmps, assign, body, hy, hR⟩ := hYk nq
      have cs1 := cs nq
      have cn1 := cn nq
      have hnq : Below n₀ W (wr.drewN nq) := hnx.trans ⟨rfl, rfl, rfl, Nat.le_refl _, fun _ _ => rfl⟩
      have HHN : Hid (Below n₀ W (wr.drewN nq)) := hnq
      clear hYk cs cn hJd cs0 cn0 hnq
      generalize wr.drewN nq = V at *
      gi_wp2
      refine hR.mono ?_
      rintro e W3 (⟨rfl, hJ3, hk3⟩ | ⟨rfl, hJx3⟩)
      · have cs3 : W3.cell? ⟨Bs, 0, none⟩ = _ := (hk3.cell (p := ⟨Bs, 0, none⟩) hBs).trans cs1
        have cn3 : W3.cell? ⟨Bn, 0, none⟩ = _ := (hk3.cell (p := ⟨Bn, 0, none⟩) hBn).trans cn1
        clear cs1 cn1
        gi_wp2
        go_roundw
        case rel => exact ⟨k + 1, by omega, by rw [HNX.out], by rw [HN.out]; exact hJ3, HHN.out.trans hk3⟩
        case measure =>
          have h := HM.out
          simp [intOf]
          omega
      · gi_wp2
        refine bodyPost_ret (results_none rfl _ _ _) rfl ?_
        exact ⟨⟨_, rfl⟩, .inr (by first | exact ⟨_, hJx3⟩ | exact ⟨_, trivial, hJx3⟩)⟩
    · obtain rfl : k = hh := by omega
      have l1 : ¬ ((k * n : Nat) : Int) < ((n * k : Nat) : Int) := by rw [Nat.mul_comm n k]; omega
      gi_wp2
      go_end0
      exact ⟨⟨_, rfl⟩, .inl (by first | exact hJs | exact ⟨_, rfl, hJs⟩)⟩
theorem chunk_stops (F : Fence) (q : Nat) (hf : F.fn 156) (hro : F.round = none) (hq : 1 ≤ q) (Bs Bn n₀ b o n hh cap : Nat) (hn : 1 ≤ n) (hn' : n ≤ 1000) (hh' : hh ≤ 1000) (hcap : n * hh ≤ cap) (w : World) (hBs : Bs < n₀) (hBn : Bn < n₀) (hn₀ : n₀ ≤ w.heap.size)
    (hs : w.cell? ⟨Bs, 0, none⟩ = some (.slice (some ⟨b, o, none⟩) (n * hh) cap)) (hc : w.cell? ⟨Bn, 0, none⟩ = some (.int .i64 (n : Int))) :
    SeqStopsK F q Tryz.prog 156 #[.pointer (some ⟨Bs, 0, none⟩), .pointer (some ⟨Bn, 0, none⟩)] (fun x : Nat => #[rowV b o n x]) (Below n₀) (fun ys => ys = List.range hh) (fun _ => True) hh w := fun l J Jx W hW hJ _ hY h0 =>
  chunk1_in F q hf hro hq l Bs Bn n₀ b o n hh cap hn hn' hh' hcap J Jx hY W hBs hBn ((hW.cell (p := ⟨Bs, 0, none⟩) (by show Bs < _; omega)).trans hs) ((hW.cell (p := ⟨Bn, 0, none⟩) (by show Bn < _; omega)).trans hc) hJ h0
theorem info_row : (Tryz.prog.info? 22).map (fun i => (i.zero, i.size, i.bytes)) = some (some (.slice none 0 0), 1, 24) := by kernel_rfl
set_option maxRecDepth 100000 in
set_option maxHeartbeats 4000000 in
theorem appendSeq_in (F : Fence) (q : Nat) (hfa : F.fn 155) (hf : F.fn 156) (hro : F.round = none) (hq : 3 ≤ q) (Bs Bn b o n hh cap : Nat) (hn : 1 ≤ n) (hn' : n ≤ 1000) (hh' : hh ≤ 1000) (hcap : n * hh ≤ cap) (w : World) (hBs : Bs < w.heap.size) (hBn : Bn < w.heap.size)
    (hs : w.cell? ⟨Bs, 0, none⟩ = some (.slice (some ⟨b, o, none⟩) (n * hh) cap)) (hc : w.cell? ⟨Bn, 0, none⟩ = some (.int .i64 (n : Int))) :
    CallsIn F q Tryz.prog 155 #[.slice none 0 0, .func (.func 156) #[] #[.pointer (some ⟨Bs, 0, none⟩), .pointer (some ⟨Bn, 0, none⟩)]] w fun e W' => ∃ v, e = .returned v ∧ W'.ownsRow w.heap.size 22 1 v hh ((List.range hh).map (rowV b o n)) ∧ Below w.heap.size w W' := by
  have h1 : 1 ≤ q := by omega
  obtain ⟨i0, hi, hz0, hz1, hz2⟩ := info_parts info_row
  refine callsIn_of_wp_marks Tryz.func155 rfl hfa ?_ hro
  simp only [Tryz.ntmps155, List.size_toArray, List.length_cons, List.length_nil, Nat.reduceAdd, Nat.reduceSub, Array.replicate_succ, Array.replicate_zero, List.push_toArray, List.append_toArray, List.nil_append, List.cons_append]
  gi_wp2
  have bO := Boxed.new w 30 (.slice none 0 0)
  have hB0 : Below w.heap.size w (w.alloc (.cells #[.slice none 0 0] 30)) := (Below.refl _ w).alloc (Nat.le_refl _) _
  refine wpIn_rangeFunc_ownG hro h1 (gf := 156) (lb := #[.pointer (some ⟨Bs, 0, none⟩), .pointer (some ⟨Bn, 0, none⟩)]) rfl hf (enters_of Tryz.func156 (by kernel_rfl) rfl)
    (chunk_stops F (q - 1) hf hro (by omega) Bs Bn w.heap.size b o n hh cap hn hn' hh' hcap _ hBs hBn (by simp) ((hB0.cell (p := ⟨Bs, 0, none⟩) hBs).trans hs) ((hB0.cell (p := ⟨Bn, 0, none⟩) hBn).trans hc)) belowK_t (belowK_b (by simp)) (Below.refl _ _) (fun _ => rfl)
    (fun pre W => (∃ v, Boxed W w.heap.size 30 v ∧ W.ownsRow w.heap.size 22 1 v pre.length (pre.map (rowV b o n)) ∧ (v = .slice none 0 0 ↔ pre = [])) ∧ Below w.heap.size w W)
    (fun _ _ _ => False)
    (OwnFrom.and (Own.from (holdsRow_own w.heap.size w.heap.size 30 22 1 (fun pre : List Nat => pre.length) (fun pre => pre.map (rowV b o n)) (fun pre v => v = .slice none 0 0 ↔ pre = [])) _) (ownFrom_below (Nat.le_refl _) (by simp)))
    (fun _ _ _ _ _ hs _ _ => hs)
    ⟨⟨_, bO, World.ownsRow_nil _ _ _ _, by simp⟩, hB0⟩
    (fun x => { tmps := #[.slice none 0 0, .func (.func 156) #[] #[.pointer (some ⟨Bs, 0, none⟩), .pointer (some ⟨Bn, 0, none⟩)], .pointer (some ⟨w.heap.size, 0, none⟩), undef, .slice none 0 0, rowV b o n x, .func (.func 156) #[] #[.pointer (some ⟨Bs, 0, none⟩), .pointer (some ⟨Bn, 0, none⟩)], rowV b o n x, undef, undef, undef, undef, undef], defers := [] }) ?assign ?body ?done ?stop
  case assign =>
    intro l x W K hK
    gi_wp2
    exact hK
  case body =>
    rintro l pre x W ⟨⟨v, hv, hrow, hnil⟩, hB⟩ hlt
    have hc := hv.cell
    unfold rowV
    gi_wp2_with (gi_at_builtin; refine wpListIn_append_own _ rfl _ _ 30 rfl w.heap.size 22 i0 (.slice none 0 0) 1 24 Tryz.underlying30 hi hz0 hz1 hz2 rfl (by decide) _ _ _ rfl (hrow.alloc _) ⟨W.heap.size, 0, none⟩ 1 1 [rowV b o n x] rfl rfl (cell_one_new _ _ _) (by simp [Value.oneCell', rowV]) (by simp [maxLen]; omega) (by omega) (by have := hB.size; simp; omega) ?_; intro v' w1 hown' hgrow _; obtain ⟨g', cap', rfl⟩ := ownsRow_succ hown'; obtain ⟨hv1, hv2, hr2, hk2, hb2⟩ := hv.appended (by decide) hrow hB.size (Nat.le_refl _) hown' hgrow; have hc1 := hv1.cell; have hf1 := hv1.frozen)
    exact ⟨hk2.from _, hb2, ⟨_, hv2, by rw [List.length_append, List.map_append]; exact hr2, by simp⟩, hB.trans hb2⟩
  case done =>
    rintro D ys W hD rfl ⟨⟨v, hv, hrow, hnil⟩, hB⟩ hK
    have hc := hv.cell
    rw [List.length_range] at hrow
    gi_wp2
    refine ⟨by simp, .inl ⟨_, _, rfl, run_takeDeferred hK, ?_⟩⟩
    exact ⟨_, results_tmp rfl _ _ _, v, rfl, ownsRow_putObj hrow _ hK rfl, hB.trans (belowK_b (w := w) (Nat.le_refl _) W D _ _ (by simp at hD; omega) hK rfl rfl)⟩
  case stop =>
    rintro D c pre W _ _ h _
    exact h.elim
theorem appendSeq_any (Bs Bn b o n hh cap : Nat) (hn : 1 ≤ n) (hn' : n ≤ 1000) (hh' : hh ≤ 1000) (hcap : n * hh ≤ cap) (w : World) (hBs : Bs < w.heap.size) (hBn : Bn < w.heap.size)
    (hs : w.cell? ⟨Bs, 0, none⟩ = some (.slice (some ⟨b, o, none⟩) (n * hh) cap)) (hc : w.cell? ⟨Bn, 0, none⟩ = some (.int .i64 (n : Int))) :
    Calls Tryz.prog 155 #[.slice none 0 0, .func (.func 156) #[] #[.pointer (some ⟨Bs, 0, none⟩), .pointer (some ⟨Bn, 0, none⟩)]] w fun e W' => ∃ v, e = .returned v ∧ W'.ownsRow w.heap.size 22 1 v hh ((List.range hh).map (rowV b o n)) ∧ Below w.heap.size w W' :=
  (callsIn_wide (n := 3)).1 (appendSeq_in Fence.wide 3 trivial trivial rfl (by omega) Bs Bn b o n hh cap hn hn' hh' hcap w hBs hBn hs hc)
theorem collect_any (Bs Bn b o n hh cap : Nat) (hn : 1 ≤ n) (hn' : n ≤ 1000) (hh' : hh ≤ 1000) (hcap : n * hh ≤ cap) (w : World) (hBs : Bs < w.heap.size) (hBn : Bn < w.heap.size)
    (hs : w.cell? ⟨Bs, 0, none⟩ = some (.slice (some ⟨b, o, none⟩) (n * hh) cap)) (hc : w.cell? ⟨Bn, 0, none⟩ = some (.int .i64 (n : Int))) :
    Calls Tryz.prog 129 #[.func (.func 156) #[] #[.pointer (some ⟨Bs, 0, none⟩), .pointer (some ⟨Bn, 0, none⟩)]] w fun e W' => ∃ v, e = .returned v ∧ W'.ownsRow w.heap.size 22 1 v hh ((List.range hh).map (rowV b o n)) ∧ Below w.heap.size w W' := by
  have H := appendSeq_any Bs Bn b o n hh cap hn hn' hh' hcap w hBs hBn hs hc
  go_enter Tryz.func129, Tryz.ntmps129
  go_wp2_with fail
  refine H.mono ?_
  rintro e W1 ⟨v, rfl, ho, hb⟩
  go_wp2_with fail
  go_ret
  exact ⟨v, rfl, ho, hb⟩
theorem chunk_any (a : Option Addr) (L cap n : Nat) (hn : 1 ≤ n) (w : World) :
    Calls Tryz.prog 130 #[.slice a L cap, .int .i64 (n : Int)] w fun e W' => e = .returned (.func (.func 156) #[] #[.pointer (some ⟨w.heap.size, 0, none⟩), .pointer (some ⟨w.heap.size + 1, 0, none⟩)]) ∧ W' = (w.alloc (.cells #[.slice a L cap] 22)).alloc (.cells #[.int .i64 (n : Int)] 3) := by
  have h1 : ¬ (n : Int) < 1 := by omega
  go_enter Tryz.func130, Tryz.ntmps130
  go_wp2_with fail
  go_ret
  exact ⟨rfl, rfl⟩
end Put
end Go.Proofs.YtnkeahfcpbepjaaGreatDoor

/- sheet.open. -/
namespace Go.Proofs.YtnkeahfcpbepjaaGreatDoor
open Go.ChangeShapes Go.WideShapes Go.ChangeAt Go.RowKit
namespace Put
open Grd (C SliceAt CellsAt gridErr z0 nilV rowsL)
/-- A pointer to the 22 words of a screen. -/
def ScrPtr (W : World) (v : Value) : Prop := ∃ R cs t fr, v = .pointer (some ⟨R, 0, none⟩) ∧ W.heap[R]? = some (.cells cs t fr) ∧ cs.size = 22
def blkAt (W : World) (v : Value) : Array Value := match v with
  | .pointer (some a) => (match W.heap[a.block]? with
    | some (.cells cs _ _) => cs
    | _ => #[])
  | _ => #[]
theorem load_scr (a : Act) (dst : Option Tmp) (x : Operand) (ty : TypeId) (pos : String) (after : Array Edge) (guard : Option (Nat × Bool)) (W : World) (h : ScrPtr W (a.eval x)) :
    (execOp a.eval { dst, op := .load 32 x, type := ty, pos, after, guard }).run Tryz.prog W = .ok (.value (.agg (blkAt W (a.eval x)))) W := by
  obtain ⟨R, cs, t, fr, h0, h1, h2⟩ := h
  have e : blkAt W (a.eval x) = cs := by rw [h0]; unfold blkAt; simp only []; rw [h1]
  rw [e]
  have hi : (Tryz.prog.info? 32).map (·.size) = some 22 := by kernel_rfl
  have hr := run_loadVar_row W R t 32 cs fr _ h1 Tryz.underlying32 rfl (by rw [h2]; exact hi)
  unfold execOp
  simp only [h0, Instr.loadAt, Instr.sureAddr, Sem.run_bind, Sem.run_pure, Result.andThen_ok, hr]
theorem scrPtr_of {W : World} {R : Nat} {t : TypeId} {s : Scr} {cv tv gv : Value} (h : W.heap[R]? = some (.cells (scrA s cv tv gv) t (0, 0))) : ScrPtr W (.pointer (some ⟨R, 0, none⟩)) ∧ blkAt W (.pointer (some ⟨R, 0, none⟩)) = scrA s cv tv gv := by
  refine ⟨⟨_, _, _, _, rfl, h, rfl⟩, ?_⟩
  unfold blkAt
  simp only []
  rw [h]
/-- The 22 words of a screen, as a value. -/
def IsScrV (v : Value) : Prop := ∃ s cv tv gv, v = .agg (scrA s cv tv gv)
theorem isScrV (s : Scr) (cv tv gv : Value) : IsScrV (.agg (scrA s cv tv gv)) := ⟨s, cv, tv, gv, rfl⟩
def IsSliceV (v : Value) : Prop := ∃ a n c, v = .slice a n c
theorem isSliceV (a : Option Addr) (n c : Nat) : IsSliceV (.slice a n c) := ⟨a, n, c, rfl⟩
/-- A screen and its rows: a sheet's words. -/
def sheetOf (v : Value) (rv : Value) : Array Value := match v with
  | .agg cs => cs.push rv
  | _ => #[]
theorem sheetOf_scr (s : Scr) (cv tv gv rv : Value) : sheetOf (.agg (scrA s cv tv gv)) rv = shA s cv tv gv rv := rfl
theorem build_run (W : World) (s : Scr) (cv tv gv : Value) (a : Option Addr) (n c : Nat) : (Instr.build 64 #[(0, .agg (scrA s cv tv gv)), (1, .slice a n c)]).run Tryz.prog W = .ok (.agg (shA s cv tv gv (.slice a n c))) W := by
  kernel_rfl
theorem build_scr (a : Act) (dst : Option Tmp) (x y : Operand) (ty : TypeId) (pos : String) (after : Array Edge) (guard : Option (Nat × Bool)) (W : World) (h : IsScrV (a.eval x)) (hy : IsSliceV (a.eval y)) :
    (execOp a.eval { dst, op := .build 64 #[(0, x), (1, y)], type := ty, pos, after, guard }).run Tryz.prog W = .ok (.value (.agg (sheetOf (a.eval x) (a.eval y)))) W := by
  obtain ⟨s, cv, tv, gv, hx⟩ := h
  obtain ⟨p, n, c, hy⟩ := hy
  unfold execOp
  simp only [List.map_toArray, List.map_cons, List.map_nil, hx, hy, sheetOf_scr, Sem.run_bind, build_run, Sem.run_pure, Result.andThen_ok]
theorem own_shape {w : World} {base : Nat} {e : TypeId} {size : Nat} {v : Value} {n : Nat} {xs : List Value} (h : w.ownsRow base e size v n xs) (hn : 0 < n) : ∃ g c, v = .slice (some ⟨g, 0, none⟩) n c := by
  obtain ⟨h0, h | ⟨g', cap, cur, hv, -⟩⟩ := h
  · omega
  · exact ⟨g', cap, hv⟩
theorem own_slice {w : World} {base : Nat} {e : TypeId} {size : Nat} {v : Value} {n : Nat} {xs : List Value} (h : w.ownsRow base e size v n xs) : ∃ a c, v = .slice a n c := by
  obtain ⟨h0, ⟨rfl, rfl⟩ | ⟨g', cap, cur, hv, -⟩⟩ := h
  · exact ⟨_, _, rfl⟩
  · exact ⟨_, cap, hv⟩
theorem store_at {W : World} {p i : Nat} {A A' : Array Value} {t : TypeId} {v : Value} (h : W.heap[p]? = some (.cells A t (0, 0))) (e : A.setIfInBounds i v = A') : (W.setCell ⟨p, i, none⟩ v).heap[p]? = some (.cells A' t (0, 0)) := by
  rw [← e]
  exact heap_setCell_same W p i _ _ v h
theorem store_off {W : World} {p i k : Nat} {v : Value} (h : k ≠ p) : (W.setCell ⟨p, i, none⟩ v).heap[k]? = W.heap[k]? := heap_setCell_other W ⟨p, i, none⟩ k v h
theorem own_off {W : World} {N p i : Nat} {e : TypeId} {v u : Value} {n : Nat} {xs : List Value} {A : Array Value} {t : TypeId} (h : W.ownsRow N e 1 u n xs) (hp : W.heap[p]? = some (.cells A t (0, 0))) (ht : t ≠ e) : (W.setCell ⟨p, i, none⟩ v).ownsRow N e 1 u n xs :=
  owns_kept h fun g hg => store_off fun eq => by
    obtain ⟨-, B, f, hB⟩ := owns_block h g hg
    rw [eq, hp] at hB
    injection hB with hB
    injection hB with _ hB _
    exact ht hB
theorem own_next {W W' : World} {N : Nat} {e : TypeId} {u : Value} {n : Nat} {xs : List Value} (h : W.ownsRow N e 1 u n xs) (hb : Below W.heap.size W W') : W'.ownsRow N e 1 u n xs :=
  owns_kept h fun g hg => by
    obtain ⟨-, B, f, hB⟩ := owns_block h g hg
    exact hb.block g (heap_lt hB)
theorem chunk_at (a : Option Addr) (L cap n : Nat) (hn : 1 ≤ n) (w : World) :
    Calls Tryz.prog 130 #[.slice a L cap, .int .i64 (n : Int)] w fun e W' => ∃ Bs Bn, e = .returned (.func (.func 156) #[] #[.pointer (some ⟨Bs, 0, none⟩), .pointer (some ⟨Bn, 0, none⟩)]) ∧ Bs < W'.heap.size ∧ Bn < W'.heap.size ∧ W'.cell? ⟨Bs, 0, none⟩ = some (.slice a L cap) ∧ W'.cell? ⟨Bn, 0, none⟩ = some (.int .i64 (n : Int)) ∧ Below w.heap.size w W' := by
  refine (chunk_any a L cap n hn w).mono ?_
  rintro e W ⟨rfl, rfl⟩
  have x0 := heap_alloc_new w (.cells #[.slice a L cap] 22)
  have x1 := heap_alloc_new (w.alloc (.cells #[.slice a L cap] 22)) (.cells #[.int .i64 (n : Int)] 3)
  have y0 : ((w.alloc (.cells #[.slice a L cap] 22)).alloc (.cells #[.int .i64 (n : Int)] 3)).heap[w.heap.size]? = _ := (Below.heap_alloc _ _ _ (by simp)).trans x0
  refine ⟨w.heap.size, w.heap.size + 1, rfl, by simp; omega, by simp, ?_, ?_, ((Below.refl _ _).alloc (Nat.le_refl _) _).alloc (by simp) _⟩
  · simp [World.cell?, y0]
  · have e : (w.alloc (.cells #[.slice a L cap] 22)).heap.size = w.heap.size + 1 := by simp
    rw [e] at x1
    unfold World.cell?
    rw [x1]
    rfl
section
attribute [local go_sem ↓] load_scr build_scr
attribute [local go_sem] isScrV isSliceV sheetOf_scr
set_option maxHeartbeats 4000000 in
theorem open_any (n hh : Nat) (s : Scr) (cv tv gv : Value) (w0 w : World) (hV : ScrV w0 s cv tv gv) (hb0 : Below w0.heap.size w0 w) (hF : Fits s) (hw : s.w = n) (hh' : s.h = hh) (hz : gridErr n hh s.cs = 0) :
    Calls Tryz.prog 73 #[.agg (scrA s cv tv gv)] w fun e W' => ∃ p, e = .returned (.pointer (some ⟨p, 0, none⟩)) ∧ ShAt 64 W' w0.heap.size w.heap.size p s (rowsL n s.cs hh) ∧ Below w.heap.size w W' := by
  have hzz := (Grd.gridErr_zero n hh s.cs).1 hz
  obtain ⟨hsz, hL, -⟩ := hzz
  have hsz' : 1 ≤ (n : Int) ∧ (n : Int) ≤ 120 ∧ 1 ≤ (hh : Int) ∧ (hh : Int) ≤ 60 := by simpa [Grd.isSize] using hsz
  obtain ⟨w1, w2, w3, w4⟩ := hsz'
  have hne : s.cs ≠ [] := by
    intro e
    rw [e] at hL
    have : 1 ≤ n * hh := Nat.mul_pos (by omega) (by omega)
    simp at hL
    omega
  rcases hV.c with ⟨he, -⟩ | ⟨-, b, o, cap, rfl, hc1, hc2, hC⟩
  · exact absurd he hne
  have HL : Hid (s.cs.length = n * hh) := hL
  rw [hL] at hc1 hV ⊢
  have HC : Hid (CellsAt w0 b o s.cs) := hC
  have HB00 : Hid (Below w0.heap.size w0 w) := hb0
  have HW : Hid (s.w = n ∧ s.h = hh) := ⟨hw, hh'⟩
  clear hL hC hz hsz hne hw hh'
  have x0 := heap_alloc_new w (.cells (scrA s (.slice (some ⟨b, o, none⟩) (n * hh) cap) tv gv) 32)
  have kb : Below w.heap.size w (w.alloc (.cells (scrA s (.slice (some ⟨b, o, none⟩) (n * hh) cap) tv gv) 32)) := (Below.refl _ _).alloc (Nat.le_refl _) _
  have HX0 : Hid _ := x0
  have HB0 : Hid _ := kb
  have HV : Hid (ScrV w0 s _ tv gv) := hV
  have HF : Hid (Fits s) := hF
  clear x0 kb hV hF hb0
  have hl0 : w.heap.size < (w.alloc (.cells (scrA s (.slice (some ⟨b, o, none⟩) (n * hh) cap) tv gv) 32)).heap.size := by simp
  go_enter Tryz.func73, Tryz.ntmps73
  go_upto_region 1 with fail
  generalize w.alloc (.cells (scrA s (.slice (some ⟨b, o, none⟩) (n * hh) cap) tv gv) 32) = W1 at *
  go_cut [3] from 3 to 14 (fun c wx => ∃ p rv, c = .pointer (some ⟨p, 0, none⟩) ∧ w.heap.size ≤ p ∧ wx.heap[p]? = some (.cells (shA s (.slice (some ⟨b, o, none⟩) (n * hh) cap) tv gv rv) 64 (0, 0)) ∧ wx.ownsRow w.heap.size 22 1 rv hh ((List.range hh).map (rowV b o n)) ∧ Below W1.heap.size W1 wx)
  case first =>
    have hn1 : 1 ≤ n := by omega
    have SK : Hid (∀ w', Below W1.heap.size W1 w' → Below W1.heap.size W1 w' ∧ ScrPtr w' (.pointer (some ⟨w.heap.size, 0, none⟩)) ∧ blkAt w' (.pointer (some ⟨w.heap.size, 0, none⟩)) = scrA s (.slice (some ⟨b, o, none⟩) (n * hh) cap) tv gv ∧ w'.cell? ⟨w.heap.size, 0, none⟩ = some (.int .i64 (n : Int)) ∧ w'.cell? ⟨w.heap.size, 2, none⟩ = some (.slice (some ⟨b, o, none⟩) (n * hh) cap)) := fun w' hb => by
      have hx := Grd.carry HX0.out hb
      have q := scr_cells hx
      rw [HW.out.1] at q
      exact ⟨hb, (scrPtr_of hx).1, (scrPtr_of hx).2, q.1.1, q.1.2.2.1⟩
    have b0 : Below W1.heap.size W1 W1.drew := (Below.refl _ _).drew
    have HC1 : Hid (n * hh ≤ cap) := hc1
    have hh1 : 0 < hh := by omega
    clear hc1
    go_region_held3 (fun w' => Below W1.heap.size W1 w' ∧ ScrPtr w' (.pointer (some ⟨w.heap.size, 0, none⟩)) ∧ blkAt w' (.pointer (some ⟨w.heap.size, 0, none⟩)) = scrA s (.slice (some ⟨b, o, none⟩) (n * hh) cap) tv gv ∧ w'.cell? ⟨w.heap.size, 0, none⟩ = some (.int .i64 (n : Int)) ∧ w'.cell? ⟨w.heap.size, 2, none⟩ = some (.slice (some ⟨b, o, none⟩) (n * hh) cap))
      (first | exact SK.out _ (c2.alloc c2.size _) | exact SK.out _ c2 | exact SK.out _ c1 | exact SK.out _ b0)
      (first | (go_at_call 130; refine (chunk_at _ _ _ n hn1 _).mono ?_; rintro e V1 ⟨Bs, Bn, rfl, l1, l2, q1, q2, b1⟩; have c1 := b0.trans (b1.mono b0.size); clear b1) | (go_at_call 129; refine (collect_any Bs Bn b o n hh cap hn1 (by omega) (by omega) HC1.out _ l1 l2 q1 q2).mono ?_; rintro e V2 ⟨v, rfl, ho, b2⟩; have c2 := c1.trans (b2.mono c1.size); have HO : Hid (V2.ownsRow V1.heap.size 22 1 v hh ((List.range hh).map (rowV b o n))) := ho; obtain ⟨g, cp, rfl⟩ := own_shape ho hh1; clear b2 ho q1 q2))
    go_wp2_with fail
    go_meet
    exact ⟨V2.heap.size, _, rfl, Nat.le_trans (Nat.le_of_lt hl0) c2.size, heap_alloc_new _ _, Grd.ownsRow_mono (World.ownsRow.alloc HO.out _) (by have := c1.size; omega), c2.alloc c2.size _⟩
  case rest =>
    obtain ⟨p, rv, rfl, hp, hblk, hown, hb⟩ := hcut
    have hne : w.heap.size ≠ p := by
      intro e
      rw [← e, Grd.carry HX0.out hb] at hblk
      injection hblk with hblk
      injection hblk with _ hblk _
      exact absurd hblk (by decide)
    have HX1 : Hid _ := Grd.carry HX0.out hb
    have HP1 : Hid _ := hblk
    have HO1 : Hid _ := hown
    have HB1 : Hid (Below w.heap.size w wc) := HB0.out.trans (hb.mono HB0.out.size)
    clear hblk hown hb
    obtain ⟨-, ⟨-, c12, -⟩, -⟩ := scr_cells HX1.out
    go_wp2_with fail
    refine (cloneBools_any tv s.tabs wc (BoolsV.next HV.out.t (HB00.out.trans (HB1.out.mono HB00.out.size))) HF.out.bl).mono ?_
    rintro e W2 ⟨tv', rfl, ho2, b2⟩
    obtain ⟨ta, tc, rfl⟩ := own_slice ho2
    have hp2 := Grd.carry HP1.out b2
    have f12 := (sh_cells hp2).2.2 12
    have c12' := (sh_cells hp2).2.1.2.1
    clear c12
    have HP2 : Hid _ := store_at (i := 12) (v := .slice ta s.tabs.length tc) hp2 rfl
    have HX2 : Hid _ := (store_off (i := 12) (v := .slice ta s.tabs.length tc) hne).trans (Grd.carry HX1.out b2)
    have HT2 : Hid _ := own_off (i := 12) (v := .slice ta s.tabs.length tc) ho2 hp2 (by decide)
    have HO2 : Hid _ := own_off (i := 12) (v := .slice ta s.tabs.length tc) (own_next HO1.out b2) hp2 (by decide)
    have HB2 : Hid (Below w.heap.size w (W2.setCell ⟨p, 12, none⟩ (.slice ta s.tabs.length tc))) := (HB1.out.trans (b2.mono HB1.out.size)).setCell hp _
    have c20 := (scr_cells (Grd.carry HX1.out b2)).2.1.2.2.2.2.2.2.2.2.2.1
    clear ho2 b2 hp2
    go_wp2_with fail
    refine (Txt.clone_any s.title _ (by have := HF.out.tl; omega)).mono ?_
    rintro e W4 ⟨rfl, b4⟩
    have hp4 := Grd.carry HP2.out b4
    have f20 := (sh_cells hp4).2.2 20
    have c20' := (sh_cells hp4).2.1.2.2.2.2.2.2.2.2.2.1
    have HP4 : Hid _ := store_at (i := 20) (v := .string s.title) hp4 rfl
    have HX4 : Hid _ := (store_off (i := 20) (v := .string s.title) hne).trans (Grd.carry HX2.out b4)
    have HT4 : Hid _ := own_off (i := 20) (v := .string s.title) (own_next HT2.out b4) hp4 (by decide)
    have HO4 : Hid _ := own_off (i := 20) (v := .string s.title) (own_next HO2.out b4) hp4 (by decide)
    have HB4 : Hid (Below w.heap.size w (W4.setCell ⟨p, 20, none⟩ (.string s.title))) := (HB2.out.trans (b4.mono HB2.out.size)).setCell hp _
    have c21 := (scr_cells (Grd.carry HX2.out b4)).2.1.2.2.2.2.2.2.2.2.2.2
    clear b4 hp4 c20 c12' f12
    go_wp2_with fail
    refine (cloneRows_any gv s.gone _ (RowsV.next HV.out.g (HB00.out.trans (HB4.out.mono HB00.out.size))) HF.out.gl).mono ?_
    rintro e W6 ⟨gv', gvs, rfl, ho6, -, hr6, b6⟩
    have HR6 : Hid (RowsL w0 gvs s.gone) := hr6 w0 (HB00.out.trans (HB4.out.mono HB00.out.size)) HV.out.g
    obtain ⟨ga, gc, rfl⟩ := own_slice ho6
    have hp6 := Grd.carry HP4.out b6
    have f21 := (sh_cells hp6).2.2 21
    have c21' := (sh_cells hp6).2.1.2.2.2.2.2.2.2.2.2.2.1
    have HP6 : Hid _ := store_at (i := 21) (v := .slice ga s.gone.length gc) hp6 rfl
    have HT6 : Hid _ := own_off (i := 21) (v := .slice ga s.gone.length gc) (own_next HT4.out b6) hp6 (by decide)
    have HO6 : Hid _ := own_off (i := 21) (v := .slice ga s.gone.length gc) (own_next HO4.out b6) hp6 (by decide)
    have HG6 : Hid _ := own_off (i := 21) (v := .slice ga s.gone.length gc) ho6 hp6 (by decide)
    have HB6 : Hid (Below w.heap.size w (W6.setCell ⟨p, 21, none⟩ (.slice ga s.gone.length gc))) := (HB4.out.trans (b6.mono HB4.out.size)).setCell hp _
    clear ho6 b6 hp6 c21 c20' f20 hr6
    go_wp2_with fail
    go_ret
    have hk : Kept w0.heap.size w0 (W6.setCell ⟨p, 21, none⟩ (.slice ga s.gone.length gc)) := fun k hk _ => (HB00.out.trans (HB6.out.mono HB00.out.size)).block k hk
    have hbw : b < w0.heap.size := lt_of_cells HC.out (by intro e; have := HL.out; rw [e] at this; have h1 : 1 ≤ n * hh := Nat.mul_pos (by omega) (by omega); simp at this; omega)
    refine ⟨p, rfl, ⟨_, _, _, _, gvs, (List.range hh).map (rowV b o n), HP6.out, hp, HB00.out.size, ⟨_, _, _, rfl⟩, Grd.ownsRow_mono HT6.out HB1.out.size, Grd.ownsRow_mono HG6.out HB4.out.size, (RowsIn.of HR6.out rfl).keep hk, ?_, ?_, ?_⟩, HB6.out⟩
    · rw [Grd.rowsL_len]
      exact HO6.out
    · refine ⟨by rw [Grd.rowsL_len]; simp, fun i hi => ?_⟩
      rw [Grd.rowsL_len] at hi
      have e1 : ((List.range hh).map (rowV b o n)).getD i nilV = rowV b o n i := by simp [List.getD, hi]
      have e2 : (rowsL n s.cs hh).getD i [] = Grd.rowAt n s.cs i := by simp [rowsL, List.getD, hi]
      have hle : i * n + n ≤ n * hh := by
        have : (i + 1) * n ≤ hh * n := Nat.mul_le_mul_right n hi
        rw [Nat.mul_comm n hh]
        rw [Nat.add_mul] at this
        omega
      have hlen : (Grd.rowAt n s.cs i).length = n := by
        unfold Grd.rowAt
        rw [List.length_take, List.length_drop, HL.out]
        omega
      have hC2 := HC.out.part (i * n) n (by rw [HL.out]; exact hle)
      have hr : RowIn w0 w0.heap.size (rowV b o n i) (Grd.rowAt n s.cs i) := .inr ⟨by intro e; rw [e] at hlen; simp at hlen; omega, b, _, n, by unfold rowV; rw [hlen], by omega, by omega, hC2, .inl hbw⟩
      rw [e1, e2]
      exact hr.keep hk
    · intro k h1 h2
      obtain ⟨-, A, f, hA⟩ := owns_block HO4.out k h1
      obtain ⟨hB, -⟩ := owns_block HG6.out k h2
      have := heap_lt hA
      omega
end
end Put
end Go.Proofs.YtnkeahfcpbepjaaGreatDoor

/- The reference's GridOf. -/
namespace Go.Proofs.YtnkeahfcpbepjaaGreatDoor
open Go.ChangeShapes Go.WideShapes Go.ChangeAt Go.RowKit Go.Maps
namespace Grd
theorem flatten_next (rows : List (List C)) (k : Nat) (h : k < rows.length) : (rows.take (k + 1)).flatten = (rows.take k).flatten ++ rows.getD k [] := by
  rw [List.take_add_one, List.flatten_append, List.getElem?_eq_getElem h]
  have : rows.getD k [] = rows[k] := by simp [List.getD, h]
  rw [this]
  simp
theorem flatten_len (n : Nat) (rows : List (List C)) (hr : ∀ i, i < rows.length → (rows.getD i []).length = n) : ∀ k, k ≤ rows.length → ((rows.take k).flatten).length = k * n
  | 0, _ => by simp
  | k + 1, h => by
    rw [flatten_next rows k (by omega), List.length_append, flatten_len n rows hr k (by omega), hr k (by omega), Nat.add_mul, Nat.one_mul]
/-- A slice of slices, as an owned row holds it. -/
def OutV (w : World) (v : Value) (vs : List Value) : Prop := ∃ (G cap : Nat) (rest : List Value), v = .slice (some ⟨G, 0, none⟩) vs.length cap ∧ vs.length ≤ cap ∧ cap ≤ 9223372036854775807 ∧ w.heap[G]? = some (.cells (vs ++ rest).toArray 22 (0, 0))
theorem out_of_own {w : World} {base : Nat} {v : Value} {vs : List Value} (h : w.ownsRow base 22 1 v vs.length vs) (hn : 0 < vs.length) : ∃ (G cap : Nat) (rest : List Value), v = .slice (some ⟨G, 0, none⟩) vs.length cap ∧ base ≤ G ∧ vs.length ≤ cap ∧ cap ≤ 9223372036854775807 ∧ w.heap[G]? = some (.cells (vs ++ rest).toArray 22 (0, 0)) := by
  obtain ⟨_, h | ⟨g, cap, cur, hv, hg, hh, hc, hm, hs, htk⟩⟩ := h
  · omega
  · refine ⟨g, cap, cur.toList.drop vs.length, hv, hg, hc, by unfold maxLen at hm; omega, ?_⟩
    rw [Nat.mul_one] at htk
    have e : vs ++ cur.toList.drop vs.length = cur.toList := (congrArg (· ++ cur.toList.drop vs.length) htk).symm.trans (List.take_append_drop _ _)
    rw [hh, e]
theorem out_cell {w : World} {G : Nat} {vs rest : List Value} {t : TypeId} (h : w.heap[G]? = some (.cells (vs ++ rest).toArray t (0, 0))) (i : Nat) (hi : i < vs.length) : w.cell? ⟨G, i, none⟩ = some (vs.getD i nilV) := by
  unfold World.cell?
  rw [h]
  simp [List.getElem?_append_left hi, List.getElem?_eq_getElem hi, List.getD]
set_option maxHeartbeats 4000000 in
set_option maxRecDepth 100000 in
theorem gridOf_any (n hh G cap base : Nat) (vs rest : List Value) (gs : List Nat) (rows : List (List C)) (w : World) (hn : 1 ≤ n) (hn' : n ≤ 120) (hh1 : 1 ≤ hh) (hh' : hh ≤ 60) (hG : w.heap[G]? = some (.cells (vs ++ rest).toArray 22 (0, 0))) (hR : RowsAt w base vs gs rows) (hrl : rows.length = hh) (hrn : ∀ i, i < rows.length → (rows.getD i []).length = n) :
    Calls Tryz.prog 127 #[.slice (some ⟨G, 0, none⟩) hh cap] w fun e w' => ∃ v, e = .returned (.agg #[.int .i64 (n : Int), .int .i64 (hh : Int), v]) ∧ OwnG w' w.heap.size v rows.flatten ∧ Below w.heap.size w w' := by
  obtain ⟨i0, hi, hzz⟩ := Option.map_eq_some_iff.1 info_cell
  simp only [Prod.mk.injEq] at hzz
  obtain ⟨hz0, hz1, hz2⟩ := hzz
  have hGw : G < w.heap.size := blk_lt hG
  have hvl : vs.length = hh := by rw [hR.1, hrl]
  have HG : Hid (∀ W, Below w.heap.size w W → ∀ i, i < hh → W.cell? ⟨G, i, none⟩ = some (vs.getD i nilV)) := fun W k i hi' => out_cell (carry hG k) i (by omega)
  have HR : Hid (∀ W, Below w.heap.size w W → ∀ i, i < hh → RowB W (gs.getD i 0) (vs.getD i nilV) (rows.getD i [])) := fun W k i hi' => ((hR.below k).2.2.2 i (by omega)).2
  have HRN : Hid (∀ i, i < hh → (rows.getD i []).length = n) := fun i hi' => hrn i (by omega)
  have HNX : Hid (∀ k, k < hh → (rows.take (k + 1)).flatten = (rows.take k).flatten ++ rows.getD k []) := fun k hk => flatten_next rows k (by omega)
  have HTL : Hid (∀ k, k ≤ hh → ((rows.take k).flatten).length = k * n) := fun k hk => flatten_len n rows hrn k (by omega)
  have HALL : Hid ((rows.take hh).flatten = rows.flatten) := by unfold Hid; rw [List.take_of_length_le (by omega)]
  have hprod : hh * n ≤ 7200 := by have := Nat.mul_le_mul hh' hn'; omega
  obtain ⟨c0, r0, hv0, hl0, hm0, _⟩ := HR.out w (Below.refl _ _) 0 (by omega)
  rw [HRN.out 0 (by omega)] at hv0
  have x0 : (w.alloc (.cells #[.int .i64 0, .int .i64 0, .slice none 0 0] 24)).cell? ⟨G, 0, none⟩ = some (.slice (some ⟨gs.getD 0 0, 0, none⟩) n c0) := by
    rw [← hv0]; exact HG.out _ ((Below.refl _ _).alloc (Nat.le_refl _) _) 0 (by omega)
  clear hR hrn hG hv0 hl0 hm0
  generalize gs.getD 0 0 = g00 at x0
  go_enter Tryz.func127, Tryz.ntmps127
  go_wp2_with (first
    | (refine wpList_store_row rfl 24 (.tmp 3) _ rfl (w.heap.size + 1) #[.int .i64 (n : Int), .int .i64 (hh : Int), .slice none 0 0] rfl rfl _ _ (heap_alloc2_new w _ _) (by kernel_rfl) rfl (one3v _ _ _ _ _) ?_))
  have y0 : (((w.alloc (.cells #[.int .i64 0, .int .i64 0, .slice none 0 0] 24)).alloc (.cells #[.int .i64 0, .int .i64 0, .slice none 0 0] 24)).setRow (w.heap.size + 1) #[.int .i64 (n : Int), .int .i64 (hh : Int), .slice none 0 0]).heap[w.heap.size]? = some (.cells #[.int .i64 0, .int .i64 0, .slice none 0 0] 24 (0, 0)) := by
    rw [setRow_other _ _ _ _ (by omega), Below.heap_alloc _ _ _ (by simp), heap_alloc_new]
  have y1 := setRow_heap _ _ _ #[.int .i64 (n : Int), .int .i64 (hh : Int), .slice none 0 0] _ _ (heap_alloc2_new w (.cells #[.int .i64 0, .int .i64 0, .slice none 0 0] 24) (.cells #[.int .i64 0, .int .i64 0, .slice none 0 0] 24))
  have kX : Below w.heap.size w (((w.alloc (.cells #[.int .i64 0, .int .i64 0, .slice none 0 0] 24)).alloc (.cells #[.int .i64 0, .int .i64 0, .slice none 0 0] 24)).setRow (w.heap.size + 1) #[.int .i64 (n : Int), .int .i64 (hh : Int), .slice none 0 0]) := below_setRow (((Below.refl _ _).alloc (Nat.le_refl _) _).alloc (by simp) _) (by omega) _
  generalize (((w.alloc (.cells #[.int .i64 0, .int .i64 0, .slice none 0 0] 24)).alloc (.cells #[.int .i64 0, .int .i64 0, .slice none 0 0] 24)).setRow (w.heap.size + 1) #[.int .i64 (n : Int), .int .i64 (hh : Int), .slice none 0 0]) = X at *
  go_loopg [15] hh (fun q i wr => ∃ (k : Nat) (u : Value), i = .int .i64 (k : Int) ∧ k ≤ hh ∧ hh - k ≤ q ∧ Below w.heap.size w wr ∧ wr.heap[w.heap.size]? = some (.cells #[.int .i64 0, .int .i64 0, .slice none 0 0] 24 (0, 0)) ∧ wr.heap[w.heap.size + 1]? = some (.cells #[.int .i64 (n : Int), .int .i64 (hh : Int), u] 24 (0, 0)) ∧ wr.ownsRow (w.heap.size + 2) 91 4 u (k * n) (flat (rows.take k).flatten))
  case atStart => exact ⟨0, _, rfl, by omega, by omega, kX, y0, y1, by rw [Nat.zero_mul]; exact World.ownsRow_nil _ _ _ _⟩
  case round =>
    clear y0 y1 kX x0
    obtain ⟨k, u, rfl, hk, hq, hb, v0, v1, hown⟩ := hrel
    have ⟨d0, d1, d2, df⟩ := cells3 v1
    have HO : Hid (wr.ownsRow (w.heap.size + 2) 91 4 u (k * n) (flat (rows.take k).flatten)) := hown
    have hsz := blk_lt v1
    clear hown
    by_cases hlt : k < hh
    · have lt1 : ((k : Int) < (hh : Int)) := by omega
      have hrow := HR.out wr hb k hlt
      have hsrc := cellsAt_src hrow.cells
      have hcell := HG.out wr hb k hlt
      obtain ⟨cp, rs, hvk, hl1, hm1, _⟩ := hrow
      rw [hvk, HRN.out k hlt] at hcell
      have HS : Hid (∀ j u, (flat (rows.getD k []))[j]? = some u → wr.cell? ((⟨gs.getD k 0, 0, none⟩ : Addr).add j) = some u) := hsrc
      have HF : Hid ((flat (rows.getD k [])).length = n * 4) := by unfold Hid; rw [flat_len, HRN.out k hlt]
      have HON : Hid (∀ u ∈ flat (rows.getD k []), u.oneCell' = true) := flat_one _
      have HN2 : Hid (flat (rows.take (k + 1)).flatten = flat (rows.take k).flatten ++ flat (rows.getD k [])) := by unfold Hid; rw [HNX.out k hlt, flat_append]
      have hkn : (k + 1) * n ≤ hh * n := Nat.mul_le_mul_right _ hlt
      have hkn2 : (k + 1) * n = k * n + n := by rw [Nat.add_mul, Nat.one_mul]
      have hfrom := own_from HO.out
      have hfz := df 2
      clear hsrc hvk df hl1 hm1
      generalize gs.getD k 0 = gk0 at *
      generalize flat (rows.getD k []) = fr at *
      generalize hK : k * n = kn at *
      go_wp2_with (first
        | (at_builtin; refine wpList_append_own _ rfl _ _ 22 rfl (w.heap.size + 2) 91 i0 (.agg #[.int .i32 0, .int .i64 0, .int .i64 0, .int .i64 0]) 4 32 und_cells hi hz0 hz1 hz2 rfl (by decide) _ _ _ rfl HO.out ⟨gk0, 0, none⟩ n cp fr rfl HF.out HS.out HON.out (by unfold maxLen; omega) (by omega) (by omega) ?_
           intro v3 W3 hown3 hgrow hnil
           have w0 := (hgrow.block _ (by omega) (fun e => by have := hfrom _ e.symm; omega)).trans v0
           have w1 := (hgrow.block (w.heap.size + 1) (by omega) (fun e => by have := hfrom _ e.symm; omega)).trans v1
           have k3 := hb.grown hgrow (by omega) (fun q hq => by have := hfrom q hq; omega)
           have ⟨g0, g1, g2, gf⟩ := cells3 w1
           have hfz2 := gf 2
           obtain ⟨q3, c3, hv3⟩ : ∃ q c, v3 = .slice q (kn + n) c := by
             rcases hown3.2 with h | ⟨g, c, _, h, _⟩
             · have := h.2; omega
             · exact ⟨_, _, h⟩
           have HO3 : Hid (W3.ownsRow (w.heap.size + 2) 91 4 v3 (kn + n) (flat (rows.take k).flatten ++ fr)) := hown3
           clear hown3 hnil
           subst hv3))
      go_roundg (hh - (k + 1))
      case measure => omega
      case rel =>
        refine ⟨k + 1, .slice q3 (kn + n) c3, rfl, by omega, by omega, k3.setCell (by dsimp only; omega) _, ?_, ?_, ?_⟩
        · rw [heap_setCell_other _ _ _ _ (by dsimp only; omega)]; exact w0
        · have := heap_setCell_same W3 (w.heap.size + 1) 2 _ _ (.slice q3 (kn + n) c3) w1
          exact this
        · rw [hkn2, HN2.out]
          exact ownsRow_setCell_below HO3.out (by dsimp only; omega) _
    · have lt1 : ¬ ((k : Int) < (hh : Int)) := by omega
      have hkh : k = hh := by omega
      have HAL : Hid ((rows.take k).flatten = rows.flatten) := by unfold Hid; rw [hkh]; exact HALL.out
      have HLL : Hid (rows.flatten.length = k * n) := by have := HTL.out k (by omega); rw [HAL.out] at this; exact this
      have hpos : 0 < k * n := Nat.mul_pos (by omega) (by omega)
      have HO' := HO.out
      rw [HAL.out, ← HLL.out] at HO'
      have hnn : u ≠ .slice none 0 0 := by
        intro e
        rcases HO'.2 with h | ⟨g, c, _, h, _⟩
        · have := h.2; rw [HLL.out] at this; omega
        · rw [e] at h; simp at h
      obtain ⟨g, cp, rs, t, rfl, hgb, hlc, hcm2, hgh⟩ := own_of_row HO' hnn
      clear HO HO' hnn
      obtain ⟨Lf, hLf⟩ : ∃ q, q = rows.flatten.length := ⟨_, rfl⟩
      have HLF : Hid (Lf = rows.flatten.length) := hLf
      rw [← hLf] at v1 d2 hlc
      clear hLf
      go_wp2_with (first
        | (refine wpList_load_row rfl 24 _ rfl (w.heap.size + 1) rfl _ _ _ _ v1 Tryz.underlying24 rfl (by kernel_rfl) ?_)
        | (refine wpList_store_row rfl 24 (.tmp 2) _ rfl w.heap.size #[.int .i64 (n : Int), .int .i64 (hh : Int), .slice (some ⟨g, 0, none⟩) Lf cp] rfl rfl _ _ v0 (by kernel_rfl) rfl (one3v _ _ _ _ _) ?_))
      (try simp only [Exit.inBlock, Exit.then])
      refine bodyPost_ret (v := .agg #[.int .i64 (n : Int), .int .i64 (hh : Int), .slice (some ⟨g, 0, none⟩) Lf cp]) ?_ rfl ⟨_, rfl, ⟨g, cp, rs, t, by rw [HLF.out], by omega, by rw [← HLF.out]; exact hlc, hcm2, ?_⟩, below_setRow hb (Nat.le_refl _) _⟩
      · exact results_cell_row rfl _ _ w.heap.size _ _ _ _ rfl (setRow_heap _ _ _ _ _ _ v0) Tryz.underlying24 rfl (by kernel_rfl)
      · rw [setRow_other _ _ _ _ (by omega)]
        exact hgh
end Grd
end Go.Proofs.YtnkeahfcpbepjaaGreatDoor

/- slices.Grow of nothing, slices.Concat of rows. -/
namespace Go.Proofs.YtnkeahfcpbepjaaGreatDoor
open Go.ChangeShapes Go.WideShapes Go.ChangeAt Go.RowKit
namespace Put
open Grd (C SliceAt CellsAt gridErr z0 nilV flat)
set_option maxHeartbeats 1000000 in
set_option maxRecDepth 100000 in
theorem grow_any (n : Nat) (hn : n ≤ 16777216) (w : World) :
    Calls Tryz.prog 142 #[.slice none 0 0, .int .i64 (n : Int)] w fun e w' => ∃ v', e = .returned v' ∧ w'.ownsRow w.heap.size 91 4 v' 0 [] ∧ Below w.heap.size w w' := by
  obtain ⟨i0, hi, hzz⟩ := Option.map_eq_some_iff.1 Grd.info_cell
  simp only [Prod.mk.injEq] at hzz
  obtain ⟨hz0, hz1, hz2⟩ := hzz
  by_cases h0 : n = 0
  · subst h0
    go_enter Tryz.func142, Tryz.ntmps142
    go_wp2_with fail
    go_ret
    exact ⟨_, rfl, World.ownsRow_nil _ _ _ _, Below.refl _ _⟩
  · have h1 : ¬ (n : Int) < 0 := by omega
    have h2 : (0 : Int) < (n : Int) := by omega
    have hr := Lib.run_append_nil_zeros (P := Tryz.prog) w 22 3 22 91 i0 _ .i64 .i64 Grd.und_cells (by kernel_rfl) hi hz0 n (by omega) (by rw [hz1]; omega) (by omega) (by rw [hz2]; omega)
    have HM : Hid ((w.drew.alloc (.cells (Builtin.zeroCells (Value.agg #[.int .i32 0, .int .i64 0, .int .i64 0, .int .i64 0]).cells n ++ Builtin.zeroCells (Value.agg #[.int .i32 0, .int .i64 0, .int .i64 0, .int .i64 0]).cells (grownCap w n 0 91 - n)) 91)).ownsRow w.heap.size 91 4 (.slice (some ⟨w.heap.size, 0, none⟩) 0 (grownCap w n 0 91)) 0 []) := by
      refine World.ownsRow_made w.drew _ _ (Nat.le_refl _) (grownCap_le_maxLen w n 0 _ (by unfold maxLen; omega)) ?_
      rw [Array.size_append, size_zeroCells, size_zeroCells]
      have := grownCap_ge w n 0 91
      have e : (Value.agg #[.int .i32 0, .int .i64 0, .int .i64 0, .int .i64 0]).cells.size = 4 := rfl
      rw [e]
      omega
    have HB : Hid (Below w.heap.size w (w.drew.alloc (.cells (Builtin.zeroCells (Value.agg #[.int .i32 0, .int .i64 0, .int .i64 0, .int .i64 0]).cells n ++ Builtin.zeroCells (Value.agg #[.int .i32 0, .int .i64 0, .int .i64 0, .int .i64 0]).cells (grownCap w n 0 91 - n)) 91))) := ((Below.refl _ w).drew).alloc (Nat.le_refl _) _
    have HR : Hid _ := hr
    clear hr
    generalize w.drew.alloc (.cells (Builtin.zeroCells (Value.agg #[.int .i32 0, .int .i64 0, .int .i64 0, .int .i64 0]).cells n ++ Builtin.zeroCells (Value.agg #[.int .i32 0, .int .i64 0, .int .i64 0, .int .i64 0]).cells (grownCap w n 0 91 - n)) 91) = W1 at *
    have hg1 := grownCap_ge w n 0 91
    have hg2 : grownCap w n 0 91 ≤ 9223372036854775807 := by have := grownCap_le_maxLen w n 0 91 (by unfold maxLen; omega); unfold maxLen at this; omega
    generalize grownCap w n 0 91 = gc at *
    go_enter Tryz.func142, Tryz.ntmps142
    go_wp2_with (at_builtin; refine Lib.wpList_append_run _ rfl _ _ _ _ rfl _ _ rfl rfl _ _ HR.out ?_)
    go_ret
    exact ⟨_, rfl, HM.out, HB.out⟩
theorem own_slice' {w : World} {base : Nat} {e : TypeId} {size : Nat} {v : Value} {n : Nat} {xs : List Value} (h : w.ownsRow base e size v n xs) : ∃ a c, v = .slice a n c := by
  obtain ⟨h0, ⟨rfl, rfl⟩ | ⟨g', cap, cur, hv, -⟩⟩ := h
  · exact ⟨_, _, rfl⟩
  · exact ⟨_, cap, hv⟩
theorem own_from' {w : World} {base : Nat} {e : TypeId} {size : Nat} {v : Value} {n : Nat} {xs : List Value} (h : w.ownsRow base e size v n xs) : ∀ k, v.ownBlock = some k → base ≤ k := fun k hk => (owns_block h k hk).1
theorem flat_nil : flat [] = [] := rfl
/-- How many cells the first k rows have. -/
def lenTo (rows : List (List C)) (k : Nat) : Nat := (rows.take k).flatten.length
theorem lenTo_succ (rows : List (List C)) (k : Nat) (h : k < rows.length) : lenTo rows (k + 1) = lenTo rows k + (rows.getD k []).length := by
  unfold lenTo
  rw [Grd.flatten_next rows k h, List.length_append]
theorem lenTo_le (rows : List (List C)) (k m : Nat) (h : k ≤ m) : lenTo rows k ≤ lenTo rows m := by
  have e : rows.take m = rows.take k ++ (rows.take m).drop k := by
    have h1 := List.take_append_drop k (rows.take m)
    rw [List.take_take, Nat.min_eq_left h] at h1
    exact h1.symm
  unfold lenTo
  rw [e, List.flatten_append, List.length_append]
  omega
theorem lenTo_all (rows : List (List C)) : lenTo rows rows.length = rows.flatten.length := by
  unfold lenTo
  rw [List.take_of_length_le (Nat.le_refl _)]
set_option maxHeartbeats 400000 in
set_option maxRecDepth 100000 in
theorem concat_any (b o pc : Nat) (rows : List (List C)) (w : World) (hV : ∀ j, j < rows.length → ∃ b' o' c', w.cell? ⟨b, o + j, none⟩ = some (.slice (some ⟨b', o', none⟩) (rows.getD j []).length c') ∧ CellsAt w b' o' (rows.getD j [])) (cs : List C) (hcs : rows.flatten = cs) (hl : cs.length ≤ 1048576) (hrl : rows.length ≤ 1048576) :
    Calls Tryz.prog 97 #[.slice (some ⟨b, o, none⟩) rows.length pc] w fun e w' => ∃ v', e = .returned v' ∧ w'.ownsRow w.heap.size 91 4 v' cs.length (flat cs) ∧ Below w.heap.size w w' := by
  obtain ⟨i0, hi, hzz⟩ := Option.map_eq_some_iff.1 Grd.info_cell
  simp only [Prod.mk.injEq] at hzz
  obtain ⟨hz0, hz1, hz2⟩ := hzz
  have hlt := lenTo_all rows
  rw [hcs] at hlt
  have HLA : Hid (∀ k, k ≤ rows.length → lenTo rows k ≤ 1048576) := fun k hk => by have := lenTo_le rows k rows.length hk; omega
  have HLS : Hid (∀ k, k < rows.length → lenTo rows (k + 1) = lenTo rows k + (rows.getD k []).length) := fun k hk => lenTo_succ rows k hk
  have HLL : Hid (lenTo rows rows.length = cs.length) := hlt
  have HNX : Hid (∀ k, k < rows.length → flat (rows.take (k + 1)).flatten = flat (rows.take k).flatten ++ flat (rows.getD k [])) := fun k hk => by rw [Grd.flatten_next rows k hk, Grd.flat_append]
  have HALL : Hid ((rows.take rows.length).flatten = cs) := by unfold Hid; rw [List.take_of_length_le (Nat.le_refl _), hcs]
  have HROW : Hid (∀ j, j < rows.length → ∃ b' o' c', w.cell? ⟨b, o + j, none⟩ = some (.slice (some ⟨b', o', none⟩) (rows.getD j []).length c') ∧ CellsAt w b' o' (rows.getD j [])) := hV
  have HLX : Hid (∀ k, k = rows.length → lenTo rows k = cs.length) := fun k e => by rw [e]; exact hlt
  clear hV hlt hcs
  go_enter Tryz.func97, Tryz.ntmps97
  go_wp2_with fail
  go_loopg [3, 11] rows.length (fun q z i wr => ∃ k : Nat, k ≤ rows.length ∧ rows.length - k ≤ q ∧ i = .int .i64 (k : Int) ∧ z = .int .i64 ((lenTo rows k : Nat) : Int) ∧ w = wr)
  case atStart => exact ⟨0, by omega, by omega, rfl, rfl, rfl⟩
  case round =>
    obtain ⟨k, hk, hq, rfl, rfl, hwr⟩ := hrel
    subst hwr
    by_cases hlt : k < rows.length
    · have lt1 : ((k : Int) < (rows.length : Int)) := by omega
      obtain ⟨b', o', c', hrv, hS⟩ := HROW.out k hlt
      have l1 := HLA.out (k + 1) (by omega)
      have l2 := HLS.out k hlt
      have HS2 : Hid (lenTo rows k + (rows.getD k []).length = lenTo rows (k + 1)) := l2.symm
      rw [l2] at l1
      clear hS l2
      generalize (rows.getD k []).length = rl at *
      have l3 : ¬ ((lenTo rows k : Nat) : Int) + (rl : Int) < 0 := by omega
      go_wp2_with fail
      go_roundg (rows.length - (k + 1))
      case measure => omega
      case rel => exact ⟨k + 1, by omega, by omega, by go_num, by rw [← HS2.out]; go_num, rfl⟩
    · obtain rfl : k = rows.length := by omega
      have lt1 : ¬ ((rows.length : Int) < (rows.length : Int)) := by omega
      have l9 := HLA.out rows.length (Nat.le_refl _)
      generalize lenTo rows rows.length = ll at *
      go_wp2_with fail
      refine (grow_any ll (by omega) _).mono ?_
      rintro e W1 ⟨v1, rfl, ho1, b1⟩
      obtain ⟨va, vc, rfl⟩ := own_slice' ho1
      have HO1 : Hid (W1.ownsRow w.heap.size 91 4 (.slice va 0 vc) 0 []) := ho1
      have HB1 : Hid (Below w.heap.size w W1) := b1
      clear ho1 b1
      go_wp2_with fail
      go_loopg [6, 27] rows.length (fun q v i wr => ∃ k : Nat, k ≤ rows.length ∧ rows.length - k ≤ q ∧ i = .int .i64 (k : Int) ∧ wr.ownsRow w.heap.size 91 4 v (lenTo rows k) (flat (rows.take k).flatten) ∧ Below w.heap.size w wr)
      case atStart => exact ⟨0, by omega, by omega, rfl, HO1.out, HB1.out⟩
      case round =>
        obtain ⟨k, hk, hq, rfl, hown, hb⟩ := hrel
        have HO : Hid (wr.ownsRow w.heap.size 91 4 _ (lenTo rows k) (flat (rows.take k).flatten)) := hown
        have HB : Hid (Below w.heap.size w wr) := hb
        obtain ⟨va2, vc2, rfl⟩ := own_slice' hown
        clear hown hb
        by_cases hlt : k < rows.length
        · have lt2 : ((k : Int) < (rows.length : Int)) := by omega
          obtain ⟨b', o', c', hrv, hS⟩ := HROW.out k hlt
          have hrv2 := cell_stay HB.out hrv
          have HSR : Hid _ := Grd.cellsAt_src (hS.below HB.out)
          have HS2 : Hid (lenTo rows (k + 1) = lenTo rows k + (rows.getD k []).length) := HLS.out k hlt
          have l1 := HLA.out (k + 1) (by omega)
          rw [HS2.out] at l1
          have HN : Hid _ := HNX.out k hlt
          have HF : Hid ((flat (rows.getD k [])).length = (rows.getD k []).length * 4) := Grd.flat_len _
          have HON : Hid (∀ u ∈ flat (rows.getD k []), u.oneCell' = true) := Grd.flat_one _
          have hbs := HB.out.size
          clear hrv hS
          generalize (rows.getD k []).length = rl at *
          generalize flat (rows.getD k []) = fr at *
          go_wp2_with (first
            | (at_builtin; refine wpList_append_own _ rfl _ _ 22 rfl w.heap.size 91 i0 (.agg #[.int .i32 0, .int .i64 0, .int .i64 0, .int .i64 0]) 4 32 Grd.und_cells hi hz0 hz1 hz2 rfl (by decide) _ _ _ rfl HO.out ⟨b', o', none⟩ rl c' fr rfl HF.out HSR.out HON.out (by unfold maxLen; omega) (by omega) (by omega) ?_
               intro v3 W3 hown3 hgrow hnil))
          have HO3 : Hid (W3.ownsRow w.heap.size 91 4 v3 (lenTo rows k + rl) (flat (rows.take k).flatten ++ fr)) := hown3
          have HB3 : Hid (Below w.heap.size w W3) := HB.out.grown hgrow hbs (fun g hg => (own_from' HO.out g hg))
          clear hown3 hgrow
          go_wp2_with fail
          go_roundg (rows.length - (k + 1))
          case measure => omega
          case rel => exact ⟨k + 1, by omega, by omega, by go_num, by rw [HS2.out, HN.out]; exact HO3.out, HB3.out⟩
        · obtain rfl : k = rows.length := by omega
          have lt2 : ¬ ((rows.length : Int) < (rows.length : Int)) := by omega
          go_wp2_with fail
          go_ret
          refine ⟨_, rfl, ?_, HB.out⟩
          have h := HO.out
          rw [HALL.out] at h
          rw [← HLX.out _ rfl]
          exact h
end Put
end Go.Proofs.YtnkeahfcpbepjaaGreatDoor

/- slices.Equal and SameGrid of cells of any number; slices.Clone of any cells; own. -/
namespace Go.Proofs.YtnkeahfcpbepjaaGreatDoor
open Go.ChangeShapes Go.WideShapes Go.ChangeAt Go.RowKit
namespace Grd
set_option maxHeartbeats 1000000 in
theorem equal_cells_big (b1 o1 c1 b2 o2 c2 : Nat) (cs : List C) (w : World) (h1 : CellsAt w b1 o1 cs) (h2 : CellsAt w b2 o2 cs) (hn : cs.length ≤ 4398046511104) :
    Calls Tryz.prog 153 #[.slice (some ⟨b1, o1, none⟩) cs.length c1, .slice (some ⟨b2, o2, none⟩) cs.length c2] w fun e w' => e = .returned (.bool true) ∧ Below w.heap.size w w' := by
  have H1 : Hid (CellsAt w b1 o1 cs) := h1
  have H2 : Hid (CellsAt w b2 o2 cs) := h2
  clear h1 h2
  generalize hl : cs.length = L at *
  have HL : Hid (cs.length = L) := hl
  clear hl
  have ne : ((L : Int) != (L : Int)) = false := by simp
  go_enter Tryz.func153, Tryz.ntmps153
  go_wp2_with fail
  go_loopg [13] L (fun g i wr => ∃ k : Nat, i = .int .i64 (k : Int) ∧ k ≤ L ∧ L - k ≤ g ∧ Below w.heap.size w wr)
  case atStart => exact ⟨0, rfl, by omega, by omega, Below.refl _ _⟩
  case round =>
    obtain ⟨k, rfl, hk, hg, hb⟩ := hrel
    by_cases hlt : k < L
    · have lt1 : ((k : Int) < (L : Int)) := by omega
      obtain ⟨p0, p1, p2, p3⟩ := H1.out.below hb k (by rw [HL.out]; exact hlt)
      obtain ⟨q0, q1, q2, q3⟩ := H2.out.below hb k (by rw [HL.out]; exact hlt)
      rcases hc : cs.getD k z0 with ⟨r, f, bk, x⟩
      rw [hc] at p0 p1 p2 p3 q0 q1 q2 q3
      dsimp only at p0 p1 p2 p3 q0 q1 q2 q3
      clear hc
      have nq := neq_cell r f bk x
      go_wp2_with fail
      go_region
      go_wp2_with fail
      go_roundg (L - (k + 1))
      case measure => omega
      case rel => exact ⟨k + 1, rfl, by omega, by omega, hb.drew⟩
    · have lt1 : ¬ ((k : Int) < (L : Int)) := by omega
      go_wp2_with fail
      go_ret
      exact ⟨rfl, hb⟩
theorem equal_slices_big (v1 v2 : Value) (cs : List C) (w : World) (h1 : SliceAt w v1 cs) (h2 : SliceAt w v2 cs) (hn : cs.length ≤ 4398046511104) :
    Calls Tryz.prog 153 #[v1, v2] w fun e w' => e = .returned (.bool true) ∧ Below w.heap.size w w' := by
  rcases h1 with ⟨rfl, a1, c1, rfl⟩ | ⟨h0, b1, o1, c1, rfl, _, _, hC1⟩
  · rcases h2 with ⟨_, a2, c2, rfl⟩ | ⟨h0, _⟩
    · exact equal_empty a1 a2 c1 c2 w
    · exact absurd rfl h0
  · rcases h2 with ⟨rfl, _⟩ | ⟨_, b2, o2, c2, rfl, _, _, hC2⟩
    · exact absurd rfl h0
    · exact equal_cells_big b1 o1 c1 b2 o2 c2 cs w hC1 hC2 hn
set_option maxHeartbeats 1000000 in
/-- SameGrid of two grids that read alike. -/
theorem same_any_big (a h : Int) (v1 v2 : Value) (cs : List C) (w : World) (h1 : SliceAt w v1 cs) (h2 : SliceAt w v2 cs) (hn : cs.length ≤ 4398046511104) :
    Calls Tryz.prog 118 #[.agg #[.int .i64 a, .int .i64 h, v1], .agg #[.int .i64 a, .int .i64 h, v2]] w fun e w' => e = .returned (.bool true) ∧ Below w.heap.size w w' := by
  have H1 : Hid (SliceAt w v1 cs) := h1
  have H2 : Hid (SliceAt w v2 cs) := h2
  clear h1 h2
  have kk : Below w.heap.size w ((w.alloc (.cells #[.int .i64 a, .int .i64 h, v1] 24)).alloc (.cells #[.int .i64 a, .int .i64 h, v2] 24)) := ((Below.refl _ _).alloc (Nat.le_refl _) _).alloc (by simp) _
  have aa : (a == a) = true := by simp
  have ee : (h == h) = true := by simp
  go_enter Tryz.func118, Tryz.ntmps118
  go_wp2_with (first | (go_at_call 153; refine (equal_slices_big v1 v2 cs _ (H1.out.below kk) (H2.out.below kk) hn).mono ?_; rintro e W1 ⟨rfl, b1⟩))
  go_ret
  exact ⟨rfl, kk.trans (b1.mono kk.size)⟩
set_option maxHeartbeats 1000000 in
theorem clone_empty (a : Option Addr) (c : Nat) (w : World) :
    Calls Tryz.prog 115 #[.slice a 0 c] w fun e w' => ∃ a' c', e = .returned (.slice a' 0 c') ∧ Below w.heap.size w w' := by
  obtain ⟨i0, hi, hzz⟩ := Option.map_eq_some_iff.1 info_cell
  simp only [Prod.mk.injEq] at hzz
  obtain ⟨hz0, hz1, hz2⟩ := hzz
  have qn : ∀ (w : World) (a : Option Addr) (n c n' c' : Nat), (binOp .eql 22 (.slice a n c) (.slice none n' c')).run Tryz.prog w = .ok (.bool a.isNone) w := fun w a n c n' c' => Lib.run_eql_slice_nil w _ _ a n c n' c' und_cells
  cases a with
  | none =>
    go_enter Tryz.func115, Tryz.ntmps115
    go_wp2_with fail
    go_ret
    exact ⟨_, _, rfl, Below.refl _ _⟩
  | some ad =>
    go_enter Tryz.func115, Tryz.ntmps115
    go_wp2_with (at_builtin; refine wpList_append_own _ rfl _ _ 22 rfl w.heap.size 91 i0 (.agg #[.int .i32 0, .int .i64 0, .int .i64 0, .int .i64 0]) 4 32 und_cells hi hz0 hz1 hz2 rfl (by decide) _ _ _ rfl (World.ownsRow_made w #[] 0 (Nat.le_refl _) (Nat.zero_le _) rfl) ad 0 c [] rfl rfl (by simp) (by simp) (by unfold maxLen; omega) (by omega) (by simp) ?_)
    intro v' w1 hown hgrow hnil
    have hsh : ∃ a' c', v' = .slice a' 0 c' := by
      rcases hown.2 with h | ⟨g, cp, _, h, _⟩
      · exact ⟨_, _, h.1⟩
      · exact ⟨_, _, h⟩
    obtain ⟨a', c', rfl⟩ := hsh
    go_wp2_with fail
    go_ret
    exact ⟨a', c', rfl, ((Below.refl _ w).alloc (Nat.le_refl _) _).grown hgrow (by simp) (by intro k hk; simp [Value.ownBlock] at hk; omega)⟩
theorem clone_any (v : Value) (cs : List C) (w : World) (hS : SliceAt w v cs) (hbig : cs.length * 32 ≤ 140737488355328) :
    Calls Tryz.prog 115 #[v] w fun e w' => ∃ a' c', e = .returned (.slice a' cs.length c') ∧ (cs = [] ∨ OwnG w' w.heap.size (.slice a' cs.length c') cs) ∧ Below w.heap.size w w' := by
  rcases hS with ⟨rfl, a, c, rfl⟩ | ⟨hne, b, o, c, rfl, hc, hm, hC⟩
  · exact (clone_empty a c w).mono fun e w' ⟨a', c', he, hb⟩ => ⟨a', c', he, .inl rfl, hb⟩
  · exact (clone_cells b o c cs w hC hbig).mono fun e w' ⟨v', he, ho, hb⟩ => by
      have ho' := ho
      obtain ⟨g, cp, rs, t, rfl, _⟩ := ho
      exact ⟨_, _, he, .inr ho', hb⟩
end Grd
end Go.Proofs.YtnkeahfcpbepjaaGreatDoor

/- What a sheet's rows keep while something is stored; rows that are cloned. -/
namespace Go.Proofs.YtnkeahfcpbepjaaGreatDoor
set_option linter.unusedVariables false
open Go.ChangeShapes Go.WideShapes Go.ChangeAt Go.RowKit
namespace Put
open Grd (C SliceAt CellsAt gridErr z0 nilV flat rowsL RowB)
theorem Kept.store {W : World} {N p i : Nat} {v : Value} {A : Array Value} {t : TypeId} (hp : W.heap[p]? = some (.cells A t (0, 0))) (ht : t ≠ 91) (hN : N ≤ p) : Kept N W (W.setCell ⟨p, i, none⟩ v) := fun k _ hS => store_off fun e => by
  subst e
  rcases hS with hS | ⟨B, f, hS⟩
  · omega
  · rw [hp] at hS
    injection hS with hS
    injection hS with _ hS _
    exact ht hS
theorem own_set {w : World} {base : Nat} {e : TypeId} {g n c k : Nat} {xs : List Value} {v : Value} (h : w.ownsRow base e 1 (.slice (some ⟨g, 0, none⟩) n c) n xs) : (w.setCell ⟨g, k, none⟩ v).ownsRow base e 1 (.slice (some ⟨g, 0, none⟩) n c) n (xs.set k v) := by
  obtain ⟨h0, ⟨h, -⟩ | ⟨g', cap, cur, hv, hg, hh, hc, hm, hs, htk⟩⟩ := h
  · injection h with h
    cases h
  · injection hv with hv1 _ hv3
    injection hv1 with hv1
    injection hv1 with hv1
    subst hv1 hv3
    refine ⟨by rw [List.length_set]; exact h0, .inr ⟨g, c, cur.setIfInBounds k v, rfl, hg, heap_setCell_same w g k cur e v hh, hc, hm, by simpa using hs, ?_⟩⟩
    rw [Array.toList_setIfInBounds, List.take_set, htk]
theorem rowIn_rowB {W : World} {N g : Nat} {v : Value} {row : List C} (h : RowB W g v row) : RowIn W N v row := by
  by_cases hr : row = []
  · obtain ⟨cap, rest, hv, -⟩ := h
    subst hr
    exact .inl ⟨rfl, _, _, hv⟩
  · have hC := h.cells
    obtain ⟨cap, rest, hv, h1, h2, h3⟩ := h
    exact .inr ⟨hr, g, 0, cap, hv, h1, h2, hC, .inr ⟨_, _, h3⟩⟩
theorem cloneRow_all (v : Value) (N : Nat) (row : List C) (w : World) (h : RowIn w N v row) (hbig : row.length ≤ 1048576) :
    Calls Tryz.prog 115 #[v] w fun e w' => ∃ a c, e = .returned (.slice a row.length c) ∧ (∀ N', RowIn w' N' (.slice a row.length c) row) ∧ Below w.heap.size w w' := by
  rcases h with ⟨rfl, a, c, rfl⟩ | ⟨hr, b, o, c, rfl, h1, h2, h3, h4⟩
  · refine (Grd.clone_empty a c w).mono ?_
    rintro e W ⟨a', c', rfl, hb⟩
    exact ⟨a', c', rfl, fun _ => .inl ⟨rfl, a', c', rfl⟩, hb⟩
  · refine (Grd.clone_row b o c row w h3 (by omega)).mono ?_
    rintro e W ⟨v', g, rfl, hg, hR, hb⟩
    obtain ⟨a', c', hv⟩ := (rowIn_rowB (N := N) hR).shape
    subst hv
    exact ⟨a', c', rfl, fun _ => rowIn_rowB hR, hb⟩
theorem cloneRow_in (v : Value) (N : Nat) (row : List C) (w : World) (h : RowIn w N v row) (hbig : row.length ≤ 1048576) :
    Calls Tryz.prog 115 #[v] w fun e w' => ∃ a c, e = .returned (.slice a row.length c) ∧ RowIn w' N (.slice a row.length c) row ∧ Below w.heap.size w w' := by
  refine (cloneRow_all v N row w h hbig).mono ?_
  rintro e W ⟨a, c, rfl, h1, h2⟩
  exact ⟨a, c, rfl, h1 N, h2⟩
/-- The first k rows lie in blocks of their own. -/
def DoneR (W : World) (k : Nat) (gs : List Value) (rows : List (List C)) : Prop := ∀ i, i < k → i < rows.length → RowIn W 0 (gs.getD i nilV) (rows.getD i [])
theorem getD_set_same {α : Type} (l : List α) (k : Nat) (x d : α) (h : k < l.length) : (l.set k x).getD k d = x := by simp [List.getD, h]
theorem getD_set_ne {α : Type} (l : List α) (k i : Nat) (x d : α) (h : i ≠ k) : (l.set k x).getD i d = l.getD i d := by
  simp [List.getD, Ne.symm h]
theorem RowsIn.set {W : World} {N : Nat} {vs : List Value} {rows : List (List C)} (h : RowsIn W N vs rows) (k : Nat) (v : Value) (row : List C) (hr : RowIn W N v row) : RowsIn W N (vs.set k v) (rows.set k row) := by
  refine ⟨by rw [List.length_set, List.length_set]; exact h.1, fun i hi => ?_⟩
  rw [List.length_set] at hi
  by_cases e : i = k
  · subst e
    rw [getD_set_same _ _ _ _ (by rw [h.1]; exact hi), getD_set_same _ _ _ _ hi]
    exact hr
  · rw [getD_set_ne _ _ _ _ _ e, getD_set_ne _ _ _ _ _ e]
    exact h.2 i hi
theorem set_getD {α : Type} (l : List α) (k : Nat) (d : α) (h : k < l.length) : l.set k (l.getD k d) = l := by
  apply List.ext_getElem (by simp)
  intro i h1 h2
  rw [List.getElem_set]
  split
  · rename_i e
    subst e
    simp [List.getD, h]
  · rfl
theorem own_rowsV {W : World} {N : Nat} {v : Value} {rows : List (List C)} {vs : List Value} (h : W.ownsRow N 22 1 v rows.length vs) (hr : RowsL W vs rows) : RowsV W v rows := by
  obtain ⟨h0, ⟨rfl, hn⟩ | ⟨g, cap, cur, hv, hg, hh, hc, hm, hs, htk⟩⟩ := h
  · exact .inl ⟨List.eq_nil_of_length_eq_zero hn, none, 0, rfl⟩
  · refine .inr ⟨g, 0, cap, hv, hc, by unfold maxLen at hm; omega, fun j hj => ⟨vs.getD j nilV, ?_, hr.2 j hj⟩⟩
    have e : cur[j]? = vs[j]? := by
      rw [← htk, ← Array.getElem?_toList, List.getElem?_take_of_lt (by omega)]
    have hl := hr.1
    have e2 : vs[j]? = some (vs.getD j nilV) := by simp [List.getD, List.getElem?_eq_getElem (show j < vs.length by omega)]
    unfold World.cell?
    rw [Nat.zero_add]
    simp only [hh]
    rw [e, e2]
    rfl
theorem own_boolsV {W : World} {N : Nat} {v : Value} {l : List Bool} (h : W.ownsRow N 4 1 v l.length (l.map Value.bool)) : BoolsV W v l := by
  obtain ⟨h0, ⟨rfl, hn⟩ | ⟨g, cap, cur, hv, hg, hh, hc, hm, hs, htk⟩⟩ := h
  · exact .inl ⟨List.eq_nil_of_length_eq_zero hn, none, 0, rfl⟩
  · refine .inr ⟨g, 0, cap, hv, hc, by unfold maxLen at hm; omega, fun j hj => ?_⟩
    have e : cur[j]? = (l.map Value.bool)[j]? := by
      rw [← htk, ← Array.getElem?_toList, List.getElem?_take_of_lt (by omega)]
    have e2 : (l.map Value.bool)[j]? = some (.bool (l.getD j false)) := by simp [List.getD, List.getElem?_eq_getElem hj]
    unfold World.cell?
    rw [Nat.zero_add]
    simp only [hh]
    rw [e, e2]
    rfl
theorem own_sliceAt {W : World} {N : Nat} {v : Value} {cs : List C} (h : W.ownsRow N 91 4 v cs.length (flat cs)) : SliceAt W v cs := by
  by_cases hc : cs = []
  · subst hc
    obtain ⟨a, c, rfl⟩ := own_slice h
    exact .inl ⟨rfl, a, c, rfl⟩
  · have hn : v ≠ .slice none 0 0 := by
      intro e
      subst e
      obtain ⟨-, ⟨-, h2⟩ | ⟨g, cap, cur, hv, -⟩⟩ := h
      · exact hc (List.eq_nil_of_length_eq_zero h2)
      · injection hv with hv
        cases hv
    obtain ⟨g, cap, rest, t, hv, hg, h1, h2, h3⟩ := Grd.own_of_row h hn
    exact .inr ⟨hc, g, 0, cap, hv, h1, h2, Grd.cellsAt_flat h3⟩
/-- Cells in a block of their own, from N on. -/
def OwnC (W : World) (N : Nat) (v : Value) (cs : List C) : Prop := (cs = [] ∧ ∃ a c, v = .slice a 0 c) ∨ Grd.OwnG W N v cs
theorem OwnC.of {W : World} {N : Nat} {v : Value} {cs : List C} (h : W.ownsRow N 91 4 v cs.length (flat cs)) : OwnC W N v cs := by
  by_cases hc : cs = []
  · subst hc
    obtain ⟨a, c, rfl⟩ := own_slice h
    exact .inl ⟨rfl, a, c, rfl⟩
  · refine .inr (Grd.own_of_row h ?_)
    intro e
    subst e
    obtain ⟨-, ⟨-, h2⟩ | ⟨g, cap, cur, hv, -⟩⟩ := h
    · exact hc (List.eq_nil_of_length_eq_zero h2)
    · injection hv with hv
      cases hv
theorem OwnC.cells {W : World} {N : Nat} {v : Value} {cs : List C} (h : OwnC W N v cs) : SliceAt W v cs := by
  rcases h with h | ⟨g, cap, rest, t, hv, hg, h1, h2, h3⟩
  · exact .inl h
  · by_cases hc : cs = []
    · subst hc
      exact .inl ⟨rfl, _, _, hv⟩
    · exact .inr ⟨hc, g, 0, cap, hv, h1, h2, Grd.cellsAt_flat h3⟩
theorem OwnC.shape {W : World} {N : Nat} {v : Value} {cs : List C} (h : OwnC W N v cs) : ∃ a c, v = .slice a cs.length c := h.cells.shape
theorem OwnC.mono {W : World} {N N' : Nat} {v : Value} {cs : List C} (h : OwnC W N v cs) (hN : N' ≤ N) : OwnC W N' v cs := by
  rcases h with h | ⟨g, cap, rest, t, hv, hg, h1⟩
  · exact .inl h
  · exact .inr ⟨g, cap, rest, t, hv, by omega, h1⟩
theorem OwnC.kept {W W' : World} {N : Nat} {v : Value} {cs : List C} (h : OwnC W N v cs) (hk : ∀ (g : Nat) (A : Array Value) (f : Nat × Nat), W.heap[g]? = some (.cells A 91 f) → W'.heap[g]? = W.heap[g]?) : OwnC W' N v cs := by
  rcases h with h | ⟨g, cap, rest, ⟨t, rfl⟩, hv, hg, h1, h2, h3⟩
  · exact .inl h
  · exact .inr ⟨g, cap, rest, ⟨_, rfl⟩, hv, hg, h1, h2, (hk g _ _ h3).trans h3⟩
/-- A screen in memory of its own: its cells, tabs and list of rows lie from N on; the rows that are gone, below M or in blocks of cells. -/
structure ScrO (W : World) (M N : Nat) (s : Scr) (cv tv gv : Value) : Prop where
  c : OwnC W N cv s.cs
  t : W.ownsRow N 4 1 tv s.tabs.length (s.tabs.map Value.bool)
  g : ∃ gvs, W.ownsRow N 22 1 gv s.gone.length gvs ∧ RowsIn W M gvs s.gone
theorem ScrO.scr {W : World} {M N : Nat} {s : Scr} {cv tv gv : Value} (h : ScrO W M N s cv tv gv) : ScrV W s cv tv gv := by
  obtain ⟨gvs, h1, h2⟩ := h.g
  exact ⟨h.c.cells, own_boolsV h.t, own_rowsV h1 h2.list⟩
/-- A block of another type, from M on, is changed. -/
theorem ScrO.off {W W' : World} {M N R : Nat} {s : Scr} {cv tv gv : Value} {A : Array Value} {t : TypeId} (h : ScrO W M N s cv tv gv) (hR : W.heap[R]? = some (.cells A t (0, 0))) (ht : IsSheet t) (hM : M ≤ R) (hk : ∀ k, k ≠ R → W'.heap[k]? = W.heap[k]?) : ScrO W' M N s cv tv gv := by
  have hoff : ∀ {e : TypeId} {z : Nat} {u : Value} {n : Nat} {xs : List Value}, t ≠ e → W.ownsRow N e z u n xs → W'.ownsRow N e z u n xs := fun hte hw => owns_kept hw fun q hq => hk q fun eq => by
    obtain ⟨-, B, f, hB⟩ := owns_block hw q hq
    rw [eq, hR] at hB
    injection hB with hB
    injection hB with _ hB _
    exact hte hB
  have hK : Kept M W W' := fun k _ hS => hk k fun e => by
    subst e
    rcases hS with hS | ⟨B, f, hS⟩
    · omega
    · rw [hR] at hS
      injection hS with hS
      injection hS with _ hS _
      exact ht.2.2 hS
  obtain ⟨gvs, h1, h2⟩ := h.g
  refine ⟨h.c.kept fun g A' f hg => hk g fun e => ?_, hoff ht.1 h.t, gvs, hoff ht.2.1 h1, h2.keep hK⟩
  rw [e, hR] at hg
  injection hg with hg
  injection hg with _ hg _
  exact ht.2.2 hg
theorem ScrO.mono {W : World} {M N N' : Nat} {s : Scr} {cv tv gv : Value} (h : ScrO W M N s cv tv gv) (hN : N' ≤ N) : ScrO W M N' s cv tv gv := by
  obtain ⟨gvs, h1, h2⟩ := h.g
  exact ⟨h.c.mono hN, Grd.ownsRow_mono h.t hN, gvs, Grd.ownsRow_mono h1 hN, h2⟩
theorem ScrO.next {W W' : World} {M N : Nat} {s : Scr} {cv tv gv : Value} (h : ScrO W M N s cv tv gv) (hb : Below W.heap.size W W') : ScrO W' M N s cv tv gv := by
  have hk : ∀ {e : TypeId} {z : Nat} {v : Value} {n : Nat} {xs : List Value}, W.ownsRow N e z v n xs → W'.ownsRow N e z v n xs := fun hw => owns_kept hw fun g hg => by
    obtain ⟨-, A, f, hA⟩ := owns_block hw g hg
    exact hb.block g (heap_lt hA)
  obtain ⟨gvs, h1, h2⟩ := h.g
  exact ⟨h.c.kept fun g A f hg => hb.block g (heap_lt hg), hk h.t, gvs, hk h1, h2.keep (Kept.of_below hb)⟩
theorem screen_is : IsSheet 32 := by unfold IsSheet; decide
end Put
end Go.Proofs.YtnkeahfcpbepjaaGreatDoor

/- (*sheet.Sheet).whole. -/
namespace Go.Proofs.YtnkeahfcpbepjaaGreatDoor
set_option linter.unusedVariables false
open Go.ChangeShapes Go.WideShapes Go.ChangeAt Go.RowKit
namespace Put
open Grd (C SliceAt CellsAt gridErr z0 nilV flat rowsL)
/-- The screen that nothing is in. -/
def zScr : Scr := ⟨0, 0, [], 0, 0, false, 0, 0, 0, 0, 0, 0, [], 0, 0, 0, 0, 0, 0, 0, ⟨#[]⟩, []⟩
theorem zA_eq : (#[.int .i64 0, .int .i64 0, .slice none 0 0, .int .i64 0, .int .i64 0, .bool false, .int .i64 0, .int .i64 0, .int .i64 0, .int .i64 0, .int .i64 0, .int .i64 0, .slice none 0 0, .int .i64 0, .int .i64 0, .int .i64 0, .int .i64 0, .int .i64 0, .int .i64 0, .int .i32 0, .string ⟨#[]⟩, .slice none 0 0] : Array Value) = scrA zScr (.slice none 0 0) (.slice none 0 0) (.slice none 0 0) := rfl
theorem scr_len (s : Scr) (cv tv gv : Value) : (scrA s cv tv gv).toList.length = 22 := rfl
theorem sh_range {W : World} {p : Nat} {t : TypeId} {s : Scr} {cv tv gv rv : Value} (h : W.heap[p]? = some (.cells (shA s cv tv gv rv) t (0, 0))) : W.rangeAt p 0 (scrA s cv tv gv).toList := fun j v hj => by
  have e : (shA s cv tv gv rv).toList = (scrA s cv tv gv).toList ++ [rv] := rfl
  have hlt := (List.getElem?_eq_some_iff.1 hj).1
  rw [scr_len] at hlt
  have : (shA s cv tv gv rv)[j]? = some v := by
    rw [← Array.getElem?_toList, e, List.getElem?_append_left (by rw [scr_len]; exact hlt)]
    exact hj
  simp [World.cell?, h, this]
theorem scr_one (s : Scr) (a1 a2 a3 : Option Addr) (n1 n2 n3 c1 c2 c3 : Nat) : (scrA s (.slice a1 n1 c1) (.slice a2 n2 c2) (.slice a3 n3 c3)).all (·.oneCell') = true := by
  simp [scrA, Value.oneCell']
theorem frozen_cells {W : World} {R : Nat} {A : Array Value} {t : TypeId} (h : W.heap[R]? = some (.cells A t (0, 0))) (i : Nat) : W.frozen? ⟨R, i, none⟩ = false := by simp [World.frozen?, h]
theorem cell_store_off {W : World} {p i k j : Nat} {v : Value} (h : k ≠ p) : (W.setCell ⟨p, i, none⟩ v).cell? ⟨k, j, none⟩ = W.cell? ⟨k, j, none⟩ := by
  have := store_off (W := W) (i := i) (v := v) h
  simp only [World.cell?, this]
theorem owns_off4 {W : World} {N p i : Nat} {e : TypeId} {v u : Value} {n z : Nat} {xs : List Value} {A : Array Value} {t : TypeId} (h : W.ownsRow N e z u n xs) (hp : W.heap[p]? = some (.cells A t (0, 0))) (ht : t ≠ e) : (W.setCell ⟨p, i, none⟩ v).ownsRow N e z u n xs :=
  owns_kept h fun g hg => store_off fun eq => by
    obtain ⟨-, B, f, hB⟩ := owns_block h g hg
    rw [eq, hp] at hB
    injection hB with hB
    injection hB with _ hB _
    exact ht hB
/-- A list of rows in memory of its own, as its cells tell. -/
theorem own_cells {W : World} {N : Nat} {v : Value} {n : Nat} {vs : List Value} (h : W.ownsRow N 22 1 v n vs) (hn : 0 < n) : ∃ g c, v = .slice (some ⟨g, 0, none⟩) n c ∧ N ≤ g ∧ n ≤ c ∧ c ≤ 9223372036854775807 ∧ vs.length = n ∧ (∀ j, j < n → W.cell? ⟨g, j, none⟩ = some (vs.getD j nilV)) ∧ ∃ A, W.heap[g]? = some (.cells A 22 (0, 0)) := by
  obtain ⟨h0, ⟨rfl, rfl⟩ | ⟨g, cap, cur, hv, hg, hh, hc, hm, hs, htk⟩⟩ := h
  · omega
  · refine ⟨g, cap, hv, hg, hc, by unfold maxLen at hm; omega, by omega, fun j hj => ?_, _, hh⟩
    have e : cur[j]? = vs[j]? := by
      rw [← htk, ← Array.getElem?_toList, List.getElem?_take_of_lt (by omega)]
    have hl : vs.length = n := by omega
    have e2 : vs[j]? = some (vs.getD j nilV) := by simp [List.getD, List.getElem?_eq_getElem (show j < vs.length by omega)]
    unfold World.cell?
    simp only [hh]
    rw [e, e2]
    rfl
set_option maxHeartbeats 4000000 in
set_option maxRecDepth 100000 in
theorem whole_any (W : World) (M N p : Nat) (s : Scr) (rows : List (List C)) (h : ShAt 64 W M N p s rows) (hr1 : 0 < rows.length) (hrl : rows.length ≤ 60) (hne : ∀ i, i < rows.length → rows.getD i [] ≠ []) (cs : List C) (hcs : rows.flatten = cs) (hl : cs.length ≤ 1048576) (hgl : s.gone.length ≤ 1048576) (hg : ∀ i, i < s.gone.length → (s.gone.getD i []).length ≤ 1048576) :
    Calls Tryz.prog 74 #[.pointer (some ⟨p, 0, none⟩)] W fun e W' => ∃ cv' tv' gv', e = .returned (.agg (scrA { s with cs := cs } cv' tv' gv')) ∧ ScrO W' 0 N { s with cs := cs } cv' tv' gv' ∧ Below N W W' := by
  obtain ⟨cv, tv, gv, rv, gvs, vs, hS⟩ := h
  obtain ⟨ca, cn, cc, rfl⟩ := hS.cvs
  obtain ⟨ta, tc, rfl⟩ := own_slice hS.tabs
  obtain ⟨ga, gc, rfl⟩ := own_slice hS.gone
  obtain ⟨g, rc, rfl, hgN, hrc1, hrc2, hvl, hrcell, hrb⟩ := own_cells hS.rws hr1
  have kb : Below W.heap.size W ((W.alloc (.cells #[.int .i64 0, .int .i64 0, .slice none 0 0, .int .i64 0, .int .i64 0, .bool false, .int .i64 0, .int .i64 0, .int .i64 0, .int .i64 0, .int .i64 0, .int .i64 0, .slice none 0 0, .int .i64 0, .int .i64 0, .int .i64 0, .int .i64 0, .int .i64 0, .int .i64 0, .int .i32 0, .string ⟨#[]⟩, .slice none 0 0] 32)).alloc (.cells #[.int .i64 0, .int .i64 0, .slice none 0 0, .int .i64 0, .int .i64 0, .bool false, .int .i64 0, .int .i64 0, .int .i64 0, .int .i64 0, .int .i64 0, .int .i64 0, .slice none 0 0, .int .i64 0, .int .i64 0, .int .i64 0, .int .i64 0, .int .i64 0, .int .i64 0, .int .i32 0, .string ⟨#[]⟩, .slice none 0 0] 32)) := ((Below.refl _ _).alloc (Nat.le_refl _) _).alloc (by simp) _
  have HS : Hid (ShA 64 W M N p s rows _ _ _ _ gvs vs) := hS
  have hrg := sh_range hS.blk
  have x2 := heap_alloc_new W (.cells #[.int .i64 0, .int .i64 0, .slice none 0 0, .int .i64 0, .int .i64 0, .bool false, .int .i64 0, .int .i64 0, .int .i64 0, .int .i64 0, .int .i64 0, .int .i64 0, .slice none 0 0, .int .i64 0, .int .i64 0, .int .i64 0, .int .i64 0, .int .i64 0, .int .i64 0, .int .i32 0, .string ⟨#[]⟩, .slice none 0 0] 32)
  have x3 : ((W.alloc (.cells #[.int .i64 0, .int .i64 0, .slice none 0 0, .int .i64 0, .int .i64 0, .bool false, .int .i64 0, .int .i64 0, .int .i64 0, .int .i64 0, .int .i64 0, .int .i64 0, .slice none 0 0, .int .i64 0, .int .i64 0, .int .i64 0, .int .i64 0, .int .i64 0, .int .i64 0, .int .i32 0, .string ⟨#[]⟩, .slice none 0 0] 32)).alloc (.cells #[.int .i64 0, .int .i64 0, .slice none 0 0, .int .i64 0, .int .i64 0, .bool false, .int .i64 0, .int .i64 0, .int .i64 0, .int .i64 0, .int .i64 0, .int .i64 0, .slice none 0 0, .int .i64 0, .int .i64 0, .int .i64 0, .int .i64 0, .int .i64 0, .int .i64 0, .int .i32 0, .string ⟨#[]⟩, .slice none 0 0] 32)).heap[W.heap.size + 1]? = some (.cells #[.int .i64 0, .int .i64 0, .slice none 0 0, .int .i64 0, .int .i64 0, .bool false, .int .i64 0, .int .i64 0, .int .i64 0, .int .i64 0, .int .i64 0, .int .i64 0, .slice none 0 0, .int .i64 0, .int .i64 0, .int .i64 0, .int .i64 0, .int .i64 0, .int .i64 0, .int .i32 0, .string ⟨#[]⟩, .slice none 0 0] 32 (0, 0)) := heap_alloc2_new W _ _
  have HRG : Hid _ := hrg
  have HX3 : Hid _ := x3
  have HKB : Hid _ := kb
  clear hrg x3 kb hS
  have HX1 : Hid ((((W.alloc (.cells #[.int .i64 0, .int .i64 0, .slice none 0 0, .int .i64 0, .int .i64 0, .bool false, .int .i64 0, .int .i64 0, .int .i64 0, .int .i64 0, .int .i64 0, .int .i64 0, .slice none 0 0, .int .i64 0, .int .i64 0, .int .i64 0, .int .i64 0, .int .i64 0, .int .i64 0, .int .i32 0, .string ⟨#[]⟩, .slice none 0 0] 32)).alloc (.cells #[.int .i64 0, .int .i64 0, .slice none 0 0, .int .i64 0, .int .i64 0, .bool false, .int .i64 0, .int .i64 0, .int .i64 0, .int .i64 0, .int .i64 0, .int .i64 0, .slice none 0 0, .int .i64 0, .int .i64 0, .int .i64 0, .int .i64 0, .int .i64 0, .int .i64 0, .int .i32 0, .string ⟨#[]⟩, .slice none 0 0] 32)).setRow (W.heap.size + 1) (scrA s (.slice ca cn cc) (.slice ta s.tabs.length tc) (.slice ga s.gone.length gc))).heap[W.heap.size + 1]? = some (.cells (scrA s (.slice ca cn cc) (.slice ta s.tabs.length tc) (.slice ga s.gone.length gc)) 32 (0, 0))) := setRow_heap _ _ _ _ _ _ HX3.out
  have HX0 : Hid ((((W.alloc (.cells #[.int .i64 0, .int .i64 0, .slice none 0 0, .int .i64 0, .int .i64 0, .bool false, .int .i64 0, .int .i64 0, .int .i64 0, .int .i64 0, .int .i64 0, .int .i64 0, .slice none 0 0, .int .i64 0, .int .i64 0, .int .i64 0, .int .i64 0, .int .i64 0, .int .i64 0, .int .i32 0, .string ⟨#[]⟩, .slice none 0 0] 32)).alloc (.cells #[.int .i64 0, .int .i64 0, .slice none 0 0, .int .i64 0, .int .i64 0, .bool false, .int .i64 0, .int .i64 0, .int .i64 0, .int .i64 0, .int .i64 0, .int .i64 0, .slice none 0 0, .int .i64 0, .int .i64 0, .int .i64 0, .int .i64 0, .int .i64 0, .int .i64 0, .int .i32 0, .string ⟨#[]⟩, .slice none 0 0] 32)).setRow (W.heap.size + 1) (scrA s (.slice ca cn cc) (.slice ta s.tabs.length tc) (.slice ga s.gone.length gc))).heap[W.heap.size]? = some (.cells (scrA zScr (.slice none 0 0) (.slice none 0 0) (.slice none 0 0)) 32 (0, 0))) := by
    unfold Hid
    rw [setRow_other _ _ _ _ (by omega), Below.heap_alloc _ _ _ (by simp), heap_alloc_new]
    rfl
  have HB0 : Hid (Below W.heap.size W (((W.alloc (.cells #[.int .i64 0, .int .i64 0, .slice none 0 0, .int .i64 0, .int .i64 0, .bool false, .int .i64 0, .int .i64 0, .int .i64 0, .int .i64 0, .int .i64 0, .int .i64 0, .slice none 0 0, .int .i64 0, .int .i64 0, .int .i64 0, .int .i64 0, .int .i64 0, .int .i64 0, .int .i32 0, .string ⟨#[]⟩, .slice none 0 0] 32)).alloc (.cells #[.int .i64 0, .int .i64 0, .slice none 0 0, .int .i64 0, .int .i64 0, .bool false, .int .i64 0, .int .i64 0, .int .i64 0, .int .i64 0, .int .i64 0, .int .i64 0, .slice none 0 0, .int .i64 0, .int .i64 0, .int .i64 0, .int .i64 0, .int .i64 0, .int .i64 0, .int .i32 0, .string ⟨#[]⟩, .slice none 0 0] 32)).setRow (W.heap.size + 1) (scrA s (.slice ca cn cc) (.slice ta s.tabs.length tc) (.slice ga s.gone.length gc)))) := below_setRow HKB.out (by omega) _
  go_enter Tryz.func74, Tryz.ntmps74
  go_upto_region 2 with (first
    | (refine wpList_load_mid rfl 32 (.tmp 8) rfl p 0 rfl (scrA s (.slice ca cn cc) (.slice ta s.tabs.length tc) (.slice ga s.gone.length gc)).toList _ (fun j v hj => cell_stay ((Below.refl _ _).alloc (Nat.le_refl _) _) (HRG.out j v hj)) Tryz.underlying32 rfl (by kernel_rfl) ?_)
    | (refine wpList_store_row rfl 32 (.tmp 3) _ rfl (W.heap.size + 1) (scrA s (.slice ca cn cc) (.slice ta s.tabs.length tc) (.slice ga s.gone.length gc)) rfl rfl _ _ HX3.out (by kernel_rfl) rfl (scr_one _ _ _ _ _ _ _ _ _ _) ?_))
  clear HX3 HKB x2
  generalize (((W.alloc (.cells #[.int .i64 0, .int .i64 0, .slice none 0 0, .int .i64 0, .int .i64 0, .bool false, .int .i64 0, .int .i64 0, .int .i64 0, .int .i64 0, .int .i64 0, .int .i64 0, .slice none 0 0, .int .i64 0, .int .i64 0, .int .i64 0, .int .i64 0, .int .i64 0, .int .i64 0, .int .i32 0, .string ⟨#[]⟩, .slice none 0 0] 32)).alloc (.cells #[.int .i64 0, .int .i64 0, .slice none 0 0, .int .i64 0, .int .i64 0, .bool false, .int .i64 0, .int .i64 0, .int .i64 0, .int .i64 0, .int .i64 0, .int .i64 0, .slice none 0 0, .int .i64 0, .int .i64 0, .int .i64 0, .int .i64 0, .int .i64 0, .int .i64 0, .int .i32 0, .string ⟨#[]⟩, .slice none 0 0] 32)).setRow (W.heap.size + 1) (scrA s (.slice ca cn cc) (.slice ta s.tabs.length tc) (.slice ga s.gone.length gc))) = X at *
  have hgl1 : W.heap.size + 1 < X.heap.size := heap_lt HX1.out
  have hS0 := HS.out
  have hlo := hS0.lo
  have hml := hS0.ml
  have hpl := heap_lt hS0.blk
  have c22 := (sh_cells ((HB0.out.block p hpl).trans hS0.blk)).2.1.2.2.2.2.2.2.2.2.2.2.2
  have hcv : ∀ j, j < rows.length → ∃ b' o' c', X.cell? ⟨g, 0 + j, none⟩ = some (.slice (some ⟨b', o', none⟩) (rows.getD j []).length c') ∧ CellsAt X b' o' (rows.getD j []) := fun j hj => by
    have h1 := cell_stay HB0.out (hrcell j hj)
    rcases hS0.rin.2 j hj with ⟨he, -⟩ | ⟨-, b', o', c', hv, -, -, hC, -⟩
    · exact absurd he (hne j hj)
    · rw [hv] at h1
      rw [Nat.zero_add]
      exact ⟨b', o', c', h1, hC.below HB0.out⟩
  have HCV := concat_any g 0 rc rows X hcv cs hcs hl (by omega)
  clear hcv hcs hrcell
  go_wp2_with fail
  refine HCV.mono ?_
  rintro e X4 ⟨v4, rfl, ho4, b4⟩
  obtain ⟨va, vc, rfl⟩ := own_slice ho4
  have hX1' := Grd.carry HX1.out b4
  have f2 := (scr_cells hX1').2.2 2
  have c2 := (scr_cells hX1').1.2.2.1
  have c21 := (scr_cells hX1').2.1.2.2.2.2.2.2.2.2.2.2
  have HY1 : Hid ((X4.setCell ⟨W.heap.size + 1, 2, none⟩ (.slice va cs.length vc)).heap[W.heap.size + 1]? = some (.cells (scrA { s with cs := cs } (.slice va cs.length vc) (.slice ta s.tabs.length tc) (.slice ga s.gone.length gc)) 32 (0, 0))) := store_at hX1' rfl
  have hNX : N ≤ X.heap.size := by have := HB0.out.size; omega
  have HY0 : Hid ((X4.setCell ⟨W.heap.size + 1, 2, none⟩ (.slice va cs.length vc)).heap[W.heap.size]? = _) := (store_off (by omega)).trans (Grd.carry HX0.out b4)
  have b5 : Below W.heap.size W (X4.setCell ⟨W.heap.size + 1, 2, none⟩ (.slice va cs.length vc)) := (HB0.out.trans (b4.mono HB0.out.size)).setCell (Nat.le_succ _) _
  have HBN : Hid (Below N W (X4.setCell ⟨W.heap.size + 1, 2, none⟩ (.slice va cs.length vc))) := b5.mono (by omega)
  have HSH : Hid (ShA 64 (X4.setCell ⟨W.heap.size + 1, 2, none⟩ (.slice va cs.length vc)) M N p s rows _ _ _ _ gvs vs) := hS0.next b5
  have HC4 : Hid ((X4.setCell ⟨W.heap.size + 1, 2, none⟩ (.slice va cs.length vc)).ownsRow N 91 4 (.slice va cs.length vc) cs.length (flat cs)) := Grd.ownsRow_mono (owns_kept ho4 fun k hk => store_off fun e => by
    obtain ⟨-, A, f, hA⟩ := owns_block ho4 k hk
    rw [e, hX1'] at hA
    injection hA with hA
    injection hA with _ hA _
    exact absurd hA (by decide)) hNX
  clear ho4 b4 hX1' b5 hS0 HCV
  go_wp2_with fail
  go_loopg [20] s.gone.length (fun q i wr => ∃ (k : Nat) (gs : List Value), k ≤ s.gone.length ∧ s.gone.length - k ≤ q ∧ i = .int .i64 (k : Int) ∧ Below N W wr ∧ wr.heap[W.heap.size + 1]? = some (.cells (scrA { s with cs := cs } (.slice va cs.length vc) (.slice ta s.tabs.length tc) (.slice ga s.gone.length gc)) 32 (0, 0)) ∧ wr.heap[W.heap.size]? = some (.cells (scrA zScr (.slice none 0 0) (.slice none 0 0) (.slice none 0 0)) 32 (0, 0)) ∧ wr.ownsRow N 4 1 (.slice ta s.tabs.length tc) s.tabs.length (s.tabs.map Value.bool) ∧ wr.ownsRow N 91 4 (.slice va cs.length vc) cs.length (flat cs) ∧ wr.ownsRow N 22 1 (.slice ga s.gone.length gc) s.gone.length gs ∧ RowsIn wr M gs s.gone ∧ DoneR wr k gs s.gone)
  case atStart => exact ⟨0, gvs, by omega, by omega, rfl, HBN.out, HY1.out, HY0.out, HSH.out.tabs, HC4.out, HSH.out.gone, HSH.out.gin, fun i hi => absurd hi (Nat.not_lt_zero _)⟩
  case round =>
    clear HY0 HY1 HBN HSH HC4 HX0 HX1 HB0 c2 c21 c22 f2
    obtain ⟨k, gs, hk, hq, rfl, hb, hy1, hy0, hot, hoc, hog, hri, hdn⟩ := hrel
    have HDN : Hid (DoneR wr k gs s.gone) := hdn
    clear hdn
    have HB : Hid (Below N W wr) := hb
    have HY1 : Hid _ := hy1
    have HY0 : Hid _ := hy0
    have HT : Hid (wr.ownsRow N 4 1 _ s.tabs.length (s.tabs.map Value.bool)) := hot
    have HC : Hid (wr.ownsRow N 91 4 _ cs.length (flat cs)) := hoc
    have HG : Hid (wr.ownsRow N 22 1 _ s.gone.length gs) := hog
    have HRI : Hid (RowsIn wr M gs s.gone) := hri
    have c21 := (scr_cells hy1).2.1.2.2.2.2.2.2.2.2.2.2
    by_cases hlt : k < s.gone.length
    · have lt1 : ((k : Int) < (s.gone.length : Int)) := by omega
      obtain ⟨gb, gc', hv, hgb, -, hgc, -, hgcell, A, hgA⟩ := own_cells hog (by omega)
      injection hv with hv1 _ hv3
      subst hv1 hv3
      have d1 := hgcell k hlt
      have hrow := hri.2 k hlt
      have hgk := hg k hlt
      obtain ⟨ra, rc2, hsh⟩ := hrow.shape
      rw [hsh] at d1
      have HGB : Hid (wr.heap[gb]? = some (.cells A 22 (0, 0))) := hgA
      have HWR : Hid (RowIn wr.drew M (.slice ra (s.gone.getD k []).length rc2) (s.gone.getD k [])) := by unfold Hid; rw [← hsh]; exact hrow
      obtain ⟨row, hrowk⟩ : ∃ row, row = s.gone.getD k [] := ⟨_, rfl⟩
      have HK : Hid (row = s.gone.getD k []) := hrowk
      rw [← hrowk] at d1 hgk HWR
      have hne3 : gb ≠ W.heap.size + 1 := by
        intro e
        rw [e, hy1] at hgA
        injection hgA with hgA
        injection hgA with _ hgA _
        exact absurd hgA (by decide)
      clear hb hy1 hy0 hot hoc hog hri hrow hgA hgcell hsh hrowk
      go_upto_region 6 with fail
      have e0 : wr.drew.cell? ⟨W.heap.size + 1, 21, none⟩ = some (.slice (some ⟨gb, 0, none⟩) s.gone.length gc) := c21
      go_region_held3 (fun w' => w'.cell? ⟨W.heap.size + 1, 21, none⟩ = some (.slice (some ⟨gb, 0, none⟩) s.gone.length gc))
        (first | exact e2 | exact e1 | exact e0)
        (first | (go_at_call 115; refine (cloneRow_all _ M row wr.drew HWR.out (by omega)).mono ?_; rintro e V1 ⟨na, nc, rfl, hrn, b1⟩; have e1 := cell_stay b1 e0; have g1 := Grd.carry (show wr.drew.heap[gb]? = _ from HGB.out) b1; have d2 := cell_stay b1 (show wr.drew.cell? ⟨gb, k, none⟩ = _ from d1); have f1 : ∀ i, V1.frozen? ⟨gb, i, none⟩ = false := (fun i => frozen_cells g1 i); have e2 : (V1.setCell ⟨gb, k, none⟩ (.slice na row.length nc)).cell? ⟨W.heap.size + 1, 21, none⟩ = some (.slice (some ⟨gb, 0, none⟩) s.gone.length gc) := (cell_store_off (Ne.symm hne3)).trans e1; have HRN : Hid _ := hrn; have HB1 : Hid _ := b1; clear hrn b1))
      have bw : Below wr.heap.size wr V1 := ((Below.refl wr.heap.size wr).drew).trans HB1.out
      have g1 := Grd.carry HGB.out bw
      have HK2 : Hid (Kept M V1 (V1.setCell ⟨gb, k, none⟩ (.slice na row.length nc))) := Kept.store g1 (by decide) (Nat.le_trans hml hgb)
      have HN1 : Hid _ := (store_off (i := k) (v := .slice na row.length nc) (Ne.symm hne3)).trans (Grd.carry HY1.out bw)
      have HN0 : Hid _ := (store_off (p := gb) (k := W.heap.size) (i := k) (v := .slice na row.length nc) (by
        intro e
        have h1 := HGB.out
        have h2 := HY0.out
        rw [← e, h2] at h1
        injection h1 with h1
        injection h1 with _ h1 _
        exact absurd h1 (by decide))).trans (Grd.carry HY0.out bw)
      have HT1 : Hid _ := own_off (i := k) (v := .slice na row.length nc) (own_next HT.out bw) g1 (by decide)
      have HC1 : Hid _ := owns_off4 (i := k) (v := .slice na row.length nc) (owns_kept HC.out fun q hq => by
        obtain ⟨-, B, f, hB⟩ := owns_block HC.out q hq
        exact bw.block q (heap_lt hB)) g1 (by decide)
      have HG1 : Hid _ := own_set (k := k) (v := .slice na row.length nc) (own_next HG.out bw)
      have HR1 : Hid (RowsIn (V1.setCell ⟨gb, k, none⟩ (.slice na row.length nc)) M (gs.set k (.slice na row.length nc)) s.gone) := by
        have h1 := (HRI.out.keep (Kept.of_below bw)).set k (.slice na row.length nc) row (HRN.out M)
        rw [HK.out, set_getD _ _ _ hlt, ← HK.out] at h1
        exact h1.keep HK2.out
      have HK0 : Hid (Kept 0 V1 (V1.setCell ⟨gb, k, none⟩ (.slice na row.length nc))) := Kept.store g1 (by decide) (Nat.zero_le _)
      have HD1 : Hid (DoneR (V1.setCell ⟨gb, k, none⟩ (.slice na row.length nc)) (k + 1) (gs.set k (.slice na row.length nc)) s.gone) := fun i hi hl => by
        by_cases e : i = k
        · subst e
          rw [getD_set_same _ _ _ _ (by rw [HRI.out.1]; exact hl), ← HK.out]
          exact (HRN.out 0).keep HK0.out
        · rw [getD_set_ne _ _ _ _ _ e]
          exact ((HDN.out i (by omega) hl).keep (Kept.of_below bw)).keep HK0.out
      have HBB : Hid (Below N W (V1.setCell ⟨gb, k, none⟩ (.slice na row.length nc))) := (HB.out.trans (bw.mono (by have := HB.out.size; omega))).setCell hgb _
      clear bw g1 e0 e1 e2 d1 d2 f1
      go_wp2_with fail
      go_roundg (s.gone.length - (k + 1))
      case measure => omega
      case rel => exact ⟨k + 1, _, by omega, by omega, by go_num, HBB.out, HN1.out, HN0.out, HT1.out, HC1.out, HG1.out, HR1.out, HD1.out⟩
    · have lt1 : ¬ ((k : Int) < (s.gone.length : Int)) := by omega
      clear hb hy1 hy0 hot hoc hog hri c21
      go_wp2_with (first
        | (refine wpList_load_row rfl 32 (.tmp 3) rfl (W.heap.size + 1) rfl _ _ _ _ HY1.out Tryz.underlying32 rfl (by kernel_rfl) ?_)
        | (refine wpList_store_row rfl 32 (.tmp 2) _ rfl W.heap.size (scrA { s with cs := cs } (.slice va cs.length vc) (.slice ta s.tabs.length tc) (.slice ga s.gone.length gc)) rfl rfl _ _ HY0.out (by kernel_rfl) rfl (scr_one _ _ _ _ _ _ _ _ _ _) ?_))
      (try simp only [Exit.inBlock, Exit.then])
      refine bodyPost_ret (v := .agg (scrA { s with cs := cs } (.slice va cs.length vc) (.slice ta s.tabs.length tc) (.slice ga s.gone.length gc))) ?_ rfl ⟨_, _, _, rfl, ?_, ?_⟩
      · exact results_cell_row rfl _ _ W.heap.size _ _ _ _ rfl (setRow_heap _ _ _ _ _ _ HY0.out) Tryz.underlying32 rfl (by kernel_rfl)
      · exact ScrO.off (s := { s with cs := cs }) ⟨OwnC.of HC.out, HT.out, gs, HG.out, HRI.out.1, fun i (hi : i < s.gone.length) => HDN.out i (by omega) hi⟩ HY0.out screen_is (by omega) fun k hk => setRow_other _ _ _ _ hk
      · exact below_setRow HB.out (by omega) _
end Put
end Go.Proofs.YtnkeahfcpbepjaaGreatDoor
