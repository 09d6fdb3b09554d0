/- The table of spans as the row lists it: its cells. -/
import Derived.Test.YtnkeahfcpbepjaaDoorPartE
import Derived.Lib.LaidU8
import Derived.Deep.Strs
import Derived.Laws.ResultCell
import Derived.BigQuiet
import Derived.Deep.MidRow
import Derived.Lib.OthersKept
import Derived.Test.YtnkeahfcpbepjaaDoorPartD
import Derived.WalkSmall
import Derived.Maps.AppendAt
import Derived.Shelf.Strings.BuilderRune
namespace Go.Proofs.YtnkeahfcpbepjaaDoor
open Go.ChangeShapes Go.WideShapes Go.ChangeAt Go.RowKit
namespace Txt
theorem slices3 : ∀ (l : List (Int × Int × Int)) (cs : List Value), cs.length = 3 * l.length → (∀ i x, l[i]? = some x → (cs.drop (i * 3)).take 3 = cell3 x) → cs = l.flatMap cell3
  | [], cs, hl, _ => by simpa using hl
  | x :: t, cs, hl, h => by
    have h0 := h 0 x rfl
    have ht := slices3 t (cs.drop 3) (by simp only [List.length_drop, List.length_cons] at hl ⊢; omega) (fun i y hy => by
      have := h (i + 1) y (by simpa using hy)
      rw [List.drop_drop]
      rwa [show 3 + i * 3 = (i + 1) * 3 from by omega])
    simp only [Nat.zero_mul, List.drop_zero] at h0
    rw [List.flatMap_cons, ← ht, ← h0, List.take_append_drop]
theorem laid_eq {H : Type} : (Rows.laid_trellis_text_spans : DataW H) = .agg (spans.map fun x => .agg [.lit (.int .i32 x.1), .lit (.int .i32 x.2.1), .lit (.int .i64 x.2.2)]) := rfl
theorem tab_of_reads {w : World} (h : Lib.VarReads Tryd.prog w "trellis/text.spans" Rows.laid_trellis_text_spans) : Tab w := by
  obtain ⟨g, t, cs, fuel, p, hg, hty, hvar, hd⟩ := h
  obtain rfl := Option.some.inj ((show Tryd.prog.globalNamed "trellis/text.spans" = some 2 by kernel_rfl).symm.trans hg)
  obtain rfl := Option.some.inj ((show (Tryd.prog.globals[2]?).map (fun x => x.type) = some 121 by kernel_rfl).symm.trans hty)
  have hlen : cs.toList.length = 63 := by
    obtain ⟨xs, m, _, _, hl, _, _⟩ := DataW.trod_array Tryd.underlying121 hd
    rw [hl]; kernel_rfl
  rw [laid_eq] at hd
  have hcs : cs.toList = spans.flatMap cell3 := by
    refine slices3 spans cs.toList (by rw [hlen]; rfl) (fun i x hx => ?_)
    have hi : i < 21 := (List.getElem?_eq_some_iff.1 hx).1
    obtain ⟨fuel', d, q, hdi, he⟩ := Lib.array_elem Tryd.underlying121 hd i hi
    rw [List.getElem?_map, hx] at hdi
    obtain rfl := Option.some.inj hdi
    rw [show Tryd.prog.cellsOf 120 = 3 by kernel_rfl] at he
    obtain ⟨y0, y1, y2, n, hy, hl, e0, e1, e2⟩ := Deep.trod_struct3 Tryd.underlying120 he
    rw [show Tryd.prog.cellsOf 120 = 3 by kernel_rfl] at hl
    generalize (cs.toList.drop (i * 3)).take 3 = c3 at *
    simp only [Prod.mk.injEq, DataW.agg.injEq, List.cons.injEq, and_true] at hy
    obtain ⟨⟨g0, g1, g2⟩, _⟩ := hy
    simp only [show Tryd.prog.cellsOf 21 = 1 by kernel_rfl, show Tryd.prog.cellsOf 3 = 1 by kernel_rfl] at e0 e1 e2
    obtain ⟨z0, k0, rfl, _⟩ := DataW.trod_int Tryd.underlying21 e0
    obtain ⟨z1, k1, rfl, _⟩ := DataW.trod_int Tryd.underlying21 e1
    obtain ⟨z2, k2, rfl, _⟩ := DataW.trod_int Tryd.underlying3 e2
    match c3, hl with
    | [a, b, c], _ =>
      simp at k0 k1 k2 g0 g1 g2
      subst k0 k1 k2 g0 g1 g2
      rfl
  unfold World.var? at hvar
  rw [hg] at hvar
  simp only [Option.bind_some] at hvar
  split at hvar
  · rename_i c tt fr hh
    obtain rfl := Option.some.inj hvar
    have hc : c = spanCells := by unfold spanCells; rw [← hcs]
    exact ⟨tt, fr, by rw [hh, hc]⟩
  · cases hvar
end Txt
end Go.Proofs.YtnkeahfcpbepjaaDoor

/- grid.New and the reference's NewGrid. -/
namespace Go.Proofs.YtnkeahfcpbepjaaDoor
open Go.ChangeShapes Go.WideShapes Go.ChangeAt Go.RowKit
namespace Grd
def blank : C := (32, 0, 0, 0)
theorem results_row_tmp {P : Program} {fn : Func} {p u : Tmp} {ty : TypeId} (h : fn.results = #[.cell p ty, .tmp u]) (tmps : Array Value) (w : World) (g : Nat) (t : TypeId) (cs : Array Value) (fr : Nat × Nat) (d : TypeDesc)
    (hp : tmps.getD p undef = .pointer (some ⟨g, 0, none⟩)) (hg : w.heap[g]? = some (.cells cs t fr))
    (hu : P.underlying ty = some d) (hd : (match d with | .struct _ | .array _ _ => true | _ => false) = true) (hi : (P.info? ty).map (·.size) = some cs.size) (v : Value) (hv : tmps.getD u undef = v) :
    (results fn tmps).run P w = .ok (.tuple #[.agg cs, v]) w := by
  rw [results_cell_tmp h, hp, hv]
  simp [asAddr, run_loadVar_row w g t ty cs fr d hg hu hd hi, Result.andThen]
theorem one3v (a b : Int) (x : Option Addr) (n c : Nat) : (#[.int .i64 a, .int .i64 b, .slice x n c] : Array Value).all (·.oneCell') = true := by simp [Value.oneCell']
set_option maxHeartbeats 1000000 in
theorem new_bad (a h : Int) (w : World) (hs : isSize a h = false) :
    Calls Tryd.prog 40 #[.int .i64 a, .int .i64 h] w fun e w' => e = .returned (.tuple #[.agg #[.int .i64 0, .int .i64 0, .slice none 0 0], .int .i64 3]) ∧ Below w.heap.size w w' := by
  have H : Hid (isSize a h = false) := hs
  clear hs
  go_enter Tryd.func40, Tryd.ntmps40
  go_wp2_with (go_at_call 92; refine (isSize_to a h _ H.out _).mono ?_; rintro e W1 ⟨rfl, rfl⟩)
  refine bodyPost_ret (v := .tuple #[.agg #[.int .i64 0, .int .i64 0, .slice none 0 0], .int .i64 3]) ?_ rfl ⟨rfl, (Below.refl _ _).alloc (Nat.le_refl _) _⟩
  exact results_row_tmp rfl _ _ w.heap.size _ _ _ _ rfl (heap_alloc_new _ _) Tryd.underlying24 rfl (by kernel_rfl) _ rfl
set_option maxHeartbeats 1000000 in
theorem new_good (a q : Int) (w : World) (hs : isSize a q = true) :
    Calls Tryd.prog 40 #[.int .i64 a, .int .i64 q] w fun e w' => ∃ v, e = .returned (.tuple #[.agg #[.int .i64 a, .int .i64 q, v], .int .i64 0]) ∧ OwnG w' w.heap.size v (List.replicate (a * q).toNat blank) ∧ Below w.heap.size w w' := by
  have H : Hid (isSize a q = true) := hs
  have ⟨p0, p1, p2, p3, p4, p5⟩ := prod_in a q hs
  clear hs
  obtain ⟨N, hN⟩ := Int.eq_ofNat_of_zero_le p0
  have hN1 : 1 ≤ N := by
    have : 1 * 1 ≤ a * q := Int.mul_le_mul p2 p4 (by omega) (by omega)
    omega
  have hN2 : N ≤ 7200 := by omega
  clear p0 p1
  go_enter Tryd.func40, Tryd.ntmps40
  have hk : Below w.heap.size w ((w.alloc (.cells #[.int .i64 0, .int .i64 0, .slice none 0 0] 24)).alloc (.cells #[.int .i32 32, .int .i64 0, .int .i64 0, .int .i64 0] 63)) := ((Below.refl _ _).alloc (Nat.le_refl _) _).alloc (by simp) _
  have hcl : CellsAt ((w.alloc (.cells #[.int .i64 0, .int .i64 0, .slice none 0 0] 24)).alloc (.cells #[.int .i32 32, .int .i64 0, .int .i64 0, .int .i64 0] 63)) (w.heap.size + 1) 0 [blank] := by
    refine cellsAt_flat (rest := []) (t := 63) ?_
    exact heap_alloc2_new w _ _
  have hbk : ((w.alloc (.cells #[.int .i64 0, .int .i64 0, .slice none 0 0] 24)).alloc (.cells #[.int .i32 32, .int .i64 0, .int .i64 0, .int .i64 0] 63)).heap[w.heap.size]? = some (.cells #[.int .i64 0, .int .i64 0, .slice none 0 0] 24 (0, 0)) := (Below.heap_alloc _ _ _ (by simp)).trans (heap_alloc_new _ _)
  have HK := repeat_one (w.heap.size + 1) 0 1 N blank _ hcl hN1 hN2
  generalize hW0 : ((w.alloc (.cells #[.int .i64 0, .int .i64 0, .slice none 0 0] 24)).alloc (.cells #[.int .i32 32, .int .i64 0, .int .i64 0, .int .i64 0] 63)) = W0 at HK hk hbk hcl
  have HK' : Hid (Calls Tryd.prog 93 #[.slice (some ⟨w.heap.size + 1, 0, none⟩) 1 1, .int .i64 (N : Int)] W0 fun e w' => ∃ v', e = .returned v' ∧ OwnG w' W0.heap.size v' (List.replicate N blank) ∧ Below W0.heap.size W0 w') := HK
  have HW0 : Hid (((w.alloc (.cells #[.int .i64 0, .int .i64 0, .slice none 0 0] 24)).alloc (.cells #[.int .i32 32, .int .i64 0, .int .i64 0, .int .i64 0] 63)) = W0) := hW0
  clear HK hcl hW0
  go_wp2_with (first
    | (go_at_call 92; refine (isSize_to a q _ H.out _).mono ?_; rintro e W1 ⟨rfl, rfl⟩)
    | (go_at_call 93; rw [HW0.out]; refine HK'.out.mono ?_; rintro e W2 ⟨v, rfl, ⟨g, cap, rest, t, rfl, hgb, hlc, hcm, hgh⟩, b2⟩; have hr := carry hbk b2)
    | (refine wpList_store_row rfl 24 (.tmp 4) _ rfl w.heap.size #[.int .i64 a, .int .i64 q, .slice (some ⟨g, 0, none⟩) N cap] rfl rfl _ _ hr (by kernel_rfl) rfl (one3v _ _ _ _ _) ?_))
  (try simp only [Exit.inBlock, Exit.then])
  have hl : (List.replicate N blank).length = N := by simp
  rw [hl] at hlc
  refine bodyPost_ret (v := .tuple #[.agg #[.int .i64 a, .int .i64 q, .slice (some ⟨g, 0, none⟩) N cap], .int .i64 0]) ?_ rfl ⟨_, rfl, ⟨g, cap, rest, t, by rw [hN, Int.toNat_natCast, hl], by have := hk.size; omega, by rw [hN, Int.toNat_natCast, hl]; exact hlc, hcm, ?_⟩, below_setRow (hk.trans (b2.mono hk.size)) (Nat.le_refl _) _⟩
  · exact results_row_tmp rfl _ _ w.heap.size _ _ _ _ rfl (setRow_heap _ _ _ _ _ _ hr) Tryd.underlying24 rfl (by kernel_rfl) _ rfl
  · rw [hN, Int.toNat_natCast, setRow_other _ _ _ _ (by have := hk.size; have := blk_lt hbk; omega)]
    exact hgh
end Grd
end Go.Proofs.YtnkeahfcpbepjaaDoor

/- The reference's NewGrid; noGrid, size. -/
namespace Go.Proofs.YtnkeahfcpbepjaaDoor
open Go.ChangeShapes Go.WideShapes Go.ChangeAt Go.RowKit
namespace Grd
set_option maxHeartbeats 1000000 in
theorem newGrid_any (a q : Int) (w : World) (hs : isSize a q = true) :
    Calls Tryd.prog 56 #[.int .i64 a, .int .i64 q] w fun e w' => ∃ v, e = .returned (.agg #[.int .i64 a, .int .i64 q, v]) ∧ OwnG w' w.heap.size v (List.replicate (a * q).toNat blank) ∧ Below w.heap.size w w' := by
  have ⟨p0, p1, p2, p3, p4, p5⟩ := prod_in a q hs
  clear hs
  obtain ⟨N, hN⟩ := Int.eq_ofNat_of_zero_le p0
  have hN1 : 1 ≤ N := by
    have : 1 * 1 ≤ a * q := Int.mul_le_mul p2 p4 (by omega) (by omega)
    omega
  have hN2 : N ≤ 7200 := by omega
  clear p0 p1
  go_enter Tryd.func56, Tryd.ntmps56
  have hk : Below w.heap.size w ((w.alloc (.cells #[.int .i64 0, .int .i64 0, .slice none 0 0] 24)).alloc (.cells #[.int .i32 32, .int .i64 0, .int .i64 0, .int .i64 0] 63)) := ((Below.refl _ _).alloc (Nat.le_refl _) _).alloc (by simp) _
  have hcl : CellsAt ((w.alloc (.cells #[.int .i64 0, .int .i64 0, .slice none 0 0] 24)).alloc (.cells #[.int .i32 32, .int .i64 0, .int .i64 0, .int .i64 0] 63)) (w.heap.size + 1) 0 [blank] := by
    refine cellsAt_flat (rest := []) (t := 63) ?_
    exact heap_alloc2_new w _ _
  have hbk : ((w.alloc (.cells #[.int .i64 0, .int .i64 0, .slice none 0 0] 24)).alloc (.cells #[.int .i32 32, .int .i64 0, .int .i64 0, .int .i64 0] 63)).heap[w.heap.size]? = some (.cells #[.int .i64 0, .int .i64 0, .slice none 0 0] 24 (0, 0)) := (Below.heap_alloc _ _ _ (by simp)).trans (heap_alloc_new _ _)
  have HK := repeat_one (w.heap.size + 1) 0 1 N blank _ hcl hN1 hN2
  generalize hW0 : ((w.alloc (.cells #[.int .i64 0, .int .i64 0, .slice none 0 0] 24)).alloc (.cells #[.int .i32 32, .int .i64 0, .int .i64 0, .int .i64 0] 63)) = W0 at HK hk hbk hcl
  have HK' : Hid (Calls Tryd.prog 93 #[.slice (some ⟨w.heap.size + 1, 0, none⟩) 1 1, .int .i64 (N : Int)] W0 fun e w' => ∃ v', e = .returned v' ∧ OwnG w' W0.heap.size v' (List.replicate N blank) ∧ Below W0.heap.size W0 w') := HK
  have HW0 : Hid (((w.alloc (.cells #[.int .i64 0, .int .i64 0, .slice none 0 0] 24)).alloc (.cells #[.int .i32 32, .int .i64 0, .int .i64 0, .int .i64 0] 63)) = W0) := hW0
  clear HK hcl hW0
  go_wp2_with (first
    | (go_at_call 93; rw [HW0.out]; refine HK'.out.mono ?_; rintro e W2 ⟨v, rfl, ⟨g, cap, rest, t, rfl, hgb, hlc, hcm, hgh⟩, b2⟩; have hr := carry hbk b2)
    | (refine wpList_store_row rfl 24 (.tmp 4) _ rfl w.heap.size #[.int .i64 a, .int .i64 q, .slice (some ⟨g, 0, none⟩) N cap] rfl rfl _ _ hr (by kernel_rfl) rfl (one3v _ _ _ _ _) ?_))
  (try simp only [Exit.inBlock, Exit.then])
  have hl : (List.replicate N blank).length = N := by simp
  rw [hl] at hlc
  refine bodyPost_ret (v := .agg #[.int .i64 a, .int .i64 q, .slice (some ⟨g, 0, none⟩) N cap]) ?_ rfl ⟨_, rfl, ⟨g, cap, rest, t, by rw [hN, Int.toNat_natCast, hl], by have := hk.size; omega, by rw [hN, Int.toNat_natCast, hl]; exact hlc, hcm, ?_⟩, below_setRow (hk.trans (b2.mono hk.size)) (Nat.le_refl _) _⟩
  · exact results_cell_row rfl _ _ w.heap.size _ _ _ _ rfl (setRow_heap _ _ _ _ _ _ hr) Tryd.underlying24 rfl (by kernel_rfl)
  · rw [hN, Int.toNat_natCast, setRow_other _ _ _ _ (by have := hk.size; have := blk_lt hbk; omega)]
    exact hgh
theorem size_any (a b : Int) (w : World) :
    Calls Tryd.prog 14 #[.int .i64 a, .int .i64 b] w fun e w' => e = .returned (.bool (isSize a b)) ∧ w = w' := by
  go_enter Tryd.func14, Tryd.ntmps14
  go_wp2
  all_goals (go_ret; exact ⟨Sty.ret_bool (by rw [Bool.eq_iff_iff]; simp [isSize]; try omega), rfl⟩)
end Grd
end Go.Proofs.YtnkeahfcpbepjaaDoor

/- slices.Equal of cells that read alike; SameGrid. -/
namespace Go.Proofs.YtnkeahfcpbepjaaDoor
open Go.ChangeShapes Go.WideShapes Go.ChangeAt Go.RowKit
namespace Grd
theorem neq_cell (r f b x : Int) (w : World) : (binOp .neq 63 (.agg #[.int .i32 r, .int .i64 f, .int .i64 b, .int .i64 x]) (.agg #[.int .i32 r, .int .i64 f, .int .i64 b, .int .i64 x])).run Tryd.prog w = .ok (.bool false) w := by
  go_simp
set_option maxHeartbeats 1000000 in
theorem equal_cells (b1 o1 c1 b2 o2 c2 : Nat) (cs : List C) (w : World) (h1 : CellsAt w b1 o1 cs) (h2 : CellsAt w b2 o2 cs) (hn : cs.length ≤ 1000000) :
    Calls Tryd.prog 78 #[.slice (some ⟨b1, o1, none⟩) cs.length c1, .slice (some ⟨b2, o2, none⟩) cs.length c2] w fun e w' => e = .returned (.bool true) ∧ Below w.heap.size w w' := by
  have H1 : Hid (CellsAt w b1 o1 cs) := h1
  have H2 : Hid (CellsAt w b2 o2 cs) := h2
  clear h1 h2
  generalize hl : cs.length = L at *
  have HL : Hid (cs.length = L) := hl
  clear hl
  have ne : ((L : Int) != (L : Int)) = false := by simp
  go_enter Tryd.func78, Tryd.ntmps78
  go_wp2_with fail
  go_loopg [13] L (fun g i wr => ∃ k : Nat, i = .int .i64 (k : Int) ∧ k ≤ L ∧ L - k ≤ g ∧ Below w.heap.size w wr)
  case atStart => exact ⟨0, rfl, by omega, by omega, Below.refl _ _⟩
  case round =>
    obtain ⟨k, rfl, hk, hg, hb⟩ := hrel
    by_cases hlt : k < L
    · have lt1 : ((k : Int) < (L : Int)) := by omega
      obtain ⟨p0, p1, p2, p3⟩ := H1.out.below hb k (by rw [HL.out]; exact hlt)
      obtain ⟨q0, q1, q2, q3⟩ := H2.out.below hb k (by rw [HL.out]; exact hlt)
      rcases hc : cs.getD k z0 with ⟨r, f, bk, x⟩
      rw [hc] at p0 p1 p2 p3 q0 q1 q2 q3
      dsimp only at p0 p1 p2 p3 q0 q1 q2 q3
      clear hc
      have nq := neq_cell r f bk x
      go_wp2_with fail
      go_region
      go_wp2_with fail
      go_roundg (L - (k + 1))
      case measure => omega
      case rel => exact ⟨k + 1, rfl, by omega, by omega, hb.drew⟩
    · have lt1 : ¬ ((k : Int) < (L : Int)) := by omega
      go_wp2_with fail
      go_ret
      exact ⟨rfl, hb⟩
set_option maxHeartbeats 1000000 in
theorem equal_empty (a1 a2 : Option Addr) (c1 c2 : Nat) (w : World) :
    Calls Tryd.prog 78 #[.slice a1 0 c1, .slice a2 0 c2] w fun e w' => e = .returned (.bool true) ∧ Below w.heap.size w w' := by
  go_enter Tryd.func78, Tryd.ntmps78
  go_wp2_with fail
  go_loopg [13] 1 (fun g i wr => i = .int .i64 0 ∧ wr = w)
  case atStart => exact ⟨rfl, rfl⟩
  case round =>
    obtain ⟨rfl, rfl⟩ := hrel
    go_wp2_with fail
    go_ret
    exact ⟨rfl, Below.refl _ _⟩
theorem equal_slices (v1 v2 : Value) (cs : List C) (w : World) (h1 : SliceAt w v1 cs) (h2 : SliceAt w v2 cs) (hn : cs.length ≤ 1000000) :
    Calls Tryd.prog 78 #[v1, v2] w fun e w' => e = .returned (.bool true) ∧ Below w.heap.size w w' := by
  rcases h1 with ⟨rfl, a1, c1, rfl⟩ | ⟨h0, b1, o1, c1, rfl, _, _, hC1⟩
  · rcases h2 with ⟨_, a2, c2, rfl⟩ | ⟨h0, _⟩
    · exact equal_empty a1 a2 c1 c2 w
    · exact absurd rfl h0
  · rcases h2 with ⟨rfl, _⟩ | ⟨_, b2, o2, c2, rfl, _, _, hC2⟩
    · exact absurd rfl h0
    · exact equal_cells b1 o1 c1 b2 o2 c2 cs w hC1 hC2 hn
set_option maxHeartbeats 1000000 in
/-- SameGrid of two grids that read alike. -/
theorem same_any (a h : Int) (v1 v2 : Value) (cs : List C) (w : World) (h1 : SliceAt w v1 cs) (h2 : SliceAt w v2 cs) (hn : cs.length ≤ 1000000) :
    Calls Tryd.prog 32 #[.agg #[.int .i64 a, .int .i64 h, v1], .agg #[.int .i64 a, .int .i64 h, v2]] w fun e w' => e = .returned (.bool true) ∧ Below w.heap.size w w' := by
  have H1 : Hid (SliceAt w v1 cs) := h1
  have H2 : Hid (SliceAt w v2 cs) := h2
  clear h1 h2
  have kk : Below w.heap.size w ((w.alloc (.cells #[.int .i64 a, .int .i64 h, v1] 24)).alloc (.cells #[.int .i64 a, .int .i64 h, v2] 24)) := ((Below.refl _ _).alloc (Nat.le_refl _) _).alloc (by simp) _
  have aa : (a == a) = true := by simp
  have ee : (h == h) = true := by simp
  go_enter Tryd.func32, Tryd.ntmps32
  go_wp2_with (first | (go_at_call 78; refine (equal_slices v1 v2 cs _ (H1.out.below kk) (H2.out.below kk) hn).mono ?_; rintro e W1 ⟨rfl, b1⟩))
  go_ret
  exact ⟨rfl, kk.trans (b1.mono kk.size)⟩
end Grd
end Go.Proofs.YtnkeahfcpbepjaaDoor

/- What a call that writes into some blocks of its caller's own leaves as it was. -/
namespace Go.Proofs.YtnkeahfcpbepjaaDoor
open Go.ChangeShapes Go.WideShapes Go.ChangeAt Go.RowKit
namespace Grd
/-- Below N all is as it was; of the blocks that were there only those of S may have turned. -/
def Apart (N : Nat) (S : List Nat) (w w' : World) : Prop := Below N w w' ∧ ∀ k, k ∉ S → k < w.heap.size → w'.heap[k]? = w.heap[k]?
theorem Apart.size {N : Nat} {S : List Nat} {w w' : World} (h : Apart N S w w') : w.heap.size ≤ w'.heap.size := h.1.size
theorem Apart.refl (N : Nat) (S : List Nat) (w : World) : Apart N S w w := ⟨Below.refl _ _, fun _ _ _ => rfl⟩
theorem Apart.trans {N : Nat} {S : List Nat} {a b c : World} (h : Apart N S a b) (k : Apart N S b c) : Apart N S a c :=
  ⟨h.1.trans k.1, fun i hi hl => (k.2 i hi (Nat.lt_of_lt_of_le hl h.size)).trans (h.2 i hi hl)⟩
theorem Apart.mono {N M : Nat} {S T : List Nat} {a b : World} (h : Apart N S a b) (hN : M ≤ N) (hS : ∀ k, k ∈ S → k ∈ T) : Apart M T a b :=
  ⟨h.1.mono hN, fun i hi hl => h.2 i (fun q => hi (hS i q)) hl⟩
theorem Apart.of {N : Nat} {S : List Nat} {a b : World} (h : Below a.heap.size a b) (hN : N ≤ a.heap.size) : Apart N S a b := ⟨h.mono hN, fun i _ hl => h.block i hl⟩
theorem Apart.step {N : Nat} {S : List Nat} {a b c : World} (h : Apart N S a b) (k : Below b.heap.size b c) (hN : N ≤ b.heap.size) : Apart N S a c := h.trans (.of k hN)
theorem Apart.setCell {N : Nat} {S : List Nat} {a b : World} (h : Apart N S a b) (g o : Nat) (v : Value) (hg : g ∈ S) (hN : N ≤ g) : Apart N S a (b.setCell ⟨g, o, none⟩ v) :=
  h.trans ⟨(Below.refl _ _).setCell hN v, fun i hi _ => heap_setCell_other _ _ _ _ (fun e => hi (by rw [e]; exact hg))⟩
theorem heap_setCells_ne (g k : Nat) (hne : k ≠ g) : ∀ (vs : List Value) (o : Nat) (w : World), (w.setCells g o vs).heap[k]? = w.heap[k]?
  | [], _, _ => rfl
  | v :: r, o, w => by
    show ((w.setCell ⟨g, o, none⟩ v).setCells g (o + 1) r).heap[k]? = _
    rw [heap_setCells_ne g k hne r (o + 1) _, heap_setCell_other _ _ _ _ hne]
theorem size_setCells (g : Nat) : ∀ (vs : List Value) (o : Nat) (w : World), (w.setCells g o vs).heap.size = w.heap.size
  | [], _, _ => rfl
  | v :: r, o, w => by
    show ((w.setCell ⟨g, o, none⟩ v).setCells g (o + 1) r).heap.size = _
    rw [size_setCells g r (o + 1) _]; simp
theorem below_cells {B g : Nat} {a : World} (hb : B ≤ g) : ∀ (vs : List Value) (o : Nat) (w : World), Below B a w → Below B a (w.setCells g o vs)
  | [], _, _, h => h
  | v :: r, o, _, h => below_cells hb r (o + 1) _ (h.setCell hb v)
theorem Apart.setCells {N : Nat} {S : List Nat} {a b : World} (h : Apart N S a b) (g o : Nat) (vs : List Value) (hg : g ∈ S) (hN : N ≤ g) : Apart N S a (b.setCells g o vs) :=
  h.trans ⟨below_cells hN _ _ _ (Below.refl _ _), fun i hi _ => heap_setCells_ne _ _ (fun e => hi (by rw [e]; exact hg)) _ _ _⟩
theorem Apart.iterAt {N : Nat} {S : List Nat} {a b : World} (h : Apart N S a b) (g : Nat) (s : ByteArray) (p : Nat) (hg : g ∈ S) (hN : N ≤ g) : Apart N S a (b.iterAt g s p) :=
  h.trans ⟨Lib.below_iterAt (Below.refl _ _) hN s p, fun i hi _ => Lib.iterAt_other _ _ _ _ _ (fun e => hi (by rw [e]; exact hg))⟩
theorem Apart.alloc {N : Nat} {S : List Nat} {a b : World} (h : Apart N S a b) (o : Obj) (hN : N ≤ b.heap.size) : Apart N S a (b.alloc o) :=
  h.step ((Below.refl _ _).alloc (Nat.le_refl _) o) hN
theorem Apart.drew {N : Nat} {S : List Nat} {a b : World} (h : Apart N S a b) : Apart N S a b.drew := ⟨h.1.drew, h.2⟩
/-- A block that was there, and is none of S, is as it was. -/
theorem Apart.carry {N : Nat} {S : List Nat} {a b : World} (h : Apart N S a b) {k : Nat} {o : Obj} (hk : a.heap[k]? = some o) (hS : k ∉ S) : b.heap[k]? = some o :=
  (h.2 k hS (blk_lt hk)).trans hk
end Grd
end Go.Proofs.YtnkeahfcpbepjaaDoor

/- The walk of isParted, where it says no. -/
namespace Go.Proofs.YtnkeahfcpbepjaaDoor
open Go.ChangeShapes Go.WideShapes Go.ChangeAt Go.RowKit
namespace Grd
open Txt (wd)
set_option maxHeartbeats 1000000 in
theorem parted_thin (b o c : Nat) (cs : List C) (x : Nat) (r : Int) (w : World) (hT : Txt.Tab w) (hx : x < cs.length)
    (h0 : w.cell? ⟨b, o + x * 4, none⟩ = some (.int .i32 r)) (hw : wd r ≠ 2) :
    Calls Tryd.prog 164 #[.slice (some ⟨b, o, none⟩) cs.length c, .int .i64 (x : Int)] w fun e w' => e = .returned (.bool false) ∧ Below w.heap.size w w' := by
  have HT : Hid (Txt.Tab w) := hT
  have nw : (wd r == 2) = false := by simpa using hw
  have y0 : ∀ d os, (Sort.grow (redrawn w d) os).cell? ⟨b, o + x * 4, none⟩ = some (.int .i32 r) := fun d os => cell_regrown h0 d os
  have K4 : Hid (∀ d os, Calls Tryd.prog 45 #[.int .i32 r] (Sort.grow (redrawn w d) os) fun e w'' => e = .returned (.int .i64 (wd r)) ∧ ∃ p : Regrown, w'' = Sort.grow (redrawn w p.d) p.os) := fun d os => Calls.regrown_of (Txt.width_any r _ (Tab.next HT.out (below_regrown w d os)))
  clear hT hw h0
  generalize wd r = v at *
  go_enter Tryd.func164, Tryd.ntmps164
  go_wp2_with fail
  refine wp_region_quiet_below (by kernel_rfl) (by kernel_rfl) ?_
  repeat (first | go_big_quiet_skip | quiet_step (first | (go_at_call 45; exact K4.out _ _)))
  refine wpQuiet_nil ?_
  intro _ hw'
  obtain ⟨⟨dq, os⟩, hw''⟩ := hw'
  subst hw''
  have k3 : Below w.heap.size w (Sort.grow (redrawn w dq) os) := below_regrown w dq os
  generalize Sort.grow (redrawn w dq) os = W3 at *
  go_wp2_with fail
  go_ret
  exact ⟨rfl, k3⟩
set_option maxHeartbeats 1000000 in
theorem parted_same (b o c : Nat) (cs : List C) (x : Nat) (r f bk xx : Int) (w : World) (hT : Txt.Tab w) (hx : x + 1 < cs.length) (hn : cs.length ≤ 1000000)
    (h0 : w.cell? ⟨b, o + x * 4, none⟩ = some (.int .i32 r)) (h1 : w.cell? ⟨b, o + x * 4 + 1, none⟩ = some (.int .i64 f)) (h2 : w.cell? ⟨b, o + x * 4 + 2, none⟩ = some (.int .i64 bk)) (h3 : w.cell? ⟨b, o + x * 4 + 3, none⟩ = some (.int .i64 xx))
    (p1 : w.cell? ⟨b, o + (x + 1) * 4 + 1, none⟩ = some (.int .i64 f)) (p2 : w.cell? ⟨b, o + (x + 1) * 4 + 2, none⟩ = some (.int .i64 bk)) (p3 : w.cell? ⟨b, o + (x + 1) * 4 + 3, none⟩ = some (.int .i64 xx)) (hw : wd r = 2) :
    Calls Tryd.prog 164 #[.slice (some ⟨b, o, none⟩) cs.length c, .int .i64 (x : Int)] w fun e w' => e = .returned (.bool false) ∧ Below w.heap.size w w' := by
  have HT : Hid (Txt.Tab w) := hT
  have hx0 : x < cs.length := by omega
  have hwr : IntKind.i64.wrap ((x : Int) + 1) = (x : Int) + 1 := by unfold IntKind.wrap; simp [IntKind.bits, IntKind.signed]; omega
  have hx1 : (0 : Int) ≤ (x : Int) + 1 := by omega
  have hx2 : (x : Int) + 1 < (cs.length : Int) := by omega
  have hx3 : ((x : Int) + 1).toNat = x + 1 := by omega
  have nq : ∀ w, (binOp .neq 26 (.agg #[.int .i64 f, .int .i64 bk, .int .i64 xx]) (.agg #[.int .i64 f, .int .i64 bk, .int .i64 xx])).run Tryd.prog w = .ok (.bool false) w := fun w => by rw [Sty.neq_agg]; simp
  have y0 : ∀ d os, (Sort.grow (redrawn w d) os).cell? ⟨b, o + x * 4, none⟩ = some (.int .i32 r) := fun d os => cell_regrown h0 d os
  have y1 : ∀ d os, (Sort.grow (redrawn w d) os).cell? ⟨b, o + x * 4 + 1, none⟩ = some (.int .i64 f) := fun d os => cell_regrown h1 d os
  have y2 : ∀ d os, (Sort.grow (redrawn w d) os).cell? ⟨b, o + x * 4 + 2, none⟩ = some (.int .i64 bk) := fun d os => cell_regrown h2 d os
  have y3 : ∀ d os, (Sort.grow (redrawn w d) os).cell? ⟨b, o + x * 4 + 3, none⟩ = some (.int .i64 xx) := fun d os => cell_regrown h3 d os
  have u1 : ∀ d os, (Sort.grow (redrawn w d) os).cell? ⟨b, o + (x + 1) * 4 + 1, none⟩ = some (.int .i64 f) := fun d os => cell_regrown p1 d os
  have u2 : ∀ d os, (Sort.grow (redrawn w d) os).cell? ⟨b, o + (x + 1) * 4 + 2, none⟩ = some (.int .i64 bk) := fun d os => cell_regrown p2 d os
  have u3 : ∀ d os, (Sort.grow (redrawn w d) os).cell? ⟨b, o + (x + 1) * 4 + 3, none⟩ = some (.int .i64 xx) := fun d os => cell_regrown p3 d os
  have K4 : Hid (∀ d os, Calls Tryd.prog 45 #[.int .i32 r] (Sort.grow (redrawn w d) os) fun e w'' => e = .returned (.int .i64 2) ∧ ∃ p : Regrown, w'' = Sort.grow (redrawn w p.d) p.os) := fun d os => Calls.regrown_of (width_to r _ (Tab.next HT.out (below_regrown w d os)) 2 hw)
  clear hT hw h0 h1 h2 h3 p1 p2 p3
  go_enter Tryd.func164, Tryd.ntmps164
  go_wp2_with fail
  refine wp_region_quiet_below (by kernel_rfl) (by kernel_rfl) ?_
  repeat (first | go_big_quiet_skip | quiet_step (first | (go_at_call 45; exact K4.out _ _)))
  refine wpQuiet_nil ?_
  intro _ hw'
  obtain ⟨⟨dq, os⟩, hw''⟩ := hw'
  subst hw''
  have k3 : Below w.heap.size w (Sort.grow (redrawn w dq) os) := below_regrown w dq os
  generalize Sort.grow (redrawn w dq) os = W3 at *
  go_wp2_with fail
  go_ret
  exact ⟨rfl, k3⟩
/-- A cell that isn't loose, and looks as the one behind it where it is wide. -/
theorem parted_of (b o c : Nat) (cs : List C) (x : Nat) (w : World) (hT : Txt.Tab w) (hC : CellsAt w b o cs) (hx : x < cs.length) (hn : cs.length ≤ 1000000) (hl : loose cs x = false) (hA : x + 1 < cs.length → wd (cs.getD x z0).1 = 2 → (cs.getD (x + 1) z0).1 = 0 → (cs.getD x z0).2 = (cs.getD (x + 1) z0).2) :
    Calls Tryd.prog 164 #[.slice (some ⟨b, o, none⟩) cs.length c, .int .i64 (x : Int)] w fun e w' => e = .returned (.bool false) ∧ Below w.heap.size w w' := by
  obtain ⟨h0, h1, h2, h3⟩ := hC x hx
  by_cases hw : wd (cs.getD x z0).1 = 2
  · have hn0 : ¬ (cs.getD x z0).1 = 0 := by intro e; rw [e] at hw; exact absurd hw (by decide +kernel)
    unfold loose at hl
    rw [if_neg hn0] at hl
    simp only [hw, decide_true, Bool.true_and, Bool.or_eq_false_iff, decide_eq_false_iff_not, Decidable.not_not] at hl
    have hx1 : x + 1 < cs.length := by omega
    have e := hA hx1 hw hl.2
    obtain ⟨-, p1, p2, p3⟩ := hC (x + 1) hx1
    rw [← e] at p1 p2 p3
    exact parted_same b o c cs x _ _ _ _ w hT hx1 hn h0 h1 h2 h3 p1 p2 p3 hw
  · exact parted_thin b o c cs x _ w hT hx h0 hw
end Grd
end Go.Proofs.YtnkeahfcpbepjaaDoor

/- The walk of mend. -/
namespace Go.Proofs.YtnkeahfcpbepjaaDoor
open Go.ChangeShapes Go.WideShapes Go.ChangeAt Go.RowKit
namespace Grd
def setR (cs : List C) (x : Nat) : List C := cs.set x (32, (cs.getD x z0).2)
def mendStep (cs : List C) (x : Nat) : List C := if loose cs x then setR cs x else cs
/-- A row after its first k cells are mended, from the left. -/
def mendTo (cs : List C) : Nat → List C
  | 0 => cs
  | k + 1 => mendStep (mendTo cs k) k
def mendL (cs : List C) : List C := mendTo cs cs.length
theorem mendStep_len (cs : List C) (x : Nat) : (mendStep cs x).length = cs.length := by
  unfold mendStep setR
  split <;> simp
theorem mendTo_len (cs : List C) : ∀ k, (mendTo cs k).length = cs.length
  | 0 => rfl
  | k + 1 => by
    show (mendStep (mendTo cs k) k).length = _
    rw [mendStep_len, mendTo_len cs k]
open Txt (wd)
/-- The second half of a wide rune looks as the first one does. -/
def Alike (cs : List C) : Prop := ∀ x, x + 1 < cs.length → wd (cs.getD x z0).1 = 2 → (cs.getD (x + 1) z0).1 = 0 → (cs.getD x z0).2 = (cs.getD (x + 1) z0).2
theorem setR_at (cs : List C) (x j : Nat) (hx : x < cs.length) : (setR cs x).getD j z0 = if j = x then (32, (cs.getD x z0).2) else cs.getD j z0 := by
  unfold setR
  simp only [List.getD, List.getElem?_set]
  by_cases h : j = x
  · subst h; simp [hx]
  · simp [h, Ne.symm h]
theorem alike_setR (cs : List C) (x : Nat) (hx : x < cs.length) (h : Alike cs) : Alike (setR cs x) := by
  intro j hj h2 h0
  have hl : (setR cs x).length = cs.length := by simp [setR]
  rw [hl] at hj
  rw [setR_at cs x j hx] at h2 ⊢
  rw [setR_at cs x (j + 1) hx] at h0 ⊢
  by_cases hjx : j = x
  · rw [if_pos hjx] at h2
    exact absurd (show wd 32 = 2 from h2) (by decide +kernel)
  · rw [if_neg hjx] at h2 ⊢
    by_cases hj1 : j + 1 = x
    · rw [if_pos hj1] at h0
      exact absurd (show (32 : Int) = 0 from h0) (by decide)
    · rw [if_neg hj1] at h0 ⊢
      exact h j hj h2 h0
theorem alike_to (cs : List C) (h : Alike cs) : ∀ k, k ≤ cs.length → Alike (mendTo cs k)
  | 0, _ => h
  | k + 1, hk => by
    show Alike (mendStep (mendTo cs k) k)
    unfold mendStep
    split
    · exact alike_setR _ k (by rw [mendTo_len]; omega) (alike_to cs h k (by omega))
    · exact alike_to cs h k (by omega)
theorem flat_set : ∀ (cs : List C) (x : Nat), x < cs.length → (flat cs).set (x * 4) (.int .i32 32) = flat (setR cs x)
  | c :: cs, 0, _ => by
    show (words c ++ flat cs).set 0 _ = flat ((32, c.2) :: cs)
    rfl
  | c :: cs, x + 1, h => by
    have ih := flat_set cs x (by simpa using h)
    show (words c ++ flat cs).set ((x + 1) * 4) _ = flat (setR (c :: cs) (x + 1))
    have e : setR (c :: cs) (x + 1) = c :: setR cs x := by simp [setR]
    rw [e]
    show _ = words c ++ flat (setR cs x)
    rw [← ih, List.set_append_right _ _ (by simp [words]; omega), show (x + 1) * 4 - (words c).length = x * 4 by simp [words]; omega]
theorem row_set (pre post : List Value) (cs : List C) (x : Nat) (h : x < cs.length) : (pre ++ (flat cs ++ post)).set (pre.length + x * 4) (.int .i32 32) = pre ++ (flat (setR cs x) ++ post) := by
  rw [List.set_append_right _ _ (by omega), Nat.add_sub_cancel_left, List.set_append_left _ _ (by rw [flat_len]; omega), flat_set cs x h]
/-- The row lies in block g behind 'pre'. -/
theorem cellsAt_mid {w : World} {g : Nat} {cs : List C} {pre post : List Value} {t : TypeId} (h : w.heap[g]? = some (.cells (pre ++ (flat cs ++ post)).toArray t (0, 0))) : CellsAt w g pre.length cs := fun j hj => by
  have key : ∀ i, i < 4 → w.cell? ⟨g, pre.length + j * 4 + i, none⟩ = (words (cs.getD j z0))[i]? := fun i hi => by
    rw [← flat_at cs j i hj hi]
    unfold World.cell?
    rw [h]
    have hl : j * 4 + i < (flat cs).length := by rw [flat_len]; omega
    simp only [List.getElem?_toArray]
    rw [Nat.add_assoc, List.getElem?_append_right (by omega), Nat.add_sub_cancel_left, List.getElem?_append_left hl]
    rfl
  exact ⟨key 0 (by omega), key 1 (by omega), key 2 (by omega), key 3 (by omega)⟩
theorem frozen_of {w : World} {g : Nat} {A : Array Value} {t : TypeId} (h : w.heap[g]? = some (.cells A t (0, 0))) (i : Nat) : w.frozen? ⟨g, i, none⟩ = false := by simp [World.frozen?, h]
set_option maxHeartbeats 2000000 in
theorem mend_any (g c : Nat) (cs : List C) (pre post : List Value) (t : TypeId) (w : World) (hh : w.heap[g]? = some (.cells (pre ++ (flat cs ++ post)).toArray t (0, 0))) (hn : cs.length ≤ 1000000) (hT : Txt.Tab w) (hg : 2 < g) (hA : Alike cs) :
    Calls Tryd.prog 155 #[.slice (some ⟨g, pre.length, none⟩) cs.length c] w fun e w' => e = .returned (.tuple #[]) ∧ w'.heap[g]? = some (.cells (pre ++ (flat (mendL cs) ++ post)).toArray t (0, 0)) ∧ Apart g [g] w w' := by
  have HT : Hid (∀ W, Apart g [g] w W → Txt.Tab W) := fun W b => hT.below b.1 hg
  have HG : Hid (g < w.heap.size) := blk_lt hh
  have HA : Hid (∀ k, k ≤ cs.length → Alike (mendTo cs k)) := alike_to cs hA
  clear hT hg hA
  generalize hl : cs.length = L at *
  have HL : Hid (cs.length = L) := hl
  clear hl
  generalize hp : pre.length = o at *
  have HP : Hid (pre.length = o) := hp
  clear hp
  go_enter Tryd.func155, Tryd.ntmps155
  go_wp2_with fail
  go_loopg [5] L (fun q i wr => ∃ k : Nat, i = .int .i64 (k : Int) ∧ k ≤ L ∧ L - k ≤ q ∧ Apart g [g] w wr ∧ wr.heap[g]? = some (.cells (pre ++ (flat (mendTo cs k) ++ post)).toArray t (0, 0)))
  case atStart => exact ⟨0, rfl, by omega, by omega, Apart.refl _ _ _, hh⟩
  case round =>
    obtain ⟨k, rfl, hk, hq, hb, hv⟩ := hrel
    clear hh
    have hlen : (mendTo cs k).length = L := by rw [mendTo_len, HL.out]
    by_cases hlt : k < L
    · have lt1 : ((k : Int) < (L : Int)) := by omega
      have hC : CellsAt wr g o (mendTo cs k) := by have := cellsAt_mid hv; rwa [HP.out] at this
      have hcell := (hC k (by rw [hlen]; exact hlt)).1
      have KL := isLoose_any g o c (mendTo cs k) k wr (HT.out wr hb) hC (by rw [hlen]; exact hlt) (by rw [hlen]; exact hn)
      rw [hlen] at KL
      cases hlo : loose (mendTo cs k) k with
      | false =>
        rw [hlo] at KL
        have HK : Hid (Calls Tryd.prog 131 #[.slice (some ⟨g, o, none⟩) L c, .int .i64 (k : Int)] wr fun e w' => e = .returned (.bool false) ∧ Below wr.heap.size wr w') := KL
        have HKP : Hid (∀ W, Below wr.heap.size wr W → Calls Tryd.prog 164 #[.slice (some ⟨g, o, none⟩) L c, .int .i64 (k : Int)] W fun e w' => e = .returned (.bool false) ∧ Below W.heap.size W w') := fun W bW => by
          have := parted_of g o c (mendTo cs k) k W (Tab.next (HT.out wr hb) bW) (hC.below bW) (by rw [hlen]; exact hlt) (by rw [hlen]; exact hn) hlo (HA.out k (by omega) k)
          rwa [hlen] at this
        have HE : Hid (mendTo cs (k + 1) = mendTo cs k) := by
          show mendStep (mendTo cs k) k = _
          unfold mendStep
          rw [hlo]
          rfl
        clear KL hlo hC hcell hlen
        go_wp2_with (first
          | (go_at_call 131; refine HK.out.mono ?_; rintro e W1 ⟨rfl, b1⟩)
          | (go_at_call 164; refine (HKP.out _ b1).mono ?_; rintro e W2 ⟨rfl, b2⟩; have b3 := b1.trans (b2.mono b1.size)))
        go_roundg (L - (k + 1))
        case measure => omega
        case rel => exact ⟨k + 1, rfl, by omega, by omega, hb.step b3 (Nat.le_of_lt (blk_lt hv)), by rw [HE.out]; exact carry hv b3⟩
      | true =>
        rw [hlo] at KL
        have HK : Hid (Calls Tryd.prog 131 #[.slice (some ⟨g, o, none⟩) L c, .int .i64 (k : Int)] wr fun e w' => e = .returned (.bool true) ∧ Below wr.heap.size wr w') := KL
        have HE : Hid (pre ++ (flat (mendTo cs (k + 1)) ++ post) = (pre ++ (flat (mendTo cs k) ++ post)).set (o + k * 4) (.int .i32 32)) := by
          have e : mendTo cs (k + 1) = setR (mendTo cs k) k := by
            show mendStep (mendTo cs k) k = _
            unfold mendStep
            rw [hlo]
            rfl
          unfold Hid
          rw [e, ← HP.out]
          exact (row_set pre post _ k (by rw [hlen]; exact hlt)).symm
        generalize ((mendTo cs k).getD k z0).1 = rr at hcell
        clear KL hlo hC hlen
        go_wp2_with (first | (go_at_call 131; refine HK.out.mono ?_; rintro e W1 ⟨rfl, b1⟩; have hcell1 := cell_keep b1 hcell; have hv1 := carry hv b1; have hfz : W1.frozen? ⟨g, o + k * 4, none⟩ = false := frozen_of hv1 _))
        go_roundg (L - (k + 1))
        case measure => omega
        case rel =>
          refine ⟨k + 1, rfl, by omega, by omega, (hb.step b1 (Nat.le_of_lt (blk_lt hv))).setCell g _ _ (by simp) (Nat.le_refl _), ?_⟩
          rw [HE.out]
          have := heap_setCell_same W1 g (o + k * 4) _ t (.int .i32 32) hv1
          simpa using this
    · have lt1 : ¬ ((k : Int) < (L : Int)) := by omega
      have hkL : k = L := by omega
      go_wp2_with fail
      go_end0
      refine ⟨rfl, ?_, hb⟩
      unfold mendL
      rw [HL.out, ← hkL]
      exact hv
end Grd
end Go.Proofs.YtnkeahfcpbepjaaDoor

/- What the reference's CheckGrid says, over lists: the same as grid.Check. -/
namespace Go.Proofs.YtnkeahfcpbepjaaDoor
namespace Grd
open Txt (wd)
open Sty (isSt)
/-- What the reference says of the cell i of a grid of width n. -/
def cellR (n : Nat) (cs : List C) (i : Nat) : Int :=
  if ((cs.getD i z0).1 ≠ 0 ∧ wd (cs.getD i z0).1 = 0) ∨ isSt (cs.getD i z0).2 = false then 4
  else if (cs.getD i z0).1 = 0 ∧ (i % n = 0 ∨ wd (cs.getD (i - 1) z0).1 ≠ 2 ∨ (cs.getD (i - 1) z0).2 ≠ (cs.getD i z0).2) then 5
  else if wd (cs.getD i z0).1 = 2 ∧ (i % n + 1 = n ∨ (cs.getD (i + 1) z0).1 ≠ 0) then 5 else 0
theorem first_append (f : Nat → Int) : ∀ (a k b : Nat), firstErr f k (a + b) = if firstErr f k a = 0 then firstErr f (k + a) b else firstErr f k a
  | 0, k, b => by simp [firstErr]
  | a + 1, k, b => by
    rw [show a + 1 + b = (a + b) + 1 by omega]
    show (if f k = 0 then firstErr f (k + 1) (a + b) else f k) = if (if f k = 0 then firstErr f (k + 1) a else f k) = 0 then firstErr f (k + (a + 1)) b else (if f k = 0 then firstErr f (k + 1) a else f k)
    by_cases h : f k = 0
    · simp only [if_pos h]
      rw [first_append f a (k + 1) b, show k + 1 + a = k + (a + 1) by omega]
    · simp only [if_neg h]
theorem first_congr (f g : Nat → Int) : ∀ (m k j : Nat), (∀ i, i < m → f (k + i) = g (j + i)) → firstErr f k m = firstErr g j m
  | 0, _, _, _ => rfl
  | m + 1, k, j, h => by
    have h0 := h 0 (by omega)
    simp only [Nat.add_zero] at h0
    have ih := first_congr f g m (k + 1) (j + 1) (fun i hi => by
      have := h (i + 1) (by omega)
      rwa [show k + (i + 1) = k + 1 + i by omega, show j + (i + 1) = j + 1 + i by omega] at this)
    show (if f k = 0 then firstErr f (k + 1) m else f k) = if g j = 0 then firstErr g (j + 1) m else g j
    rw [h0, ih]
theorem first_flat (f : Nat → Int) (g : Nat → Int) (n : Nat) : ∀ (m : Nat), (∀ y, y < m → f y = firstErr g (y * n) n) → firstErr f 0 m = firstErr g 0 (n * m)
  | 0, _ => rfl
  | m + 1, h => by
    have ih := first_flat f g n m (fun y hy => h y (by omega))
    rw [first_append f m 0 1, Nat.mul_add, first_append g (n * m) 0 (n * 1), ih, Nat.zero_add, Nat.zero_add, Nat.mul_one, Nat.mul_comm n m, ← h m (by omega)]
    have : firstErr f m 1 = f m := by
      show (if f m = 0 then 0 else f m) = f m
      split
      · rename_i h; exact h.symm
      · rfl
    rw [this]
theorem wd0 : wd 0 = 0 := by decide +kernel
theorem cell_same (n hh : Nat) (cs : List C) (hL : cs.length = n * hh) (y x : Nat) (hy : y < hh) (hx : x < n) : cellErr (rowAt n cs y) x = cellR n cs (y * n + x) := by
  have hf : (y + 1) * n ≤ n * hh := by rw [Nat.mul_comm n hh]; exact Nat.mul_le_mul_right _ hy
  rw [Nat.add_mul, Nat.one_mul] at hf
  have hlen : (rowAt n cs y).length = n := by
    unfold rowAt
    rw [List.length_take, List.length_drop, hL]
    omega
  have hg : ∀ j, j < n → (rowAt n cs y).getD j z0 = cs.getD (y * n + j) z0 := fun j hj => by
    unfold rowAt
    rw [getD_take _ _ _ hj, getD_drop]
  have hmod : (y * n + x) % n = x := by
    rw [Nat.mul_comm, Nat.mul_add_mod]
    exact Nat.mod_eq_of_lt hx
  unfold cellErr cellR loose
  rw [hlen, hg x hx, hmod]
  generalize cs.getD (y * n + x) z0 = c at *
  by_cases h4 : (c.1 ≠ 0 ∧ wd c.1 = 0) ∨ isSt c.2 = false
  · rw [if_pos h4, if_pos h4]
  · rw [if_neg h4, if_neg h4]
    by_cases hr : c.1 = 0
    · rw [if_pos hr]
      have w0 : ¬ wd c.1 = 2 := by rw [hr, wd0]; omega
      by_cases hx0 : x = 0
      · rw [if_pos (by simp [hx0]), if_pos ⟨hr, Or.inl hx0⟩]
      · rw [hg (x - 1) (by omega), show y * n + (x - 1) = y * n + x - 1 by omega]
        generalize cs.getD (y * n + x - 1) z0 = p at *
        by_cases hq : wd p.1 ≠ 2 ∨ p.2 ≠ c.2
        · rw [if_pos, if_pos ⟨hr, Or.inr hq⟩]
          rcases hq with hq | hq
          · left; simp [hq]
          · right; exact ⟨hr, fun e => hq e.symm⟩
        · rw [if_neg, if_neg (fun h => hq (h.2.resolve_left hx0)), if_neg (fun h => w0 h.1)]
          rintro (h | h)
          · simp [hx0] at h
            exact hq (Or.inl h)
          · exact hq (Or.inr (fun e => h.2 e.symm))
    · rw [if_neg hr, if_neg (show ¬ (c.1 = 0 ∧ (x = 0 ∨ wd (cs.getD (y * n + x - 1) z0).1 ≠ 2 ∨ (cs.getD (y * n + x - 1) z0).2 ≠ c.2)) from fun h => hr h.1)]
      by_cases hl : x + 1 = n
      · by_cases h2 : wd c.1 = 2
        · rw [if_pos (by left; simp [h2, hl]), if_pos ⟨h2, Or.inl hl⟩]
        · rw [if_neg, if_neg (fun h => h2 h.1)]
          rintro (h | h)
          · simp [h2] at h
          · exact hr h.1
      · rw [hg (x + 1) (by omega), show y * n + (x + 1) = y * n + x + 1 by omega]
        generalize cs.getD (y * n + x + 1) z0 = q at *
        by_cases h2 : wd c.1 = 2 ∧ q.1 ≠ 0
        · rw [if_pos (by left; simp [h2.1, h2.2]), if_pos ⟨h2.1, Or.inr h2.2⟩]
        · rw [if_neg, if_neg (fun h => h2 ⟨h.1, h.2.resolve_left hl⟩)]
          rintro (h | h)
          · simp [hl] at h
            exact h2 h
          · exact hr h.1
/-- grid.Check and the reference's CheckGrid say the same. -/
theorem errs_same (n hh : Nat) (cs : List C) (hL : cs.length = n * hh) : firstErr (fun y => rowErr (rowAt n cs y)) 0 hh = firstErr (cellR n cs) 0 (n * hh) := by
  refine first_flat _ _ n hh (fun y hy => ?_)
  have hf : (y + 1) * n ≤ n * hh := by rw [Nat.mul_comm n hh]; exact Nat.mul_le_mul_right _ hy
  rw [Nat.add_mul, Nat.one_mul] at hf
  have hlen : (rowAt n cs y).length = n := by
    unfold rowAt
    rw [List.length_take, List.length_drop, hL]
    omega
  show rowErr (rowAt n cs y) = _
  unfold rowErr
  rw [hlen]
  exact first_congr _ _ n 0 (y * n) (fun i hi => by rw [Nat.zero_add]; exact cell_same n hh cs hL y i hy hi)
end Grd
end Go.Proofs.YtnkeahfcpbepjaaDoor

/- Plain mathematics on the rows of a grid: parts of a row set, rows one behind the other, mending, what is a right row. -/
namespace Go.Proofs.YtnkeahfcpbepjaaDoor
namespace Grd
open Txt (wd)
open Sty (isSt)
theorem wd32 : wd 32 = 1 := by decide +kernel
theorem wd_nonneg (r : Int) : 0 ≤ wd r := (Txt.wd_range r).1
/-- A row with the cells at which p holds set to f. -/
def putRow (row : List C) (p : Nat → Bool) (f : Nat → C) : List C := (List.range row.length).map fun x => if p x then f x else row.getD x z0
theorem putRow_len (row : List C) (p : Nat → Bool) (f : Nat → C) : (putRow row p f).length = row.length := by simp [putRow]
theorem putRow_at (row : List C) (p : Nat → Bool) (f : Nat → C) (x : Nat) (hx : x < row.length) : (putRow row p f).getD x z0 = if p x then f x else row.getD x z0 := by
  simp [putRow, List.getD, hx]
theorem ext_getD (a b : List C) (hl : a.length = b.length) (h : ∀ x, x < a.length → a.getD x z0 = b.getD x z0) : a = b := by
  refine List.ext_getElem hl fun i h1 h2 => ?_
  have := h i h1
  simp only [List.getD, List.getElem?_eq_getElem h1, List.getElem?_eq_getElem h2, Option.getD_some] at this
  exact this
theorem getD_set (cs : List C) (x : Nat) (c : C) (j : Nat) (hx : x < cs.length) : (cs.set x c).getD j z0 = if j = x then c else cs.getD j z0 := by
  simp only [List.getD, List.getElem?_set]
  by_cases h : j = x
  · subst h; simp [hx]
  · simp [h, Ne.symm h]
theorem putRow_none (row : List C) (p : Nat → Bool) (f : Nat → C) (h : ∀ x, x < row.length → p x = false) : putRow row p f = row :=
  ext_getD _ _ (putRow_len _ _ _) fun x hx => by
    rw [putRow_len] at hx
    rw [putRow_at _ _ _ _ hx, h x hx]; rfl
theorem putRow_congr (row : List C) (p q : Nat → Bool) (f g : Nat → C) (h : ∀ x, x < row.length → p x = q x ∧ (p x = true → f x = g x)) : putRow row p f = putRow row q g :=
  ext_getD _ _ (by rw [putRow_len, putRow_len]) fun x hx => by
    rw [putRow_len] at hx
    rw [putRow_at _ _ _ _ hx, putRow_at _ _ _ _ hx, ← (h x hx).1]
    by_cases hp : p x = true
    · rw [if_pos hp, if_pos hp, (h x hx).2 hp]
    · rw [if_neg hp, if_neg hp]
/-- One more cell set. -/
theorem putRow_set (row : List C) (p q : Nat → Bool) (f : Nat → C) (k : Nat) (hk : k < row.length) (hq : ∀ x, x < row.length → q x = (p x || decide (x = k))) : (putRow row p f).set k (f k) = putRow row q f :=
  ext_getD _ _ (by simp [putRow_len]) fun x hx => by
    rw [List.length_set, putRow_len] at hx
    rw [getD_set _ _ _ _ (by rw [putRow_len]; exact hk), putRow_at _ _ _ _ hx, putRow_at _ _ _ _ hx, hq x hx]
    by_cases h : x = k
    · subst h; simp
    · simp [h]
/-- The rows below k, each as f makes it, one behind the other. -/
def preF (n : Nat) (cs : List C) (f : Nat → List C → List C) : Nat → List C
  | 0 => []
  | k + 1 => preF n cs f k ++ f k (rowAt n cs k)
def KeepLen (n : Nat) (f : Nat → List C → List C) : Prop := ∀ y row, row.length = n → (f y row).length = n
theorem preF_len (n hh : Nat) (cs : List C) (f : Nat → List C → List C) (hL : cs.length = n * hh) (hf : KeepLen n f) : ∀ k, k ≤ hh → (preF n cs f k).length = k * n
  | 0, _ => by simp [preF]
  | k + 1, h => by
    show (preF n cs f k ++ f k (rowAt n cs k)).length = _
    rw [List.length_append, preF_len n hh cs f hL hf k (by omega), hf _ _ (row_len n hh cs k hL (by omega)), Nat.add_mul, Nat.one_mul]
theorem drop_row (n : Nat) (cs : List C) (k : Nat) : cs.drop (k * n) = rowAt n cs k ++ cs.drop ((k + 1) * n) := by
  unfold rowAt
  rw [Nat.add_mul, Nat.one_mul, ← List.drop_drop, List.take_append_drop]
theorem take_row (n : Nat) (cs : List C) (k : Nat) : cs.take ((k + 1) * n) = cs.take (k * n) ++ rowAt n cs k := by
  unfold rowAt
  rw [Nat.add_mul, Nat.one_mul, List.take_add]
theorem preF_id (n : Nat) (cs : List C) (f : Nat → List C → List C) : ∀ k, (∀ y, y < k → f y (rowAt n cs y) = rowAt n cs y) → preF n cs f k = cs.take (k * n)
  | 0, _ => by simp [preF]
  | k + 1, h => by
    show preF n cs f k ++ f k (rowAt n cs k) = _
    rw [preF_id n cs f k (fun y hy => h y (by omega)), h k (by omega), take_row]
theorem preF_congr (n : Nat) (cs : List C) (f g : Nat → List C → List C) : ∀ k, (∀ y, y < k → f y (rowAt n cs y) = g y (rowAt n cs y)) → preF n cs f k = preF n cs g k
  | 0, _ => rfl
  | k + 1, h => by
    show preF n cs f k ++ f k (rowAt n cs k) = preF n cs g k ++ g k (rowAt n cs k)
    rw [preF_congr n cs f g k (fun y hy => h y (by omega)), h k (by omega)]
theorem preF_rest (n hh : Nat) (cs : List C) (f : Nat → List C → List C) (hL : cs.length = n * hh) (k : Nat) : ∀ m, k + m = hh → (∀ y, k ≤ y → y < hh → f y (rowAt n cs y) = rowAt n cs y) → preF n cs f hh = preF n cs f k ++ cs.drop (k * n) := by
  have key : ∀ m, k + m ≤ hh → (∀ y, k ≤ y → y < hh → f y (rowAt n cs y) = rowAt n cs y) → preF n cs f (k + m) ++ cs.drop ((k + m) * n) = preF n cs f k ++ cs.drop (k * n) := by
    intro m
    induction m with
    | zero => intro _ _; rfl
    | succ m ih =>
      intro h hid
      rw [← ih (by omega) hid, drop_row n cs (k + m)]
      show (preF n cs f (k + m) ++ f (k + m) (rowAt n cs (k + m))) ++ _ = _
      rw [hid (k + m) (by omega) (by omega), List.append_assoc]
      rfl
  intro m hm hid
  have := key m (by omega) hid
  rw [hm] at this
  rw [← this, List.drop_of_length_le (by rw [hL, Nat.mul_comm]; exact Nat.le_refl _), List.append_nil]
theorem rowAt_preF (n hh : Nat) (cs : List C) (f : Nat → List C → List C) (hL : cs.length = n * hh) (hf : KeepLen n f) (y : Nat) : ∀ k, y < k → k ≤ hh → rowAt n (preF n cs f k) y = f y (rowAt n cs y)
  | 0, h, _ => by omega
  | k + 1, h, hk => by
    have hlen := preF_len n hh cs f hL hf k (by omega)
    by_cases he : y = k
    · subst he
      unfold rowAt
      show ((preF n cs f y ++ f y (rowAt n cs y)).drop (y * n)).take n = _
      rw [List.drop_left' hlen, List.take_of_length_le (by rw [hf _ _ (row_len n hh cs y hL (by omega))]; exact Nat.le_refl _)]
      rfl
    · have ih := rowAt_preF n hh cs f hL hf y k (by omega) (by omega)
      unfold rowAt at ih ⊢
      show ((preF n cs f k ++ f k (rowAt n cs k)).drop (y * n)).take n = _
      have : (y + 1) * n ≤ k * n := Nat.mul_le_mul_right _ (by omega)
      rw [Nat.add_mul, Nat.one_mul] at this
      rw [List.drop_append_of_le_length (by omega), List.take_append_of_le_length (by rw [List.length_drop]; omega), ih]
/-- Mending, each cell by what stood there: the order makes no difference. -/
def mendM (cs : List C) : List C := (List.range cs.length).map fun x => if loose cs x then (32, (cs.getD x z0).2) else cs.getD x z0
theorem mendM_len (cs : List C) : (mendM cs).length = cs.length := by simp [mendM]
theorem mendM_at (cs : List C) (x : Nat) (hx : x < cs.length) : (mendM cs).getD x z0 = if loose cs x then (32, (cs.getD x z0).2) else cs.getD x z0 := by
  simp [mendM, List.getD, hx]
theorem mendTo_at (cs : List C) : ∀ k, k ≤ cs.length → ∀ x, x < cs.length → (mendTo cs k).getD x z0 = if x < k ∧ loose cs x = true then (32, (cs.getD x z0).2) else cs.getD x z0
  | 0, _, x, hx => by simp [mendTo]
  | k + 1, hk, x, hx => by
    have ih := mendTo_at cs k (by omega)
    have hl := mendTo_len cs k
    have ek : (mendTo cs k).getD k z0 = cs.getD k z0 := by rw [ih k (by omega), if_neg (by simp)]
    have hlo : loose (mendTo cs k) k = loose cs k := by
      unfold loose
      rw [ek, hl]
      by_cases hr : (cs.getD k z0).1 = 0
      · rw [if_pos hr, if_pos hr]
        by_cases h0 : k = 0
        · simp [h0]
        · have e : (wd ((mendTo cs k).getD (k - 1) z0).1 ≠ 2) = (wd (cs.getD (k - 1) z0).1 ≠ 2) := by
            rw [ih (k - 1) (by omega)]
            by_cases hq : loose cs (k - 1) = true
            · rw [if_pos ⟨by omega, hq⟩]
              have : wd (cs.getD (k - 1) z0).1 ≠ 2 := by
                intro h2
                unfold loose at hq
                have hn : ¬ (cs.getD (k - 1) z0).1 = 0 := by intro h; rw [h, wd0] at h2; omega
                rw [if_neg hn] at hq
                simp only [Bool.and_eq_true, Bool.or_eq_true, decide_eq_true_eq] at hq
                rcases hq.2 with h | h
                · omega
                · rw [show k - 1 + 1 = k by omega] at h; exact h hr
              simp [this, wd32, -List.getD_eq_getElem?_getD]
            · rw [if_neg (fun h => hq h.2)]
          simp only [e]
      · rw [if_neg hr, if_neg hr]
        by_cases hl2 : k + 1 = cs.length
        · simp [hl2]
        · rw [ih (k + 1) (by omega), if_neg (by omega)]
    show (mendStep (mendTo cs k) k).getD x z0 = _
    unfold mendStep
    rw [hlo]
    by_cases hlk : loose cs k = true
    · rw [if_pos hlk]
      unfold setR
      rw [getD_set _ _ _ _ (by rw [hl]; omega), ek]
      by_cases hxk : x = k
      · subst hxk; simp [hlk]
      · rw [if_neg hxk, ih x hx]
        by_cases hc : x < k ∧ loose cs x = true
        · rw [if_pos hc, if_pos ⟨by omega, hc.2⟩]
        · rw [if_neg hc, if_neg (fun h => hc ⟨by omega, h.2⟩)]
    · rw [if_neg hlk, ih x hx]
      by_cases hc : x < k ∧ loose cs x = true
      · rw [if_pos hc, if_pos ⟨by omega, hc.2⟩]
      · rw [if_neg hc, if_neg (fun h => hc ⟨by
          have := h.1
          rcases Nat.lt_or_ge x k with h' | h'
          · exact h'
          · exfalso
            obtain rfl : x = k := by omega
            exact hlk h.2, h.2⟩)]
theorem mendL_eq (cs : List C) : mendL cs = mendM cs :=
  ext_getD _ _ (by rw [mendM_len]; exact mendTo_len _ _) fun x hx => by
    unfold mendL at hx ⊢
    rw [mendTo_len] at hx
    rw [mendTo_at cs _ (Nat.le_refl _) x hx, mendM_at cs x hx]
    by_cases h : loose cs x = true
    · rw [if_pos ⟨hx, h⟩, if_pos h]
    · rw [if_neg (fun q => h q.2), if_neg h]
theorem mendL_len (cs : List C) : (mendL cs).length = cs.length := mendTo_len _ _
theorem mendL_fix (cs : List C) (h : ∀ x, x < cs.length → loose cs x = false) : mendL cs = cs := by
  rw [mendL_eq]
  refine ext_getD _ _ (mendM_len _) fun x hx => ?_
  rw [mendM_len] at hx
  rw [mendM_at cs x hx, h x hx]; rfl
/-- What a row must be so that mending makes a right one of it. -/
def Meant (row : List C) : Prop := ∀ x, x < row.length → ((row.getD x z0).1 ≠ 0 → wd (row.getD x z0).1 ≠ 0) ∧ isSt (row.getD x z0).2 = true ∧
  ((row.getD x z0).1 = 0 → 0 < x → wd (row.getD (x - 1) z0).1 = 2 → (row.getD x z0).2 = (row.getD (x - 1) z0).2)
theorem Meant.alike {row : List C} (h : Meant row) : Alike row := fun x hx h2 h0 => ((h (x + 1) hx).2.2 h0 (by omega) h2).symm
def RightRow (row : List C) : Prop := Meant row ∧ ∀ x, x < row.length → loose row x = false
theorem mend_right (row : List C) (h : Meant row) : RightRow (mendL row) := by
  rw [mendL_eq]
  have hst : ∀ x, x < row.length → ((mendM row).getD x z0).2 = (row.getD x z0).2 := fun x hx => by
    rw [mendM_at row x hx]; split <;> rfl
  have hz : ∀ x, x < row.length → ((mendM row).getD x z0).1 = 0 → (row.getD x z0).1 = 0 ∧ loose row x = false := fun x hx h0 => by
    rw [mendM_at row x hx] at h0
    by_cases hl : loose row x = true
    · rw [if_pos hl] at h0; exact absurd (show (32 : Int) = 0 from h0) (by decide)
    · rw [if_neg hl] at h0; exact ⟨h0, by simpa using hl⟩
  have hw : ∀ x, x < row.length → wd ((mendM row).getD x z0).1 = 2 → wd (row.getD x z0).1 = 2 ∧ loose row x = false := fun x hx h0 => by
    rw [mendM_at row x hx] at h0
    by_cases hl : loose row x = true
    · rw [if_pos hl] at h0; dsimp only at h0; rw [wd32] at h0; exact absurd h0 (by decide)
    · rw [if_neg hl] at h0; exact ⟨h0, by simpa using hl⟩
  refine ⟨fun x hx => ?_, fun x hx => ?_⟩
  · rw [mendM_len] at hx
    refine ⟨fun _ => ?_, ?_, fun h0 hp h2 => ?_⟩
    · rw [mendM_at row x hx] at *
      by_cases hl : loose row x = true
      · rw [if_pos hl]; dsimp only; rw [wd32]; decide
      · rename_i hne
        rw [if_neg hl] at hne ⊢
        exact (h x hx).1 hne
    · rw [hst x hx]; exact (h x hx).2.1
    · rw [hst x hx, hst (x - 1) (by omega)]
      exact (h x hx).2.2 (hz x hx h0).1 hp (hw (x - 1) (by omega) h2).1
  · rw [mendM_len] at hx
    unfold loose
    by_cases hr : ((mendM row).getD x z0).1 = 0
    · rw [if_pos hr]
      obtain ⟨h0, hl⟩ := hz x hx hr
      unfold loose at hl
      rw [if_pos h0] at hl
      simp only [Bool.or_eq_false_iff, decide_eq_false_iff_not, Decidable.not_not] at hl
      have hnl : loose row (x - 1) = false := by
        unfold loose
        have hn : ¬ (row.getD (x - 1) z0).1 = 0 := by intro h; rw [h, wd0] at hl; exact absurd hl.2 (by decide)
        rw [if_neg hn, show x - 1 + 1 = x by omega, h0]
        simp
        intro _; omega
      rw [mendM_at row (x - 1) (by omega), hnl]
      simp [hl.1, hl.2, -List.getD_eq_getElem?_getD]
    · rw [if_neg hr]
      by_cases h2 : wd ((mendM row).getD x z0).1 = 2
      · obtain ⟨hw2, hl⟩ := hw x hx h2
        have hn : ¬ (row.getD x z0).1 = 0 := by intro h; rw [h, wd0] at hw2; exact absurd hw2 (by decide)
        unfold loose at hl
        rw [if_neg hn] at hl
        simp only [hw2, decide_true, Bool.true_and, Bool.or_eq_false_iff, decide_eq_false_iff_not, Decidable.not_not] at hl
        have hnl : loose row (x + 1) = false := by
          unfold loose
          rw [if_pos hl.2]
          simp [hw2, -List.getD_eq_getElem?_getD]
        rw [mendM_len, mendM_at row (x + 1) (by omega), hnl]
        simp [hl.1, hl.2, -List.getD_eq_getElem?_getD]
      · simp [h2, -List.getD_eq_getElem?_getD]
theorem firstErr_zero (f : Nat → Int) : ∀ m k, firstErr f k m = 0 ↔ ∀ i, i < m → f (k + i) = 0
  | 0, k => by simp [firstErr]
  | m + 1, k => by
    show (if f k = 0 then firstErr f (k + 1) m else f k) = 0 ↔ _
    by_cases h : f k = 0
    · rw [if_pos h, firstErr_zero f m (k + 1)]
      constructor
      · intro hh i hi
        rcases i with _ | i
        · exact h
        · have := hh i (by omega); rwa [show k + 1 + i = k + (i + 1) by omega] at this
      · intro hh i hi
        have := hh (i + 1) (by omega); rwa [show k + (i + 1) = k + 1 + i by omega] at this
    · rw [if_neg h]
      exact ⟨fun e => absurd e h, fun hh => absurd (hh 0 (by omega)) h⟩
theorem cellErr_zero (row : List C) (x : Nat) : cellErr row x = 0 ↔ ((row.getD x z0).1 ≠ 0 → wd (row.getD x z0).1 ≠ 0) ∧ isSt (row.getD x z0).2 = true ∧ loose row x = false ∧ ((row.getD x z0).1 = 0 → (row.getD x z0).2 = (row.getD (x - 1) z0).2) := by
  unfold cellErr
  by_cases h1 : ((row.getD x z0).1 ≠ 0 ∧ wd (row.getD x z0).1 = 0) ∨ isSt (row.getD x z0).2 = false
  · rw [if_pos h1]
    constructor
    · intro h; exact absurd h (by decide)
    · intro h
      rcases h1 with h1 | h1
      · exact absurd h1.2 (h.1 h1.1)
      · rw [h.2.1] at h1; exact absurd h1 (by decide)
  · rw [if_neg h1]
    by_cases h2 : loose row x = true ∨ ((row.getD x z0).1 = 0 ∧ (row.getD x z0).2 ≠ (row.getD (x - 1) z0).2)
    · rw [if_pos h2]
      constructor
      · intro h; exact absurd h (by decide)
      · intro h
        rcases h2 with h2 | h2
        · rw [h.2.2.1] at h2; exact absurd h2 (by decide)
        · exact absurd (h.2.2.2 h2.1) h2.2
    · rw [if_neg h2]
      refine ⟨fun _ => ⟨fun h0 hw => h1 (.inl ⟨h0, hw⟩), ?_, ?_, fun h0 => ?_⟩, fun _ => rfl⟩
      · cases hs : isSt (row.getD x z0).2 with
        | true => rfl
        | false => exact absurd (.inr hs) h1
      · cases hs : loose row x with
        | false => rfl
        | true => exact absurd (.inl hs) h2
      · exact Decidable.byContradiction fun hne => h2 (.inr ⟨h0, hne⟩)
theorem rowErr_zero (row : List C) : rowErr row = 0 ↔ RightRow row := by
  unfold rowErr
  rw [firstErr_zero]
  constructor
  · intro h
    refine ⟨fun x hx => ?_, fun x hx => ?_⟩
    · have := h x hx
      rw [Nat.zero_add, cellErr_zero] at this
      exact ⟨this.1, this.2.1, fun h0 _ _ => this.2.2.2 h0⟩
    · have := h x hx
      rw [Nat.zero_add, cellErr_zero] at this
      exact this.2.2.1
  · rintro ⟨hm, hl⟩ x hx
    rw [Nat.zero_add, cellErr_zero]
    refine ⟨(hm x hx).1, (hm x hx).2.1, hl x hx, fun h0 => ?_⟩
    have := hl x hx
    unfold loose at this
    rw [if_pos h0] at this
    simp only [Bool.or_eq_false_iff, decide_eq_false_iff_not, Decidable.not_not] at this
    exact (hm x hx).2.2 h0 (by omega) this.2
theorem gridErr_zero (n hh : Nat) (cs : List C) : gridErr n hh cs = 0 ↔ isSize n hh = true ∧ cs.length = n * hh ∧ ∀ y, y < hh → RightRow (rowAt n cs y) := by
  unfold gridErr
  by_cases h : isSize (n : Int) hh = false ∨ (cs.length : Int) ≠ (n : Int) * hh
  · rw [if_pos h]
    constructor
    · intro e; exact absurd e (by decide)
    · rintro ⟨h1, h2, _⟩
      rcases h with h | h
      · rw [h1] at h; exact absurd h (by decide)
      · exact absurd (by exact_mod_cast h2) h
  · rw [if_neg h, firstErr_zero, Int.toNat_natCast, Int.toNat_natCast]
    have h' := not_or.1 h
    refine ⟨fun q => ⟨by simpa using h'.1, by exact_mod_cast Decidable.not_not.1 h'.2, fun y hy => ?_⟩, fun q y hy => ?_⟩
    · have := q y hy
      rw [Nat.zero_add] at this
      exact (rowErr_zero _).1 this
    · rw [Nat.zero_add]
      exact (rowErr_zero _).2 (q.2.2 y hy)
theorem meant_put (row : List C) (p : Nat → Bool) (f : Nat → C) (h : Meant row) (h1 : ∀ x, x < row.length → p x = true → ((f x).1 ≠ 0 → wd (f x).1 ≠ 0) ∧ isSt (f x).2 = true)
    (h2 : ∀ x, x + 1 < row.length → p x = true → p (x + 1) = true → (f (x + 1)).1 = 0 → wd (f x).1 = 2 → (f (x + 1)).2 = (f x).2)
    (h3 : ∀ x, x + 1 < row.length → p x = false → p (x + 1) = true → (f (x + 1)).1 ≠ 0) (h4 : ∀ x, x + 1 < row.length → p x = true → p (x + 1) = false → wd (f x).1 ≠ 2) : Meant (putRow row p f) := by
  intro x hx
  rw [putRow_len] at hx
  rw [putRow_at _ _ _ _ hx]
  refine ⟨?_, ?_, ?_⟩
  · cases hp : p x with
    | true => exact (h1 x hx hp).1
    | false => exact (h x hx).1
  · cases hp : p x with
    | true => exact (h1 x hx hp).2
    | false => exact (h x hx).2.1
  · intro h0 hpos hw
    obtain ⟨u, rfl⟩ : ∃ u, x = u + 1 := ⟨x - 1, by omega⟩
    rw [Nat.add_sub_cancel] at hw ⊢
    rw [putRow_at _ _ _ u (by omega)] at hw ⊢
    cases hp : p (u + 1) with
    | true =>
      rw [hp] at h0
      cases hq : p u with
      | true =>
        rw [hq] at hw
        exact h2 u hx hq hp h0 hw
      | false => exact absurd h0 (h3 u hx hq hp)
    | false =>
      rw [hp] at h0
      cases hq : p u with
      | true =>
        rw [hq] at hw
        exact absurd hw (h4 u hx hq hp)
      | false =>
        rw [hq] at hw
        exact (h (u + 1) hx).2.2 h0 hpos hw
theorem meant_fill (row : List C) (p : Nat → Bool) (c : C) (h : Meant row) (hc : wd c.1 = 1) (hs : isSt c.2 = true) : Meant (putRow row p fun _ => c) := by
  have hn : c.1 ≠ 0 := by intro h; rw [h, wd0] at hc; exact absurd hc (by decide)
  have hw : wd c.1 ≠ 2 := by rw [hc]; decide
  exact meant_put row p _ h (fun x _ _ => ⟨fun _ => by rw [hc]; decide, hs⟩) (fun x _ _ _ h0 _ => absurd h0 hn) (fun x _ _ _ => hn) (fun x _ _ _ => hw)
/-- The cells of 'fr' upon a row, from s on (s may be below 0). -/
def layP (m : Nat) (s : Int) (x : Nat) : Bool := decide (s ≤ x ∧ (x : Int) < s + m)
def layF (fr : List C) (s : Int) (x : Nat) : C := fr.getD ((x : Int) - s).toNat z0
theorem meant_lay (row fr : List C) (s : Int) (h : Meant row) (hf : RightRow fr) : Meant (putRow row (layP fr.length s) (layF fr s)) := by
  obtain ⟨hm, hl⟩ := hf
  refine meant_put row _ _ h (fun x hx hp => ?_) (fun x hx hp hq h0 hw => ?_) (fun x hx hp hq h0 => ?_) (fun x hx hp hq hw => ?_)
  · unfold layP at hp; unfold layF
    simp only [decide_eq_true_eq] at hp
    have := hm (((x : Int) - s).toNat) (by omega)
    exact ⟨this.1, this.2.1⟩
  · unfold layP at hp hq; unfold layF at h0 hw ⊢
    simp only [decide_eq_true_eq] at hp hq
    have e : (((x + 1 : Nat) : Int) - s).toNat - 1 = ((x : Int) - s).toNat := by omega
    have := (hm ((((x + 1 : Nat) : Int) - s).toNat) (by omega)).2.2 h0 (by omega)
    rw [e] at this
    exact this hw
  · unfold layP at hp hq; unfold layF at h0
    simp only [decide_eq_true_eq, decide_eq_false_iff_not] at hp hq
    have e : (((x + 1 : Nat) : Int) - s).toNat = 0 := by omega
    rw [e] at h0
    have := hl 0 (by omega)
    unfold loose at this
    rw [if_pos h0] at this
    simp at this
  · unfold layP at hp hq; unfold layF at hw
    simp only [decide_eq_true_eq, decide_eq_false_iff_not] at hp hq
    have e : ((x : Int) - s).toNat + 1 = fr.length := by omega
    have := hl (((x : Int) - s).toNat) (by omega)
    unfold loose at this
    have hn : ¬ (fr.getD ((x : Int) - s).toNat z0).1 = 0 := by intro h; rw [h, wd0] at hw; exact absurd hw (by decide)
    rw [if_neg hn, e] at this
    simp [hw, -List.getD_eq_getElem?_getD] at this
/-- One rune written at x, where it has room. -/
def writeOne (look : Int × Int × Int) (row : List C) (x : Nat) (r : Int) : List C :=
  if wd r = 0 then row else if wd r = 2 then (row.set x (r, look)).set (x + 1) (0, look) else row.set x (r, look)
def writeR (look : Int × Int × Int) : List (Int × Nat) → List C → Nat → List C
  | [], row, _ => row
  | r :: rs, row, x => if (row.length : Int) - x < wd r.1 then row else writeR look rs (writeOne look row x r.1) (x + (wd r.1).toNat)
theorem writeOne_len (look : Int × Int × Int) (row : List C) (x : Nat) (r : Int) : (writeOne look row x r).length = row.length := by
  unfold writeOne; repeat' split
  all_goals simp
theorem writeR_len (look : Int × Int × Int) : ∀ (rs : List (Int × Nat)) (row : List C) (x : Nat), (writeR look rs row x).length = row.length
  | [], _, _ => rfl
  | r :: rs, row, x => by
    unfold writeR
    split
    · rfl
    · rw [writeR_len, writeOne_len]
theorem meant_one (look : Int × Int × Int) (row : List C) (x : Nat) (r : Int) (h : Meant row) (hs : isSt look = true) (hr : wd r ≤ (row.length : Int) - x) : Meant (writeOne look row x r) := by
  unfold writeOne
  by_cases h0 : wd r = 0
  · rw [if_pos h0]; exact h
  · rw [if_neg h0]
    have hn : r ≠ 0 := by intro h; rw [h, wd0] at h0; exact h0 rfl
    have hpos := wd_nonneg r
    by_cases h2 : wd r = 2
    · rw [if_pos h2]
      have e : (row.set x (r, look)).set (x + 1) (0, look) = putRow row (fun j => decide (j = x ∨ j = x + 1)) (fun j => if j = x then (r, look) else (0, look)) := by
        refine ext_getD _ _ (by simp [putRow_len]) fun j hj => ?_
        rw [List.length_set, List.length_set] at hj
        rw [getD_set _ _ _ _ (by rw [List.length_set]; omega), getD_set _ _ _ _ (by omega), putRow_at _ _ _ _ hj]
        by_cases h1 : j = x + 1
        · subst h1; simp
        · by_cases h3 : j = x
          · subst h3; simp
          · simp [h1, h3]
      rw [e]
      refine meant_put row _ _ h (fun j hj hp => ?_) (fun j hj hp hq hz hw => ?_) (fun j hj hp hq => ?_) (fun j hj hp hq => ?_)
      · by_cases h3 : j = x
        · rw [if_pos h3]; exact ⟨fun _ => h0, hs⟩
        · rw [if_neg h3]; exact ⟨fun h => absurd rfl h, hs⟩
      · simp only [decide_eq_true_eq] at hp hq
        by_cases h3 : j = x
        · rw [if_pos h3, if_neg (by omega)]
        · rw [if_neg h3] at hw; dsimp only at hw; rw [wd0] at hw; exact absurd hw (by decide)
      · simp only [decide_eq_true_eq, decide_eq_false_iff_not] at hp hq
        rw [if_pos (by omega)]; exact hn
      · simp only [decide_eq_true_eq, decide_eq_false_iff_not] at hp hq
        rw [if_neg (by omega), wd0]; decide
    · rw [if_neg h2]
      have e : row.set x (r, look) = putRow row (fun j => decide (j = x)) (fun _ => (r, look)) := by
        refine ext_getD _ _ (by simp [putRow_len]) fun j hj => ?_
        rw [List.length_set] at hj
        rw [getD_set _ _ _ _ (by omega), putRow_at _ _ _ _ hj]
        by_cases h3 : j = x
        · subst h3; simp
        · simp [h3]
      rw [e]
      have h1 : wd r ≠ 2 := h2
      exact meant_put row _ _ h (fun j hj hp => ⟨fun _ => h0, hs⟩) (fun j hj hp hq hz hw => absurd hz hn) (fun j hj hp hq => hn) (fun j hj hp hq => h1)
theorem meant_write (look : Int × Int × Int) (hs : isSt look = true) : ∀ (rs : List (Int × Nat)) (row : List C) (x : Nat), Meant row → Meant (writeR look rs row x)
  | [], _, _, h => h
  | r :: rs, row, x, h => by
    unfold writeR
    split
    · exact h
    · exact meant_write look hs rs _ _ (meant_one look row x r.1 h hs (by omega))
theorem replicate_right (n : Nat) : RightRow (List.replicate n (32, 0, 0, 0)) := by
  have hg : ∀ x, x < n → (List.replicate n ((32, 0, 0, 0) : C)).getD x z0 = (32, 0, 0, 0) := fun x hx => by simp [List.getD, hx]
  refine ⟨fun x hx => ?_, fun x hx => ?_⟩
  · rw [List.length_replicate] at hx
    rw [hg x hx]
    exact ⟨fun _ => by dsimp only; rw [wd32]; decide, by decide, fun h => absurd h (by decide)⟩
  · rw [List.length_replicate] at hx
    unfold loose
    rw [hg x hx, if_neg (by decide)]
    dsimp only
    rw [wd32]
    rfl
theorem rowAt_replicate (n hh y : Nat) (c : C) (hy : y < hh) : rowAt n (List.replicate (n * hh) c) y = List.replicate n c := by
  have h : (y + 1) * n ≤ hh * n := Nat.mul_le_mul_right _ hy
  rw [Nat.add_mul, Nat.one_mul, Nat.mul_comm hh n] at h
  unfold rowAt
  rw [List.drop_replicate, List.take_replicate]
  congr 1
  omega
end Grd
end Go.Proofs.YtnkeahfcpbepjaaDoor

/- The walk of text.Columns: where the runes of a text stand. -/
namespace Go.Proofs.YtnkeahfcpbepjaaDoor
open Go.ChangeShapes Go.WideShapes Go.ChangeAt Go.RowKit Go.Maps
namespace Txt
def colsL : List (Int × Nat) → Int → List Int
  | [], _ => []
  | x :: t, c => if 0 < wd x.1 then c :: colsL t (c + wd x.1) else colsL t c
def colsB (l : List UInt8) : List Int := colsL (rn l) 0
theorem colsL_length : ∀ (l : List (Int × Nat)) (c : Int), (colsL l c).length ≤ l.length
  | [], _ => by simp [colsL]
  | x :: t, c => by
    unfold colsL
    split
    · have := colsL_length t (c + wd x.1); simp; omega
    · have := colsL_length t c; simp; omega
theorem own_below {w w' : World} {base : Nat} {e : TypeId} {size : Nat} {v : Value} {n : Nat} {xs : List Value} (h : w.ownsRow base e size v n xs) (hb : Below w.heap.size w w') : w'.ownsRow base e size v n xs := by
  refine ⟨h.1, ?_⟩
  rcases h.2 with h2 | ⟨g, cap, cur, hv, hg, hh, r⟩
  · exact .inl h2
  · exact .inr ⟨g, cap, cur, hv, hg, by rw [hb.block g (Array.getElem?_eq_some_iff.1 hh).1]; exact hh, r⟩
theorem own_iter {w : World} {base : Nat} {e : TypeId} {size : Nat} {v : Value} {n : Nat} {xs : List Value} (h : w.ownsRow base e size v n xs) {k : Nat} (hk : k < base) (s : ByteArray) (p : Nat) : (w.iterAt k s p).ownsRow base e size v n xs := ownsRow_iterAt h hk s p
theorem info_int : (Tryd.prog.info? 3).map (fun i => (i.zero, i.size, i.bytes)) = some (some (.int .i64 0), 1, 8) := by kernel_rfl

end Txt
end Go.Proofs.YtnkeahfcpbepjaaDoor

/- The shelf's contract for (*strings.Builder).WriteRune, laid at this program by hand. -/
namespace Go.Proofs
open Go.Shelf
def Tryd.lays168_ren : Go.Shelf.Ren := ⟨fun | 168 => 68 | 240 => 115 | 242 => 116 | 276 => 142 | 278 => 143 | n => n, fun | 0 => 0 | 3 => 3 | 4 => 4 | 5 => 5 | 9 => 9 | 20 => 20 | 21 => 21 | 37 => 98 | 46 => 96 | 51 => 163 | 70 => 97 | 72 => 100 | 75 => 102 | 80 => 105 | 164 => 161 | n => n, fun | n => n⟩
theorem Tryd.lays168 : Go.Proofs.Lays.n168 Tryd.prog Tryd.lays168_ren := {
  mixed := by kernel_rfl
  f168 := Tryd.func68.trans (congrArg some (by kernel_rfl))
  f240 := Tryd.func115.trans (congrArg some (by kernel_rfl))
  f242 := Tryd.func116.trans (congrArg some (by kernel_rfl))
  f276 := Tryd.func142.trans (congrArg some (by kernel_rfl))
  f278 := Tryd.func143.trans (congrArg some (by kernel_rfl))
  t0 := Tryd.underlying0
  a0 := Tryd.isAgg0
  z0 := Tryd.sizeOf0
  v0 := Tryd.zeroValue0
  t3 := Tryd.underlying3
  a3 := Tryd.isAgg3
  z3 := Tryd.sizeOf3
  v3 := Tryd.zeroValue3
  t4 := Tryd.underlying4
  a4 := Tryd.isAgg4
  z4 := Tryd.sizeOf4
  v4 := Tryd.zeroValue4
  t5 := Tryd.underlying5
  a5 := Tryd.isAgg5
  z5 := Tryd.sizeOf5
  v5 := Tryd.zeroValue5
  t9 := Tryd.underlying9
  a9 := Tryd.isAgg9
  z9 := Tryd.sizeOf9
  v9 := Tryd.zeroValue9
  t20 := Tryd.underlying20
  a20 := Tryd.isAgg20
  z20 := Tryd.sizeOf20
  v20 := Tryd.zeroValue20
  t21 := Tryd.underlying21
  a21 := Tryd.isAgg21
  z21 := Tryd.sizeOf21
  v21 := Tryd.zeroValue21
  t37 := Tryd.underlying98
  a37 := Tryd.isAgg98
  z37 := Tryd.sizeOf98
  v37 := Tryd.zeroValue98
  t46 := Tryd.underlying96
  a46 := Tryd.isAgg96
  z46 := Tryd.sizeOf96
  v46 := Tryd.zeroValue96
  t51 := Tryd.underlying163
  a51 := Tryd.isAgg163
  z51 := Tryd.sizeOf163
  v51 := Tryd.zeroValue163
  t70 := Tryd.underlying97
  a70 := Tryd.isAgg97
  z70 := Tryd.sizeOf97
  v70 := Tryd.zeroValue97
  t72 := Tryd.underlying100
  a72 := Tryd.isAgg100
  z72 := Tryd.sizeOf100
  v72 := Tryd.zeroValue100
  t75 := Tryd.underlying102
  a75 := Tryd.isAgg102
  z75 := Tryd.sizeOf102
  v75 := Tryd.zeroValue102
  t164 := Tryd.underlying161
  a164 := Tryd.isAgg161
  z164 := Tryd.sizeOf161
  v164 := Tryd.zeroValue161
}
theorem Tryd.Builder_Extra_168 : Builder.Extra Tryd.prog Tryd.lays168_ren := {
  sizeBuilder := by kernel_rfl
  liesBuilder := by kernel_rfl
  t5 := Tryd.underlying5
  a5 := Tryd.isAgg5
  z5 := Tryd.sizeOf5
  v5 := Tryd.zeroValue5
  infoByte := by kernel_rfl
  cellsByte := by kernel_rfl
  sizeByte := by kernel_rfl
  neB5 := by decide }
open Go.RowKit in
theorem Tryd.Builder_WriteRune_k (B b : Nat) (bs : List Value) (r : Int) (hr0 : -2147483648 ≤ r) (hr1 : r ≤ 2147483647) (w : World) (h : Lib.IsBuilderF 100 5 B b bs w) (hlen : bs.length + 4 ≤ 140737488355328) (hBw : B ≤ w.heap.size) :
    Calls Tryd.prog 68 #[.pointer (some ⟨b, 0, none⟩), .int .i32 r] w fun e w' => e = .returned (.tuple #[.int .i64 (Lib.runeCells r).length, .nilIface]) ∧ (Lib.BuilderAtF 100 5 B b (.pointer (some ⟨b, 0, none⟩)) (bs ++ Lib.runeCells r) w' ∧ Below B w w' ∧ Lib.OthersKept 5 (some b) w w') := Any.Builder_WriteRune_k Tryd.lays168 Tryd.Builder_Extra_168 B b bs r hr0 hr1 w h hlen hBw
end Go.Proofs

/- The walk of text.Clean. -/
namespace Go.Proofs.YtnkeahfcpbepjaaDoor
open Go.ChangeShapes Go.WideShapes Go.ChangeAt Go.RowKit Go.Maps
namespace Txt
def cleanL : List (Int × Nat) → List UInt8
  | [] => []
  | x :: t => (if 0 < wd x.1 then Lib.encodeRune x.1 else []) ++ cleanL t
def cleanB (l : List UInt8) : List UInt8 := cleanL (rn l)
theorem encodeRune_length (r : Int) : 1 ≤ (Lib.encodeRune r).length ∧ (Lib.encodeRune r).length ≤ 4 := by
  rw [← Lib.runeCells_length]; exact Lib.runeCells_le r
theorem encode_eq (r : Int) : Utf8.encode r = bs (Lib.encodeRune r) := by
  by_cases h1 : 0 ≤ r ∧ r ≤ 127
  · have hv : Utf8.valid r = true := by simp [Utf8.valid]; omega
    simp only [Utf8.encode, hv, if_true]
    rw [if_pos (by omega)]
    unfold Lib.encodeRune
    rw [Lib.encodeRuneZ_one h1.1 h1.2]
    rfl
  · by_cases h2 : 128 ≤ r ∧ r ≤ 2047
    · have hv : Utf8.valid r = true := by simp [Utf8.valid]; omega
      simp only [Utf8.encode, hv, if_true]
      rw [if_neg (by omega), if_pos (by omega)]
      unfold Lib.encodeRune
      rw [Lib.encodeRuneZ_two h2.1 h2.2, show 0xC0 + r.toNat / 64 = (192 + r / 64).toNat by omega, show 0x80 + r.toNat % 64 = (128 + r % 64).toNat by omega]
      rfl
    · by_cases h3 : (2048 ≤ r ∧ r < 55296) ∨ (57343 < r ∧ r ≤ 65535)
      · have hv : Utf8.valid r = true := by simp [Utf8.valid]; omega
        simp only [Utf8.encode, hv, if_true]
        rw [if_neg (by omega), if_neg (by omega), if_pos (by omega)]
        unfold Lib.encodeRune
        rw [Lib.encodeRuneZ_three h3, show 0xE0 + r.toNat / 4096 = (224 + r / 4096).toNat by omega, show 0x80 + r.toNat / 64 % 64 = (128 + r / 64 % 64).toNat by omega, show 0x80 + r.toNat % 64 = (128 + r % 64).toNat by omega]
        rfl
      · by_cases h4 : 65536 ≤ r ∧ r ≤ 1114111
        · have hv : Utf8.valid r = true := by simp [Utf8.valid]; omega
          simp only [Utf8.encode, hv, if_true]
          rw [if_neg (by omega), if_neg (by omega), if_neg (by omega)]
          unfold Lib.encodeRune
          rw [Lib.encodeRuneZ_four h4.1 h4.2, show 0xF0 + r.toNat / 262144 = (240 + r / 262144).toNat by omega, show 0x80 + r.toNat / 4096 % 64 = (128 + r / 4096 % 64).toNat by omega, show 0x80 + r.toNat / 64 % 64 = (128 + r / 64 % 64).toNat by omega, show 0x80 + r.toNat % 64 = (128 + r % 64).toNat by omega]
          rfl
        · have hv : Utf8.valid r = false := by simp [Utf8.valid]; omega
          unfold Lib.encodeRune
          rw [Lib.encodeRuneZ_bad (by omega)]
          simp only [Utf8.encode, hv, Utf8.runeError, Bool.false_eq_true, if_false]
          decide
theorem builder_below {T e : TypeId} {B b : Nat} {bs : List Value} {w w' : World} (h : Lib.IsBuilderF T e B b bs w) (hb : Below w.heap.size w w') : Lib.IsBuilderF T e B b bs w' := by
  have key : ∀ p, Lib.BuilderAtF T e B b p bs w → Lib.BuilderAtF T e B b p bs w' := by
    rintro p ⟨hB, v, hh, hown, hne⟩
    refine ⟨hB, v, by rw [hb.block b (Array.getElem?_eq_some_iff.1 hh).1]; exact hh, ⟨hown.1, ?_⟩, hne⟩
    rcases hown.2 with hn | ⟨g, cap, cur, fz, hv, hbg, hg, rest⟩
    · exact .inl hn
    · exact .inr ⟨g, cap, cur, fz, hv, hbg, by rw [hb.block g (Array.getElem?_eq_some_iff.1 hg).1]; exact hg, rest⟩
  exact h.elim (fun x => .inl (key _ x)) (fun x => .inr (key _ x))
set_option maxHeartbeats 4000000 in
set_option maxRecDepth 1000000 in
theorem clean_any (s : ByteArray) (w : World) (hT : Tab w) (hs : s.size ≤ 17592186044416) :
    Calls Tryd.prog 25 #[.string s] w fun e w' => e = .returned (.string (bs (cleanL (runes s)))) ∧ Below w.heap.size w w' := by
  have HP : Hid (2 < w.heap.size) := hT.pos
  have HT : Hid (Tab w) := hT
  clear hT
  go_enter Tryd.func25, Tryd.ntmps25
  go_wp2
  go_loopw [] (fun wr => ∃ (pos f : Nat) (acc : List UInt8), Lib.IsBuilderF 100 5 w.heap.size w.heap.size (Lib.byteCells acc) wr ∧ wr.heap[w.heap.size + 1]? = some (.stringIter s pos) ∧ Below w.heap.size w wr ∧ acc ++ cleanL (rs s f pos) = cleanL (runes s) ∧ s.size ≤ pos + f ∧ acc.length ≤ 4 * pos ∧ pos ≤ s.size) (fun wr => s.size - wr.iterPos (w.heap.size + 1))
  case atStart =>
    refine ⟨0, s.size, [], (Lib.IsBuilderF.of (Lib.fresh_isBuilder 100 5 w)).alloc _, ?_, ((Below.refl _ w).alloc (Nat.le_refl _) _).alloc (by simp) _, by simp [runes], by omega, by simp, by omega⟩
    have := World.iter_heap (w.alloc (.cells #[.pointer none, .slice none 0 0] 100)) s 0
    simpa using this
  case round =>
    obtain ⟨pos, f, acc, hI, hit, hbw, hacc, hf, hal, hps⟩ := hrel
    have HC : Hid (acc ++ cleanL (rs s f pos) = cleanL (runes s)) := hacc
    clear hacc
    have hsz : w.heap.size + 1 < wr.heap.size := (Array.getElem?_eq_some_iff.1 hit).1
    by_cases hp : pos < s.size
    · have hnx : ∀ ty, (Instr.next (.pointer (some ⟨w.heap.size + 1, 0, none⟩)) true ty).run Tryd.prog wr = _ := fun ty => Lib.run_next_any_at wr (w.heap.size + 1) s pos ty hit hp
      have hwd := width_pos s pos hp
      have hfit := decode_fits s pos hp
      have hd1 := decode_le s pos
      obtain ⟨f, rfl⟩ : ∃ g, f = g + 1 := ⟨f - 1, by omega⟩
      have HR : Hid (rs s (f + 1) pos = (((Utf8.decode s pos).1 : Int), (Utf8.decode s pos).2) :: rs s f (pos + (Utf8.decode s pos).2)) := rs_step s f pos hp
      have hw := wd_range (Utf8.decode s pos).1
      have hI2 := hI.iterAt hit (pos + (Utf8.decode s pos).2)
      have hit2 := Lib.iterAt_heap wr (w.heap.size + 1) s pos (pos + (Utf8.decode s pos).2) hit
      have hbw2 := Lib.below_iterAt hbw (k := w.heap.size + 1) (by omega) s (pos + (Utf8.decode s pos).2)
      have hsz2 : w.heap.size + 1 < (wr.iterAt (w.heap.size + 1) s (pos + (Utf8.decode s pos).2)).heap.size := by rw [Lib.iterAt_size]; exact hsz
      have HI : Hid (wr.iterPos (w.heap.size + 1) = pos) := by simp only [Hid, World.iterPos, hit]
      clear hit hI
      generalize Utf8.decode s pos = d at *
      by_cases hpos : 0 < wd d.1
      · go_wp2_with (first
          | (go_at_call 45; refine (width_any _ _ (HT.out.below hbw2 (by have := HP.out; omega))).mono ?_; rintro e W1 ⟨rfl, b1⟩)
          | (go_at_call 68; refine (Tryd.Builder_WriteRune_k w.heap.size w.heap.size _ _ (by omega) (by omega) _ (builder_below hI2 b1) (by rw [Lib.byteCells_length]; omega) (by have := b1.size; omega)).mono ?_; rintro e W2 ⟨rfl, h2, b2, k2⟩))
        have hit3 := k2.iter ((b1.block _ hsz2).trans hit2) (by omega)
        have hl4 := encodeRune_length d.1
        go_roundw
        case rel =>
          refine ⟨pos + d.2, f, acc ++ Lib.encodeRune d.1, ?_, hit3, (hbw2.trans (b1.mono (by omega))).trans b2, ?_, by omega, by simp; omega, by omega⟩
          · rw [Lib.byteCells_append, Lib.byteCells_encodeRune]; exact Or.inr h2
          · rw [← HC.out, HR.out]; simp [cleanL, hpos]
        case measure =>
          rw [HI.out]
          simp only [World.iterPos, hit3]
          omega
      · have hz : ¬ 0 < wd d.1 := hpos
        go_wp2_with (go_at_call 45; refine (width_any _ _ (HT.out.below hbw2 (by have := HP.out; omega))).mono ?_; rintro e W1 ⟨rfl, b1⟩)
        go_roundw
        case rel =>
          refine ⟨pos + d.2, f, acc, builder_below hI2 b1, (b1.block _ hsz2).trans hit2, hbw2.trans (b1.mono (by omega)), ?_, by omega, by omega, by omega⟩
          rw [← HC.out, HR.out]; simp only [cleanL]; rw [if_neg (by omega)]; rfl
        case measure =>
          rw [HI.out]
          simp only [World.iterPos, (b1.block _ hsz2).trans hit2]
          omega
    · have hnx : ∀ ty, (Instr.next (.pointer (some ⟨w.heap.size + 1, 0, none⟩)) true ty).run Tryd.prog wr = _ := fun ty => Lib.run_next_end_at wr (w.heap.size + 1) s pos ty hit hp
      go_wp2_with (go_at_call 69; refine (Tryd.Builder_String_any_k w.heap.size w.heap.size acc _ hI (by omega)).mono ?_; rintro e W1 ⟨rfl, _, b1, _⟩)
      go_ret
      have := HC.out
      rw [rs_end s f pos hp, cleanL, List.append_nil] at this
      subst this
      exact ⟨rfl, hbw.trans b1⟩

end Txt
end Go.Proofs.YtnkeahfcpbepjaaDoor
