/- grid.New and the reference's NewGrid. -/
import Derived.Test.YtinhmklpnkikgabDoorGridRepeat
import Derived.Laws.ResultCell
namespace Go.Proofs.YtinhmklpnkikgabDoor
open Go.ChangeShapes Go.WideShapes Go.ChangeAt Go.RowKit
namespace Grd
def blank : C := (32, 0, 0, 0)
theorem results_row_tmp {P : Program} {fn : Func} {p u : Tmp} {ty : TypeId} (h : fn.results = #[.cell p ty, .tmp u]) (tmps : Array Value) (w : World) (g : Nat) (t : TypeId) (cs : Array Value) (fr : Nat × Nat) (d : TypeDesc)
    (hp : tmps.getD p undef = .pointer (some ⟨g, 0, none⟩)) (hg : w.heap[g]? = some (.cells cs t fr))
    (hu : P.underlying ty = some d) (hd : (match d with | .struct _ | .array _ _ => true | _ => false) = true) (hi : (P.info? ty).map (·.size) = some cs.size) (v : Value) (hv : tmps.getD u undef = v) :
    (results fn tmps).run P w = .ok (.tuple #[.agg cs, v]) w := by
  rw [results_cell_tmp h, hp, hv]
  simp [asAddr, run_loadVar_row w g t ty cs fr d hg hu hd hi, Result.andThen]
theorem one3v (a b : Int) (x : Option Addr) (n c : Nat) : (#[.int .i64 a, .int .i64 b, .slice x n c] : Array Value).all (·.oneCell') = true := by simp [Value.oneCell']
set_option maxHeartbeats 1000000 in
theorem new_bad (a h : Int) (w : World) (hs : isSize a h = false) :
    Calls Tryd.prog 14 #[.int .i64 a, .int .i64 h] w fun e w' => e = .returned (.tuple #[.agg #[.int .i64 0, .int .i64 0, .slice none 0 0], .int .i64 3]) ∧ Below w.heap.size w w' := by
  have H : Hid (isSize a h = false) := hs
  clear hs
  go_enter Tryd.func14, Tryd.ntmps14
  go_wp2_with (go_at_call 17; refine (isSize_to a h _ H.out _).mono ?_; rintro e W1 ⟨rfl, rfl⟩)
  refine bodyPost_ret (v := .tuple #[.agg #[.int .i64 0, .int .i64 0, .slice none 0 0], .int .i64 3]) ?_ rfl ⟨rfl, (Below.refl _ _).alloc (Nat.le_refl _) _⟩
  exact results_row_tmp rfl _ _ w.heap.size _ _ _ _ rfl (heap_alloc_new _ _) Tryd.underlying24 rfl (by kernel_rfl) _ rfl
set_option maxHeartbeats 1000000 in
theorem new_good (a q : Int) (w : World) (hs : isSize a q = true) :
    Calls Tryd.prog 14 #[.int .i64 a, .int .i64 q] w fun e w' => ∃ v, e = .returned (.tuple #[.agg #[.int .i64 a, .int .i64 q, v], .int .i64 0]) ∧ OwnG w' w.heap.size v (List.replicate (a * q).toNat blank) ∧ Below w.heap.size w w' := by
  have H : Hid (isSize a q = true) := hs
  have ⟨p0, p1, p2, p3, p4, p5⟩ := prod_in a q hs
  clear hs
  obtain ⟨N, hN⟩ := Int.eq_ofNat_of_zero_le p0
  have hN1 : 1 ≤ N := by
    have : 1 * 1 ≤ a * q := Int.mul_le_mul p2 p4 (by omega) (by omega)
    omega
  have hN2 : N ≤ 7200 := by omega
  clear p0 p1
  go_enter Tryd.func14, Tryd.ntmps14
  have hk : Below w.heap.size w ((w.alloc (.cells #[.int .i64 0, .int .i64 0, .slice none 0 0] 24)).alloc (.cells #[.int .i32 32, .int .i64 0, .int .i64 0, .int .i64 0] 30)) := ((Below.refl _ _).alloc (Nat.le_refl _) _).alloc (by simp) _
  have hcl : CellsAt ((w.alloc (.cells #[.int .i64 0, .int .i64 0, .slice none 0 0] 24)).alloc (.cells #[.int .i32 32, .int .i64 0, .int .i64 0, .int .i64 0] 30)) (w.heap.size + 1) 0 [blank] := by
    refine cellsAt_flat (rest := []) (t := 30) ?_
    exact heap_alloc2_new w _ _
  have hbk : ((w.alloc (.cells #[.int .i64 0, .int .i64 0, .slice none 0 0] 24)).alloc (.cells #[.int .i32 32, .int .i64 0, .int .i64 0, .int .i64 0] 30)).heap[w.heap.size]? = some (.cells #[.int .i64 0, .int .i64 0, .slice none 0 0] 24 (0, 0)) := (Below.heap_alloc _ _ _ (by simp)).trans (heap_alloc_new _ _)
  have HK := repeat_one (w.heap.size + 1) 0 1 N blank _ hcl hN1 hN2
  generalize hW0 : ((w.alloc (.cells #[.int .i64 0, .int .i64 0, .slice none 0 0] 24)).alloc (.cells #[.int .i32 32, .int .i64 0, .int .i64 0, .int .i64 0] 30)) = W0 at HK hk hbk hcl
  have HK' : Hid (Calls Tryd.prog 30 #[.slice (some ⟨w.heap.size + 1, 0, none⟩) 1 1, .int .i64 (N : Int)] W0 fun e w' => ∃ v', e = .returned v' ∧ OwnG w' W0.heap.size v' (List.replicate N blank) ∧ Below W0.heap.size W0 w') := HK
  have HW0 : Hid (((w.alloc (.cells #[.int .i64 0, .int .i64 0, .slice none 0 0] 24)).alloc (.cells #[.int .i32 32, .int .i64 0, .int .i64 0, .int .i64 0] 30)) = W0) := hW0
  clear HK hcl hW0
  go_wp2_with (first
    | (go_at_call 17; refine (isSize_to a q _ H.out _).mono ?_; rintro e W1 ⟨rfl, rfl⟩)
    | (go_at_call 30; rw [HW0.out]; refine HK'.out.mono ?_; rintro e W2 ⟨v, rfl, ⟨g, cap, rest, t, rfl, hgb, hlc, hcm, hgh⟩, b2⟩; have hr := carry hbk b2)
    | (refine wpList_store_row rfl 24 (.tmp 4) _ rfl w.heap.size #[.int .i64 a, .int .i64 q, .slice (some ⟨g, 0, none⟩) N cap] rfl rfl _ _ hr (by kernel_rfl) rfl (one3v _ _ _ _ _) ?_))
  (try simp only [Exit.inBlock, Exit.then])
  have hl : (List.replicate N blank).length = N := by simp
  rw [hl] at hlc
  refine bodyPost_ret (v := .tuple #[.agg #[.int .i64 a, .int .i64 q, .slice (some ⟨g, 0, none⟩) N cap], .int .i64 0]) ?_ rfl ⟨_, rfl, ⟨g, cap, rest, t, by rw [hN, Int.toNat_natCast, hl], by have := hk.size; omega, by rw [hN, Int.toNat_natCast, hl]; exact hlc, hcm, ?_⟩, below_setRow (hk.trans (b2.mono hk.size)) (Nat.le_refl _) _⟩
  · exact results_row_tmp rfl _ _ w.heap.size _ _ _ _ rfl (setRow_heap _ _ _ _ _ _ hr) Tryd.underlying24 rfl (by kernel_rfl) _ rfl
  · rw [hN, Int.toNat_natCast, setRow_other _ _ _ _ (by have := hk.size; have := blk_lt hbk; omega)]
    exact hgh
end Grd
end Go.Proofs.YtinhmklpnkikgabDoor
