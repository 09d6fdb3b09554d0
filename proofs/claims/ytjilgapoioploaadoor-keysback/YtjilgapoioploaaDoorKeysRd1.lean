/- Package keys: the small readers. (Written by gen_keysrd1.py.) -/
import Derived.Test.YtjilgapoioploaaDoorKeysChk0
import Derived.Test.YtjilgapoioploaaDoorShelf
import Derived.Test.YtjilgapoioploaaDoorTextNextW
import Derived.Test.YtjilgapoioploaaDoorParseFull
import Derived.Laws.ResultCell
import Derived.Laws.CopyOwn
namespace Go.Proofs.YtjilgapoioploaaDoor
open Go.ChangeShapes Go.WideShapes Go.ChangeAt Go.RowKit
namespace Kys
open Txt (wd bs dec)
theorem results_key_tmp {P : Program} {fn : Func} {p u : Tmp} {ty : TypeId} (h : fn.results = #[.cell p ty, .tmp u]) (tmps : Array Value) (w : World) (g : Nat) (t : TypeId) (cs : Array Value) (fr : Nat × Nat) (d : TypeDesc)
    (hp : tmps.getD p undef = .pointer (some ⟨g, 0, none⟩)) (hg : w.heap[g]? = some (.cells cs t fr))
    (hu : P.underlying ty = some d) (hd : (match d with | .struct _ | .array _ _ => true | _ => false) = true) (hi : (P.info? ty).map (·.size) = some cs.size) (v : Value) (hv : tmps.getD u undef = v) :
    (results fn tmps).run P w = .ok (.tuple #[.agg cs, v]) w := by
  rw [results_cell_tmp h, hp, hv]
  simp [asAddr, run_loadVar_row w g t ty cs fr d hg hu hd hi, Result.andThen]
theorem one4 (a b c d : Int) : (#[.int .i64 a, .int .i32 b, .int .i64 c, .int .i64 d] : Array Value).all (·.oneCell') = true := by simp [Value.oneCell']
theorem kb_z (w : World) : Below w.heap.size w (w.alloc (.cells #[.int .i64 0, .int .i32 0, .int .i64 0, .int .i64 0] 23)) := (Below.refl _ _).alloc (Nat.le_refl _) _
theorem hz (w : World) : (w.alloc (.cells #[.int .i64 0, .int .i32 0, .int .i64 0, .int .i64 0] 23)).heap[w.heap.size]? = some (.cells #[.int .i64 0, .int .i32 0, .int .i64 0, .int .i64 0] 23 (0, 0)) := heap_alloc_new _ _
set_option maxHeartbeats 4000000 in
theorem unended_any (last : Bool) (w : World) : Calls Tryd.prog 44 #[.bool last] w fun e w' => e = .returned (.tuple #[kyv (unendedL last).1, .int .i64 ((unendedL last).2 : Nat)]) ∧ Below w.heap.size w w' := by
  cases last
  · go_enter Tryd.func44, Tryd.ntmps44
    go_wp2_with (first | (refine wpList_store_row rfl 23 (.tmp 2) (.tmp 6) rfl w.heap.size #[.int .i64 0, .int .i32 0, .int .i64 0, .int .i64 0] rfl rfl _ _ (hz w) (by kernel_rfl) rfl (one4 _ _ _ _) ?_) | (refine wpList_store_row rfl 23 (.tmp 3) (.tmp 6) rfl w.heap.size #[.int .i64 0, .int .i32 0, .int .i64 0, .int .i64 0] rfl rfl _ _ (hz w) (by kernel_rfl) rfl (one4 _ _ _ _) ?_))
    (try simp only [Exit.inBlock, Exit.then])
    refine bodyPost_ret (v := .tuple #[.agg #[.int .i64 0, .int .i32 0, .int .i64 0, .int .i64 0], .int .i64 0]) ?_ rfl ⟨rfl, below_setRow (kb_z w) (Nat.le_refl _) _⟩
    exact results_key_tmp rfl _ _ w.heap.size _ _ _ _ rfl (setRow_heap _ _ _ _ _ _ (hz w)) Tryd.underlying23 rfl (by kernel_rfl) _ rfl
  · go_enter Tryd.func44, Tryd.ntmps44
    go_wp2_with (first | (refine wpList_store_row rfl 23 (.tmp 2) (.tmp 7) rfl w.heap.size #[.int .i64 5, .int .i32 0, .int .i64 0, .int .i64 0] rfl rfl _ _ (hz w) (by kernel_rfl) rfl (one4 _ _ _ _) ?_) | (refine wpList_store_row rfl 23 (.tmp 3) (.tmp 7) rfl w.heap.size #[.int .i64 5, .int .i32 0, .int .i64 0, .int .i64 0] rfl rfl _ _ (hz w) (by kernel_rfl) rfl (one4 _ _ _ _) ?_))
    (try simp only [Exit.inBlock, Exit.then])
    refine bodyPost_ret (v := .tuple #[.agg #[.int .i64 5, .int .i32 0, .int .i64 0, .int .i64 0], .int .i64 1]) ?_ rfl ⟨rfl, below_setRow (kb_z w) (Nat.le_refl _) _⟩
    exact results_key_tmp rfl _ _ w.heap.size _ _ _ _ rfl (setRow_heap _ _ _ _ _ _ (hz w)) Tryd.underlying23 rfl (by kernel_rfl) _ rfl
theorem ret_val {a b : Value} (h : b = a) : Ending.returned a = Ending.returned b := by rw [h]
set_option maxHeartbeats 4000000 in
theorem control_any (c : UInt8) (w : World) : Calls Tryd.prog 63 #[.int .u8 (c.toNat : Int)] w fun e w' => e = .returned (kyv (ctl c)) ∧ Below w.heap.size w w' := by
  have hlt : c.toNat < 256 := c.toNat_lt
  have hq : ∀ j : UInt8, c = j ↔ c.toNat = j.toNat := fun j => ⟨fun h => by rw [h], fun h => UInt8.toNat_inj.1 h⟩
  have E : ctl c = if c.toNat = 9 then ⟨3, 0, 0, 0⟩ else if c.toNat = 13 then ⟨2, 0, 0, 0⟩ else if c.toNat = 8 ∨ c.toNat = 127 then ⟨4, 0, 0, 0⟩ else if c.toNat = 0 then ⟨1, 32, 0, 0⟩ else if c.toNat ≤ 26 then ⟨1, 96 + (c.toNat : Int), 0, 4⟩ else ⟨1, 63, 0, 0⟩ := by
    unfold ctl
    simp only [hq]
    rfl
  obtain ⟨v, hv⟩ : ∃ v, kyv (ctl c) = v := ⟨_, rfl⟩
  rw [hv]
  have HC : Hid (kyv (ctl c) = v) := hv
  rw [E] at HC
  clear hv E hq
  generalize c.toNat = m at *
  clear c
  by_cases h9 : m = 9
  · subst h9
    go_enter Tryd.func63, Tryd.ntmps63
    go_wp2_with (refine wpList_store_row rfl 23 (.tmp 2) (.tmp 6) rfl w.heap.size #[.int .i64 3, .int .i32 0, .int .i64 0, .int .i64 0] rfl rfl _ _ (hz w) (by kernel_rfl) rfl (one4 _ _ _ _) ?_)
    (try simp only [Exit.inBlock, Exit.then])
    refine bodyPost_ret (v := .agg #[.int .i64 3, .int .i32 0, .int .i64 0, .int .i64 0]) ?_ rfl ⟨ret_val ?_, below_setRow (kb_z w) (Nat.le_refl _) _⟩
    · exact results_cell_row rfl _ _ w.heap.size _ _ _ _ rfl (setRow_heap _ _ _ _ _ _ (hz w)) Tryd.underlying23 rfl (by kernel_rfl)
    · rw [← HC.out]; rfl
  by_cases h13 : m = 13
  · subst h13
    go_enter Tryd.func63, Tryd.ntmps63
    go_wp2_with (refine wpList_store_row rfl 23 (.tmp 2) (.tmp 10) rfl w.heap.size #[.int .i64 2, .int .i32 0, .int .i64 0, .int .i64 0] rfl rfl _ _ (hz w) (by kernel_rfl) rfl (one4 _ _ _ _) ?_)
    (try simp only [Exit.inBlock, Exit.then])
    refine bodyPost_ret (v := .agg #[.int .i64 2, .int .i32 0, .int .i64 0, .int .i64 0]) ?_ rfl ⟨ret_val ?_, below_setRow (kb_z w) (Nat.le_refl _) _⟩
    · exact results_cell_row rfl _ _ w.heap.size _ _ _ _ rfl (setRow_heap _ _ _ _ _ _ (hz w)) Tryd.underlying23 rfl (by kernel_rfl)
    · rw [← HC.out]; rfl
  by_cases h8 : m = 8
  · subst h8
    go_enter Tryd.func63, Tryd.ntmps63
    go_wp2_with (refine wpList_store_row rfl 23 (.tmp 2) (.tmp 18) rfl w.heap.size #[.int .i64 4, .int .i32 0, .int .i64 0, .int .i64 0] rfl rfl _ _ (hz w) (by kernel_rfl) rfl (one4 _ _ _ _) ?_)
    (try simp only [Exit.inBlock, Exit.then])
    refine bodyPost_ret (v := .agg #[.int .i64 4, .int .i32 0, .int .i64 0, .int .i64 0]) ?_ rfl ⟨ret_val ?_, below_setRow (kb_z w) (Nat.le_refl _) _⟩
    · exact results_cell_row rfl _ _ w.heap.size _ _ _ _ rfl (setRow_heap _ _ _ _ _ _ (hz w)) Tryd.underlying23 rfl (by kernel_rfl)
    · rw [← HC.out]; rfl
  by_cases h127 : m = 127
  · subst h127
    go_enter Tryd.func63, Tryd.ntmps63
    go_wp2_with (refine wpList_store_row rfl 23 (.tmp 2) (.tmp 18) rfl w.heap.size #[.int .i64 4, .int .i32 0, .int .i64 0, .int .i64 0] rfl rfl _ _ (hz w) (by kernel_rfl) rfl (one4 _ _ _ _) ?_)
    (try simp only [Exit.inBlock, Exit.then])
    refine bodyPost_ret (v := .agg #[.int .i64 4, .int .i32 0, .int .i64 0, .int .i64 0]) ?_ rfl ⟨ret_val ?_, below_setRow (kb_z w) (Nat.le_refl _) _⟩
    · exact results_cell_row rfl _ _ w.heap.size _ _ _ _ rfl (setRow_heap _ _ _ _ _ _ (hz w)) Tryd.underlying23 rfl (by kernel_rfl)
    · rw [← HC.out]; rfl
  by_cases h0 : m = 0
  · subst h0
    go_enter Tryd.func63, Tryd.ntmps63
    go_wp2_with (refine wpList_store_row rfl 23 (.tmp 2) (.tmp 22) rfl w.heap.size #[.int .i64 1, .int .i32 32, .int .i64 0, .int .i64 0] rfl rfl _ _ (hz w) (by kernel_rfl) rfl (one4 _ _ _ _) ?_)
    (try simp only [Exit.inBlock, Exit.then])
    refine bodyPost_ret (v := .agg #[.int .i64 1, .int .i32 32, .int .i64 0, .int .i64 0]) ?_ rfl ⟨ret_val ?_, below_setRow (kb_z w) (Nat.le_refl _) _⟩
    · exact results_cell_row rfl _ _ w.heap.size _ _ _ _ rfl (setRow_heap _ _ _ _ _ _ (hz w)) Tryd.underlying23 rfl (by kernel_rfl)
    · rw [← HC.out]; rfl
  by_cases h26 : m ≤ 26
  · have x9 : ((m : Int) == 9) = false := by rw [beq_eq_false_iff_ne]; omega
    have x13 : ((m : Int) == 13) = false := by rw [beq_eq_false_iff_ne]; omega
    have x8 : ((m : Int) == 8) = false := by rw [beq_eq_false_iff_ne]; omega
    have x127 : ((m : Int) == 127) = false := by rw [beq_eq_false_iff_ne]; omega
    have x0 : ((m : Int) == 0) = false := by rw [beq_eq_false_iff_ne]; omega
    have g26 : (m : Int) ≤ 26 := by omega
    have hw : wrap32 (96 + (m : Int)) = 96 + (m : Int) := by unfold wrap32; omega
    go_enter Tryd.func63, Tryd.ntmps63
    go_wp2_with (refine wpList_store_row rfl 23 (.tmp 2) (.tmp 29) rfl w.heap.size #[.int .i64 1, .int .i32 (96 + (m : Int)), .int .i64 0, .int .i64 4] rfl rfl _ _ (hz w) (by kernel_rfl) rfl (one4 _ _ _ _) ?_)
    (try simp only [Exit.inBlock, Exit.then])
    refine bodyPost_ret (v := .agg #[.int .i64 1, .int .i32 (96 + (m : Int)), .int .i64 0, .int .i64 4]) ?_ rfl ⟨ret_val ?_, below_setRow (kb_z w) (Nat.le_refl _) _⟩
    · exact results_cell_row rfl _ _ w.heap.size _ _ _ _ rfl (setRow_heap _ _ _ _ _ _ (hz w)) Tryd.underlying23 rfl (by kernel_rfl)
    · rw [← HC.out]; rw [if_neg h9, if_neg h13, if_neg (by omega), if_neg h0, if_pos h26]; rfl
  · have x9 : ((m : Int) == 9) = false := by rw [beq_eq_false_iff_ne]; omega
    have x13 : ((m : Int) == 13) = false := by rw [beq_eq_false_iff_ne]; omega
    have x8 : ((m : Int) == 8) = false := by rw [beq_eq_false_iff_ne]; omega
    have x127 : ((m : Int) == 127) = false := by rw [beq_eq_false_iff_ne]; omega
    have x0 : ((m : Int) == 0) = false := by rw [beq_eq_false_iff_ne]; omega
    have g26 : ¬ (m : Int) ≤ 26 := by omega
    go_enter Tryd.func63, Tryd.ntmps63
    go_wp2_with (refine wpList_store_row rfl 23 (.tmp 2) (.tmp 30) rfl w.heap.size #[.int .i64 1, .int .i32 63, .int .i64 0, .int .i64 0] rfl rfl _ _ (hz w) (by kernel_rfl) rfl (one4 _ _ _ _) ?_)
    (try simp only [Exit.inBlock, Exit.then])
    refine bodyPost_ret (v := .agg #[.int .i64 1, .int .i32 63, .int .i64 0, .int .i64 0]) ?_ rfl ⟨ret_val ?_, below_setRow (kb_z w) (Nat.le_refl _) _⟩
    · exact results_cell_row rfl _ _ w.heap.size _ _ _ _ rfl (setRow_heap _ _ _ _ _ _ (hz w)) Tryd.underlying23 rfl (by kernel_rfl)
    · rw [← HC.out]; rw [if_neg h9, if_neg h13, if_neg (by omega), if_neg h0, if_neg h26]; rfl
end Kys
end Go.Proofs.YtjilgapoioploaaDoor
