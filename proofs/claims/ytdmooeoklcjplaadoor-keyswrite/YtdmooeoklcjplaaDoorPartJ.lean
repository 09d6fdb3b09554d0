/- The reference's IsKey, the rest. (Written by gen_keysrefi.py.) -/
import Derived.Test.YtdmooeoklcjplaaDoorPartH
import Derived.Test.YtdmooeoklcjplaaDoorPartI
import Derived.Test.YtdmooeoklcjplaaDoorPartG
import Derived.Laws.AppendOwn
import Derived.Laws.OwnMore
import Derived.Maps.AppendAt
import Derived.Deep.LoopGhost
namespace Go.Proofs.YtdmooeoklcjplaaDoor
open Go.ChangeShapes Go.WideShapes Go.ChangeAt Go.RowKit Go.Maps
namespace Kys
open Txt (wd bs)
set_option maxHeartbeats 4000000 in
set_option maxRecDepth 100000 in
theorem isKey_1_0a (r : Int) (w : World) (hk : Wf ⟨1, r, 0, 0⟩) (hw : wd r = 0) :
    Calls Tryd.prog 7 #[kyv ⟨1, r, 0, 0⟩] w fun e w' => e = .returned (.bool false) ∧ Below w.heap.size w w' := by
  have HL := fun (W : World) (b : Nat) (h : SeqAt W b seqT) => sq_run h 1 r 0 (wf_bare hk)
  rw [show sq ⟨1, r, 0, 0⟩ = [] from sq_no _ (fun h => by unfold isSq at h; simp only at h; omega), show bs ([] : List UInt8) = ⟨#[]⟩ from rfl] at HL
  clear hk
  have HW := fun W => Txt.widthOf_any r W
  rw [hw] at HW
  unfold kyv
  go_enter Tryd.func7, Tryd.ntmps7
  go_upto_region 5 with fail
  obtain ⟨kb0, z0, z1⟩ := two_blocks w #[.int .i64 1, .int .i32 r, .int .i64 0, .int .i64 0] #[.int .i64 1, .int .i32 r, .int .i64 0, .int .i64 0] 23
  generalize (w.alloc (.cells #[.int .i64 1, .int .i32 r, .int .i64 0, .int .i64 0] 23)).alloc (.cells #[.int .i64 1, .int .i32 r, .int .i64 0, .int .i64 0] 23) = W0 at *
  obtain ⟨⟨c0, c1, c2, c3⟩, _⟩ := four_cells z1
  go_region_with (go_at_call 18; refine (sequences_any _).mono ?_; rintro e W1 ⟨rfl, hS, hB, hlt⟩; have y0 := by_drew z1 hB; obtain ⟨⟨d0, d1, d2, d3⟩, _⟩ := four_cells y0; have hl := HL W1 W0.heap.size hS)
  all_goals have zz := by_drew z0 hB
  all_goals obtain ⟨⟨e0, e1, e2, e3⟩, _⟩ := four_cells zz
  all_goals have kb1 := below_drew kb0 hB
  all_goals clear c0 c1 c2 c3 d0 d1 d2 d3 hS hB hlt HL y0 z0 z1 hl kb0
  all_goals go_wp2_with (first | (go_at_call 19; refine (HW _).mono ?_; rintro e W2 ⟨rfl, b2⟩; replace kb1 := kb1.trans (b2.mono kb1.size); obtain ⟨⟨e0, e1, e2, e3⟩, _⟩ := four_cells (by_block zz b2)) | (go_at_call 20; refine (HV _).mono ?_; rintro e W3 ⟨rfl, hW⟩; subst hW))
  all_goals go_ret
  all_goals exact ⟨rfl, kb1⟩
set_option maxHeartbeats 4000000 in
set_option maxRecDepth 100000 in
theorem isKey_1_0b (r : Int) (w : World) (hk : Wf ⟨1, r, 0, 0⟩) (hw : wd r ≠ 0) :
    Calls Tryd.prog 7 #[kyv ⟨1, r, 0, 0⟩] w fun e w' => e = .returned (.bool true) ∧ Below w.heap.size w w' := by
  have HL := fun (W : World) (b : Nat) (h : SeqAt W b seqT) => sq_run h 1 r 0 (wf_bare hk)
  rw [show sq ⟨1, r, 0, 0⟩ = [] from sq_no _ (fun h => by unfold isSq at h; simp only at h; omega), show bs ([] : List UInt8) = ⟨#[]⟩ from rfl] at HL
  clear hk
  have hv : Lib.validRune r = true := decide_eq_true (wd_bounds r hw).1
  have hp := (Txt.wd_range r).1
  have HW := fun W => Txt.widthOf_any r W
  have HV := fun W => Tryd.utf8_ValidRune r W
  rw [hv] at HV
  have hd : 0 < wd r := by omega
  clear hw hp hv
  generalize wd r = d at *
  unfold kyv
  go_enter Tryd.func7, Tryd.ntmps7
  go_upto_region 5 with fail
  obtain ⟨kb0, z0, z1⟩ := two_blocks w #[.int .i64 1, .int .i32 r, .int .i64 0, .int .i64 0] #[.int .i64 1, .int .i32 r, .int .i64 0, .int .i64 0] 23
  generalize (w.alloc (.cells #[.int .i64 1, .int .i32 r, .int .i64 0, .int .i64 0] 23)).alloc (.cells #[.int .i64 1, .int .i32 r, .int .i64 0, .int .i64 0] 23) = W0 at *
  obtain ⟨⟨c0, c1, c2, c3⟩, _⟩ := four_cells z1
  go_region_with (go_at_call 18; refine (sequences_any _).mono ?_; rintro e W1 ⟨rfl, hS, hB, hlt⟩; have y0 := by_drew z1 hB; obtain ⟨⟨d0, d1, d2, d3⟩, _⟩ := four_cells y0; have hl := HL W1 W0.heap.size hS)
  all_goals have zz := by_drew z0 hB
  all_goals obtain ⟨⟨e0, e1, e2, e3⟩, _⟩ := four_cells zz
  all_goals have kb1 := below_drew kb0 hB
  all_goals clear c0 c1 c2 c3 d0 d1 d2 d3 hS hB hlt HL y0 z0 z1 hl kb0
  all_goals go_wp2_with (first | (go_at_call 19; refine (HW _).mono ?_; rintro e W2 ⟨rfl, b2⟩; replace kb1 := kb1.trans (b2.mono kb1.size); obtain ⟨⟨e0, e1, e2, e3⟩, _⟩ := four_cells (by_block zz b2)) | (go_at_call 20; refine (HV _).mono ?_; rintro e W3 ⟨rfl, hW⟩; subst hW))
  all_goals go_ret
  all_goals exact ⟨rfl, kb1⟩
set_option maxHeartbeats 4000000 in
set_option maxRecDepth 100000 in
theorem isKey_1_2a (r : Int) (w : World) (hk : Wf ⟨1, r, 0, 2⟩) (hw : wd r = 0) :
    Calls Tryd.prog 7 #[kyv ⟨1, r, 0, 2⟩] w fun e w' => e = .returned (.bool false) ∧ Below w.heap.size w w' := by
  have HL := fun (W : World) (b : Nat) (h : SeqAt W b seqT) => sq_run h 1 r 0 (wf_bare hk)
  rw [show sq ⟨1, r, 0, 0⟩ = [] from sq_no _ (fun h => by unfold isSq at h; simp only at h; omega), show bs ([] : List UInt8) = ⟨#[]⟩ from rfl] at HL
  clear hk
  have HW := fun W => Txt.widthOf_any r W
  rw [hw] at HW
  unfold kyv
  go_enter Tryd.func7, Tryd.ntmps7
  go_upto_region 5 with fail
  obtain ⟨kb0, z0, z1⟩ := two_blocks w #[.int .i64 1, .int .i32 r, .int .i64 0, .int .i64 2] #[.int .i64 1, .int .i32 r, .int .i64 0, .int .i64 0] 23
  generalize (w.alloc (.cells #[.int .i64 1, .int .i32 r, .int .i64 0, .int .i64 2] 23)).alloc (.cells #[.int .i64 1, .int .i32 r, .int .i64 0, .int .i64 0] 23) = W0 at *
  obtain ⟨⟨c0, c1, c2, c3⟩, _⟩ := four_cells z1
  go_region_with (go_at_call 18; refine (sequences_any _).mono ?_; rintro e W1 ⟨rfl, hS, hB, hlt⟩; have y0 := by_drew z1 hB; obtain ⟨⟨d0, d1, d2, d3⟩, _⟩ := four_cells y0; have hl := HL W1 W0.heap.size hS)
  all_goals have zz := by_drew z0 hB
  all_goals obtain ⟨⟨e0, e1, e2, e3⟩, _⟩ := four_cells zz
  all_goals have kb1 := below_drew kb0 hB
  all_goals clear c0 c1 c2 c3 d0 d1 d2 d3 hS hB hlt HL y0 z0 z1 hl kb0
  all_goals go_wp2_with (first | (go_at_call 19; refine (HW _).mono ?_; rintro e W2 ⟨rfl, b2⟩; replace kb1 := kb1.trans (b2.mono kb1.size); obtain ⟨⟨e0, e1, e2, e3⟩, _⟩ := four_cells (by_block zz b2)) | (go_at_call 20; refine (HV _).mono ?_; rintro e W3 ⟨rfl, hW⟩; subst hW))
  all_goals go_ret
  all_goals exact ⟨rfl, kb1⟩
set_option maxHeartbeats 4000000 in
set_option maxRecDepth 100000 in
theorem isKey_1_2b (r : Int) (w : World) (hk : Wf ⟨1, r, 0, 2⟩) (hw : wd r ≠ 0) (h1 : r ≠ 91) (h2 : r ≠ 79) :
    Calls Tryd.prog 7 #[kyv ⟨1, r, 0, 2⟩] w fun e w' => e = .returned (.bool true) ∧ Below w.heap.size w w' := by
  have HL := fun (W : World) (b : Nat) (h : SeqAt W b seqT) => sq_run h 1 r 0 (wf_bare hk)
  rw [show sq ⟨1, r, 0, 0⟩ = [] from sq_no _ (fun h => by unfold isSq at h; simp only at h; omega), show bs ([] : List UInt8) = ⟨#[]⟩ from rfl] at HL
  clear hk
  have hv : Lib.validRune r = true := decide_eq_true (wd_bounds r hw).1
  have hp := (Txt.wd_range r).1
  have HW := fun W => Txt.widthOf_any r W
  have HV := fun W => Tryd.utf8_ValidRune r W
  rw [hv] at HV
  have hd : 0 < wd r := by omega
  clear hw hp hv
  generalize wd r = d at *
  have q1 : (r != 91) = true := by simpa using h1
  have q2 : (r != 79) = true := by simpa using h2
  clear h1 h2
  unfold kyv
  go_enter Tryd.func7, Tryd.ntmps7
  go_upto_region 5 with fail
  obtain ⟨kb0, z0, z1⟩ := two_blocks w #[.int .i64 1, .int .i32 r, .int .i64 0, .int .i64 2] #[.int .i64 1, .int .i32 r, .int .i64 0, .int .i64 0] 23
  generalize (w.alloc (.cells #[.int .i64 1, .int .i32 r, .int .i64 0, .int .i64 2] 23)).alloc (.cells #[.int .i64 1, .int .i32 r, .int .i64 0, .int .i64 0] 23) = W0 at *
  obtain ⟨⟨c0, c1, c2, c3⟩, _⟩ := four_cells z1
  go_region_with (go_at_call 18; refine (sequences_any _).mono ?_; rintro e W1 ⟨rfl, hS, hB, hlt⟩; have y0 := by_drew z1 hB; obtain ⟨⟨d0, d1, d2, d3⟩, _⟩ := four_cells y0; have hl := HL W1 W0.heap.size hS)
  all_goals have zz := by_drew z0 hB
  all_goals obtain ⟨⟨e0, e1, e2, e3⟩, _⟩ := four_cells zz
  all_goals have kb1 := below_drew kb0 hB
  all_goals clear c0 c1 c2 c3 d0 d1 d2 d3 hS hB hlt HL y0 z0 z1 hl kb0
  all_goals go_wp2_with (first | (go_at_call 19; refine (HW _).mono ?_; rintro e W2 ⟨rfl, b2⟩; replace kb1 := kb1.trans (b2.mono kb1.size); obtain ⟨⟨e0, e1, e2, e3⟩, _⟩ := four_cells (by_block zz b2)) | (go_at_call 20; refine (HV _).mono ?_; rintro e W3 ⟨rfl, hW⟩; subst hW))
  all_goals go_ret
  all_goals exact ⟨rfl, kb1⟩
set_option maxHeartbeats 4000000 in
set_option maxRecDepth 100000 in
theorem isKey_1_2_91 (w : World) (hk : Wf ⟨1, 91, 0, 2⟩) :
    Calls Tryd.prog 7 #[kyv ⟨1, 91, 0, 2⟩] w fun e w' => e = .returned (.bool false) ∧ Below w.heap.size w w' := by
  have HL := fun (W : World) (b : Nat) (h : SeqAt W b seqT) => sq_run h 1 91 0 (wf_bare hk)
  rw [show sq ⟨1, 91, 0, 0⟩ = [] from sq_no _ (fun h => by unfold isSq at h; simp only at h; omega), show bs ([] : List UInt8) = ⟨#[]⟩ from rfl] at HL
  clear hk
  have HW := fun W => Txt.widthOf_any 91 W
  rw [show wd 91 = 1 by decide +kernel] at HW
  have HV := fun W => Tryd.utf8_ValidRune 91 W
  rw [show Lib.validRune 91 = true by decide] at HV
  unfold kyv
  go_enter Tryd.func7, Tryd.ntmps7
  go_upto_region 5 with fail
  obtain ⟨kb0, z0, z1⟩ := two_blocks w #[.int .i64 1, .int .i32 91, .int .i64 0, .int .i64 2] #[.int .i64 1, .int .i32 91, .int .i64 0, .int .i64 0] 23
  generalize (w.alloc (.cells #[.int .i64 1, .int .i32 91, .int .i64 0, .int .i64 2] 23)).alloc (.cells #[.int .i64 1, .int .i32 91, .int .i64 0, .int .i64 0] 23) = W0 at *
  obtain ⟨⟨c0, c1, c2, c3⟩, _⟩ := four_cells z1
  go_region_with (go_at_call 18; refine (sequences_any _).mono ?_; rintro e W1 ⟨rfl, hS, hB, hlt⟩; have y0 := by_drew z1 hB; obtain ⟨⟨d0, d1, d2, d3⟩, _⟩ := four_cells y0; have hl := HL W1 W0.heap.size hS)
  all_goals have zz := by_drew z0 hB
  all_goals obtain ⟨⟨e0, e1, e2, e3⟩, _⟩ := four_cells zz
  all_goals have kb1 := below_drew kb0 hB
  all_goals clear c0 c1 c2 c3 d0 d1 d2 d3 hS hB hlt HL y0 z0 z1 hl kb0
  all_goals go_wp2_with (first | (go_at_call 19; refine (HW _).mono ?_; rintro e W2 ⟨rfl, b2⟩; replace kb1 := kb1.trans (b2.mono kb1.size); obtain ⟨⟨e0, e1, e2, e3⟩, _⟩ := four_cells (by_block zz b2)) | (go_at_call 20; refine (HV _).mono ?_; rintro e W3 ⟨rfl, hW⟩; subst hW))
  all_goals go_ret
  all_goals exact ⟨rfl, kb1⟩
set_option maxHeartbeats 4000000 in
set_option maxRecDepth 100000 in
theorem isKey_1_2_79 (w : World) (hk : Wf ⟨1, 79, 0, 2⟩) :
    Calls Tryd.prog 7 #[kyv ⟨1, 79, 0, 2⟩] w fun e w' => e = .returned (.bool false) ∧ Below w.heap.size w w' := by
  have HL := fun (W : World) (b : Nat) (h : SeqAt W b seqT) => sq_run h 1 79 0 (wf_bare hk)
  rw [show sq ⟨1, 79, 0, 0⟩ = [] from sq_no _ (fun h => by unfold isSq at h; simp only at h; omega), show bs ([] : List UInt8) = ⟨#[]⟩ from rfl] at HL
  clear hk
  have HW := fun W => Txt.widthOf_any 79 W
  rw [show wd 79 = 1 by decide +kernel] at HW
  have HV := fun W => Tryd.utf8_ValidRune 79 W
  rw [show Lib.validRune 79 = true by decide] at HV
  unfold kyv
  go_enter Tryd.func7, Tryd.ntmps7
  go_upto_region 5 with fail
  obtain ⟨kb0, z0, z1⟩ := two_blocks w #[.int .i64 1, .int .i32 79, .int .i64 0, .int .i64 2] #[.int .i64 1, .int .i32 79, .int .i64 0, .int .i64 0] 23
  generalize (w.alloc (.cells #[.int .i64 1, .int .i32 79, .int .i64 0, .int .i64 2] 23)).alloc (.cells #[.int .i64 1, .int .i32 79, .int .i64 0, .int .i64 0] 23) = W0 at *
  obtain ⟨⟨c0, c1, c2, c3⟩, _⟩ := four_cells z1
  go_region_with (go_at_call 18; refine (sequences_any _).mono ?_; rintro e W1 ⟨rfl, hS, hB, hlt⟩; have y0 := by_drew z1 hB; obtain ⟨⟨d0, d1, d2, d3⟩, _⟩ := four_cells y0; have hl := HL W1 W0.heap.size hS)
  all_goals have zz := by_drew z0 hB
  all_goals obtain ⟨⟨e0, e1, e2, e3⟩, _⟩ := four_cells zz
  all_goals have kb1 := below_drew kb0 hB
  all_goals clear c0 c1 c2 c3 d0 d1 d2 d3 hS hB hlt HL y0 z0 z1 hl kb0
  all_goals go_wp2_with (first | (go_at_call 19; refine (HW _).mono ?_; rintro e W2 ⟨rfl, b2⟩; replace kb1 := kb1.trans (b2.mono kb1.size); obtain ⟨⟨e0, e1, e2, e3⟩, _⟩ := four_cells (by_block zz b2)) | (go_at_call 20; refine (HV _).mono ?_; rintro e W3 ⟨rfl, hW⟩; subst hW))
  all_goals go_ret
  all_goals exact ⟨rfl, kb1⟩
set_option maxHeartbeats 4000000 in
set_option maxRecDepth 100000 in
theorem isKey_1_4_a (r : Int) (w : World) (hk : Wf ⟨1, r, 0, 4⟩) (h : r < 97) :
    Calls Tryd.prog 7 #[kyv ⟨1, r, 0, 4⟩] w fun e w' => e = .returned (.bool false) ∧ Below w.heap.size w w' := by
  have HL := fun (W : World) (b : Nat) (h : SeqAt W b seqT) => sq_run h 1 r 0 (wf_bare hk)
  rw [show sq ⟨1, r, 0, 0⟩ = [] from sq_no _ (fun h => by unfold isSq at h; simp only at h; omega), show bs ([] : List UInt8) = ⟨#[]⟩ from rfl] at HL
  clear hk
  unfold kyv
  go_enter Tryd.func7, Tryd.ntmps7
  go_upto_region 5 with fail
  obtain ⟨kb0, z0, z1⟩ := two_blocks w #[.int .i64 1, .int .i32 r, .int .i64 0, .int .i64 4] #[.int .i64 1, .int .i32 r, .int .i64 0, .int .i64 0] 23
  generalize (w.alloc (.cells #[.int .i64 1, .int .i32 r, .int .i64 0, .int .i64 4] 23)).alloc (.cells #[.int .i64 1, .int .i32 r, .int .i64 0, .int .i64 0] 23) = W0 at *
  obtain ⟨⟨c0, c1, c2, c3⟩, _⟩ := four_cells z1
  go_region_with (go_at_call 18; refine (sequences_any _).mono ?_; rintro e W1 ⟨rfl, hS, hB, hlt⟩; have y0 := by_drew z1 hB; obtain ⟨⟨d0, d1, d2, d3⟩, _⟩ := four_cells y0; have hl := HL W1 W0.heap.size hS)
  all_goals have zz := by_drew z0 hB
  all_goals obtain ⟨⟨e0, e1, e2, e3⟩, _⟩ := four_cells zz
  all_goals have kb1 := below_drew kb0 hB
  all_goals clear c0 c1 c2 c3 d0 d1 d2 d3 hS hB hlt HL y0 z0 z1 hl kb0
  all_goals go_wp2_with fail
  all_goals go_ret
  all_goals exact ⟨rfl, kb1⟩
set_option maxHeartbeats 4000000 in
set_option maxRecDepth 100000 in
theorem isKey_1_4_b (r : Int) (w : World) (hk : Wf ⟨1, r, 0, 4⟩) (h : 122 < r) :
    Calls Tryd.prog 7 #[kyv ⟨1, r, 0, 4⟩] w fun e w' => e = .returned (.bool false) ∧ Below w.heap.size w w' := by
  have HL := fun (W : World) (b : Nat) (h : SeqAt W b seqT) => sq_run h 1 r 0 (wf_bare hk)
  rw [show sq ⟨1, r, 0, 0⟩ = [] from sq_no _ (fun h => by unfold isSq at h; simp only at h; omega), show bs ([] : List UInt8) = ⟨#[]⟩ from rfl] at HL
  clear hk
  have h97 : ¬ r < 97 := by omega
  unfold kyv
  go_enter Tryd.func7, Tryd.ntmps7
  go_upto_region 5 with fail
  obtain ⟨kb0, z0, z1⟩ := two_blocks w #[.int .i64 1, .int .i32 r, .int .i64 0, .int .i64 4] #[.int .i64 1, .int .i32 r, .int .i64 0, .int .i64 0] 23
  generalize (w.alloc (.cells #[.int .i64 1, .int .i32 r, .int .i64 0, .int .i64 4] 23)).alloc (.cells #[.int .i64 1, .int .i32 r, .int .i64 0, .int .i64 0] 23) = W0 at *
  obtain ⟨⟨c0, c1, c2, c3⟩, _⟩ := four_cells z1
  go_region_with (go_at_call 18; refine (sequences_any _).mono ?_; rintro e W1 ⟨rfl, hS, hB, hlt⟩; have y0 := by_drew z1 hB; obtain ⟨⟨d0, d1, d2, d3⟩, _⟩ := four_cells y0; have hl := HL W1 W0.heap.size hS)
  all_goals have zz := by_drew z0 hB
  all_goals obtain ⟨⟨e0, e1, e2, e3⟩, _⟩ := four_cells zz
  all_goals have kb1 := below_drew kb0 hB
  all_goals clear c0 c1 c2 c3 d0 d1 d2 d3 hS hB hlt HL y0 z0 z1 hl kb0
  all_goals go_wp2_with fail
  all_goals go_ret
  all_goals exact ⟨rfl, kb1⟩
set_option maxHeartbeats 4000000 in
set_option maxRecDepth 100000 in
theorem isKey_1_4_c (r : Int) (w : World) (hk : Wf ⟨1, r, 0, 4⟩) (h1 : 97 ≤ r) (h2 : r ≤ 122) :
    Calls Tryd.prog 7 #[kyv ⟨1, r, 0, 4⟩] w fun e w' => e = .returned (.bool (!decide (r = 104 ∨ r = 105 ∨ r = 109))) ∧ Below w.heap.size w w' := by
  have HL := fun (W : World) (b : Nat) (h : SeqAt W b seqT) => sq_run h 1 r 0 (wf_bare hk)
  rw [show sq ⟨1, r, 0, 0⟩ = [] from sq_no _ (fun h => by unfold isSq at h; simp only at h; omega), show bs ([] : List UInt8) = ⟨#[]⟩ from rfl] at HL
  clear hk
  have h97 : ¬ r < 97 := by omega
  have h122 : ¬ 122 < r := by omega
  have HC := fun W => Tryd.strings_ContainsRune_ascii ⟨#[104, 105, 109]⟩ r W (by omega) (by omega)
  rw [show (⟨#[104, 105, 109]⟩ : ByteArray).data.toList = [104, 105, 109] from rfl, him r h1 h2] at HC
  generalize decide (r = 104 ∨ r = 105 ∨ r = 109) = x at *
  clear h1 h2
  unfold kyv
  go_enter Tryd.func7, Tryd.ntmps7
  go_upto_region 5 with fail
  obtain ⟨kb0, z0, z1⟩ := two_blocks w #[.int .i64 1, .int .i32 r, .int .i64 0, .int .i64 4] #[.int .i64 1, .int .i32 r, .int .i64 0, .int .i64 0] 23
  generalize (w.alloc (.cells #[.int .i64 1, .int .i32 r, .int .i64 0, .int .i64 4] 23)).alloc (.cells #[.int .i64 1, .int .i32 r, .int .i64 0, .int .i64 0] 23) = W0 at *
  obtain ⟨⟨c0, c1, c2, c3⟩, _⟩ := four_cells z1
  go_region_with (go_at_call 18; refine (sequences_any _).mono ?_; rintro e W1 ⟨rfl, hS, hB, hlt⟩; have y0 := by_drew z1 hB; obtain ⟨⟨d0, d1, d2, d3⟩, _⟩ := four_cells y0; have hl := HL W1 W0.heap.size hS)
  all_goals have zz := by_drew z0 hB
  all_goals obtain ⟨⟨e0, e1, e2, e3⟩, _⟩ := four_cells zz
  all_goals have kb1 := below_drew kb0 hB
  all_goals clear c0 c1 c2 c3 d0 d1 d2 d3 hS hB hlt HL y0 z0 z1 hl kb0
  all_goals go_wp2_with (go_at_call 21; refine (HC _).mono ?_; rintro e W3 ⟨rfl, hW⟩; subst hW)
  all_goals go_ret
  all_goals exact ⟨rfl, kb1⟩
set_option maxHeartbeats 4000000 in
set_option maxRecDepth 100000 in
theorem isKey_1_6_a (r : Int) (w : World) (hk : Wf ⟨1, r, 0, 6⟩) (h : r < 97) :
    Calls Tryd.prog 7 #[kyv ⟨1, r, 0, 6⟩] w fun e w' => e = .returned (.bool false) ∧ Below w.heap.size w w' := by
  have HL := fun (W : World) (b : Nat) (h : SeqAt W b seqT) => sq_run h 1 r 0 (wf_bare hk)
  rw [show sq ⟨1, r, 0, 0⟩ = [] from sq_no _ (fun h => by unfold isSq at h; simp only at h; omega), show bs ([] : List UInt8) = ⟨#[]⟩ from rfl] at HL
  clear hk
  unfold kyv
  go_enter Tryd.func7, Tryd.ntmps7
  go_upto_region 5 with fail
  obtain ⟨kb0, z0, z1⟩ := two_blocks w #[.int .i64 1, .int .i32 r, .int .i64 0, .int .i64 6] #[.int .i64 1, .int .i32 r, .int .i64 0, .int .i64 0] 23
  generalize (w.alloc (.cells #[.int .i64 1, .int .i32 r, .int .i64 0, .int .i64 6] 23)).alloc (.cells #[.int .i64 1, .int .i32 r, .int .i64 0, .int .i64 0] 23) = W0 at *
  obtain ⟨⟨c0, c1, c2, c3⟩, _⟩ := four_cells z1
  go_region_with (go_at_call 18; refine (sequences_any _).mono ?_; rintro e W1 ⟨rfl, hS, hB, hlt⟩; have y0 := by_drew z1 hB; obtain ⟨⟨d0, d1, d2, d3⟩, _⟩ := four_cells y0; have hl := HL W1 W0.heap.size hS)
  all_goals have zz := by_drew z0 hB
  all_goals obtain ⟨⟨e0, e1, e2, e3⟩, _⟩ := four_cells zz
  all_goals have kb1 := below_drew kb0 hB
  all_goals clear c0 c1 c2 c3 d0 d1 d2 d3 hS hB hlt HL y0 z0 z1 hl kb0
  all_goals go_wp2_with fail
  all_goals go_ret
  all_goals exact ⟨rfl, kb1⟩
set_option maxHeartbeats 4000000 in
set_option maxRecDepth 100000 in
theorem isKey_1_6_b (r : Int) (w : World) (hk : Wf ⟨1, r, 0, 6⟩) (h : 122 < r) :
    Calls Tryd.prog 7 #[kyv ⟨1, r, 0, 6⟩] w fun e w' => e = .returned (.bool false) ∧ Below w.heap.size w w' := by
  have HL := fun (W : World) (b : Nat) (h : SeqAt W b seqT) => sq_run h 1 r 0 (wf_bare hk)
  rw [show sq ⟨1, r, 0, 0⟩ = [] from sq_no _ (fun h => by unfold isSq at h; simp only at h; omega), show bs ([] : List UInt8) = ⟨#[]⟩ from rfl] at HL
  clear hk
  have h97 : ¬ r < 97 := by omega
  unfold kyv
  go_enter Tryd.func7, Tryd.ntmps7
  go_upto_region 5 with fail
  obtain ⟨kb0, z0, z1⟩ := two_blocks w #[.int .i64 1, .int .i32 r, .int .i64 0, .int .i64 6] #[.int .i64 1, .int .i32 r, .int .i64 0, .int .i64 0] 23
  generalize (w.alloc (.cells #[.int .i64 1, .int .i32 r, .int .i64 0, .int .i64 6] 23)).alloc (.cells #[.int .i64 1, .int .i32 r, .int .i64 0, .int .i64 0] 23) = W0 at *
  obtain ⟨⟨c0, c1, c2, c3⟩, _⟩ := four_cells z1
  go_region_with (go_at_call 18; refine (sequences_any _).mono ?_; rintro e W1 ⟨rfl, hS, hB, hlt⟩; have y0 := by_drew z1 hB; obtain ⟨⟨d0, d1, d2, d3⟩, _⟩ := four_cells y0; have hl := HL W1 W0.heap.size hS)
  all_goals have zz := by_drew z0 hB
  all_goals obtain ⟨⟨e0, e1, e2, e3⟩, _⟩ := four_cells zz
  all_goals have kb1 := below_drew kb0 hB
  all_goals clear c0 c1 c2 c3 d0 d1 d2 d3 hS hB hlt HL y0 z0 z1 hl kb0
  all_goals go_wp2_with fail
  all_goals go_ret
  all_goals exact ⟨rfl, kb1⟩
set_option maxHeartbeats 4000000 in
set_option maxRecDepth 100000 in
theorem isKey_1_6_c (r : Int) (w : World) (hk : Wf ⟨1, r, 0, 6⟩) (h1 : 97 ≤ r) (h2 : r ≤ 122) :
    Calls Tryd.prog 7 #[kyv ⟨1, r, 0, 6⟩] w fun e w' => e = .returned (.bool (!decide (r = 104 ∨ r = 105 ∨ r = 109))) ∧ Below w.heap.size w w' := by
  have HL := fun (W : World) (b : Nat) (h : SeqAt W b seqT) => sq_run h 1 r 0 (wf_bare hk)
  rw [show sq ⟨1, r, 0, 0⟩ = [] from sq_no _ (fun h => by unfold isSq at h; simp only at h; omega), show bs ([] : List UInt8) = ⟨#[]⟩ from rfl] at HL
  clear hk
  have h97 : ¬ r < 97 := by omega
  have h122 : ¬ 122 < r := by omega
  have HC := fun W => Tryd.strings_ContainsRune_ascii ⟨#[104, 105, 109]⟩ r W (by omega) (by omega)
  rw [show (⟨#[104, 105, 109]⟩ : ByteArray).data.toList = [104, 105, 109] from rfl, him r h1 h2] at HC
  generalize decide (r = 104 ∨ r = 105 ∨ r = 109) = x at *
  clear h1 h2
  unfold kyv
  go_enter Tryd.func7, Tryd.ntmps7
  go_upto_region 5 with fail
  obtain ⟨kb0, z0, z1⟩ := two_blocks w #[.int .i64 1, .int .i32 r, .int .i64 0, .int .i64 6] #[.int .i64 1, .int .i32 r, .int .i64 0, .int .i64 0] 23
  generalize (w.alloc (.cells #[.int .i64 1, .int .i32 r, .int .i64 0, .int .i64 6] 23)).alloc (.cells #[.int .i64 1, .int .i32 r, .int .i64 0, .int .i64 0] 23) = W0 at *
  obtain ⟨⟨c0, c1, c2, c3⟩, _⟩ := four_cells z1
  go_region_with (go_at_call 18; refine (sequences_any _).mono ?_; rintro e W1 ⟨rfl, hS, hB, hlt⟩; have y0 := by_drew z1 hB; obtain ⟨⟨d0, d1, d2, d3⟩, _⟩ := four_cells y0; have hl := HL W1 W0.heap.size hS)
  all_goals have zz := by_drew z0 hB
  all_goals obtain ⟨⟨e0, e1, e2, e3⟩, _⟩ := four_cells zz
  all_goals have kb1 := below_drew kb0 hB
  all_goals clear c0 c1 c2 c3 d0 d1 d2 d3 hS hB hlt HL y0 z0 z1 hl kb0
  all_goals go_wp2_with (go_at_call 21; refine (HC _).mono ?_; rintro e W3 ⟨rfl, hW⟩; subst hW)
  all_goals go_ret
  all_goals exact ⟨rfl, kb1⟩
set_option maxHeartbeats 4000000 in
set_option maxRecDepth 100000 in
theorem isKey_1_1 (r : Int) (w : World) (hk : Wf ⟨1, r, 0, 1⟩) :
    Calls Tryd.prog 7 #[kyv ⟨1, r, 0, 1⟩] w fun e w' => e = .returned (.bool false) ∧ Below w.heap.size w w' := by
  have HL := fun (W : World) (b : Nat) (h : SeqAt W b seqT) => sq_run h 1 r 0 (wf_bare hk)
  rw [show sq ⟨1, r, 0, 0⟩ = [] from sq_no _ (fun h => by unfold isSq at h; simp only at h; omega), show bs ([] : List UInt8) = ⟨#[]⟩ from rfl] at HL
  clear hk
  unfold kyv
  go_enter Tryd.func7, Tryd.ntmps7
  go_upto_region 5 with fail
  obtain ⟨kb0, z0, z1⟩ := two_blocks w #[.int .i64 1, .int .i32 r, .int .i64 0, .int .i64 1] #[.int .i64 1, .int .i32 r, .int .i64 0, .int .i64 0] 23
  generalize (w.alloc (.cells #[.int .i64 1, .int .i32 r, .int .i64 0, .int .i64 1] 23)).alloc (.cells #[.int .i64 1, .int .i32 r, .int .i64 0, .int .i64 0] 23) = W0 at *
  obtain ⟨⟨c0, c1, c2, c3⟩, _⟩ := four_cells z1
  go_region_with (go_at_call 18; refine (sequences_any _).mono ?_; rintro e W1 ⟨rfl, hS, hB, hlt⟩; have y0 := by_drew z1 hB; obtain ⟨⟨d0, d1, d2, d3⟩, _⟩ := four_cells y0; have hl := HL W1 W0.heap.size hS)
  all_goals have zz := by_drew z0 hB
  all_goals obtain ⟨⟨e0, e1, e2, e3⟩, _⟩ := four_cells zz
  all_goals have kb1 := below_drew kb0 hB
  all_goals clear c0 c1 c2 c3 d0 d1 d2 d3 hS hB hlt HL y0 z0 z1 hl kb0
  all_goals go_wp2_with fail
  all_goals go_ret
  all_goals exact ⟨rfl, kb1⟩
set_option maxHeartbeats 4000000 in
set_option maxRecDepth 100000 in
theorem isKey_1_3 (r : Int) (w : World) (hk : Wf ⟨1, r, 0, 3⟩) :
    Calls Tryd.prog 7 #[kyv ⟨1, r, 0, 3⟩] w fun e w' => e = .returned (.bool false) ∧ Below w.heap.size w w' := by
  have HL := fun (W : World) (b : Nat) (h : SeqAt W b seqT) => sq_run h 1 r 0 (wf_bare hk)
  rw [show sq ⟨1, r, 0, 0⟩ = [] from sq_no _ (fun h => by unfold isSq at h; simp only at h; omega), show bs ([] : List UInt8) = ⟨#[]⟩ from rfl] at HL
  clear hk
  unfold kyv
  go_enter Tryd.func7, Tryd.ntmps7
  go_upto_region 5 with fail
  obtain ⟨kb0, z0, z1⟩ := two_blocks w #[.int .i64 1, .int .i32 r, .int .i64 0, .int .i64 3] #[.int .i64 1, .int .i32 r, .int .i64 0, .int .i64 0] 23
  generalize (w.alloc (.cells #[.int .i64 1, .int .i32 r, .int .i64 0, .int .i64 3] 23)).alloc (.cells #[.int .i64 1, .int .i32 r, .int .i64 0, .int .i64 0] 23) = W0 at *
  obtain ⟨⟨c0, c1, c2, c3⟩, _⟩ := four_cells z1
  go_region_with (go_at_call 18; refine (sequences_any _).mono ?_; rintro e W1 ⟨rfl, hS, hB, hlt⟩; have y0 := by_drew z1 hB; obtain ⟨⟨d0, d1, d2, d3⟩, _⟩ := four_cells y0; have hl := HL W1 W0.heap.size hS)
  all_goals have zz := by_drew z0 hB
  all_goals obtain ⟨⟨e0, e1, e2, e3⟩, _⟩ := four_cells zz
  all_goals have kb1 := below_drew kb0 hB
  all_goals clear c0 c1 c2 c3 d0 d1 d2 d3 hS hB hlt HL y0 z0 z1 hl kb0
  all_goals go_wp2_with fail
  all_goals go_ret
  all_goals exact ⟨rfl, kb1⟩
set_option maxHeartbeats 4000000 in
set_option maxRecDepth 100000 in
theorem isKey_1_5 (r : Int) (w : World) (hk : Wf ⟨1, r, 0, 5⟩) :
    Calls Tryd.prog 7 #[kyv ⟨1, r, 0, 5⟩] w fun e w' => e = .returned (.bool false) ∧ Below w.heap.size w w' := by
  have HL := fun (W : World) (b : Nat) (h : SeqAt W b seqT) => sq_run h 1 r 0 (wf_bare hk)
  rw [show sq ⟨1, r, 0, 0⟩ = [] from sq_no _ (fun h => by unfold isSq at h; simp only at h; omega), show bs ([] : List UInt8) = ⟨#[]⟩ from rfl] at HL
  clear hk
  unfold kyv
  go_enter Tryd.func7, Tryd.ntmps7
  go_upto_region 5 with fail
  obtain ⟨kb0, z0, z1⟩ := two_blocks w #[.int .i64 1, .int .i32 r, .int .i64 0, .int .i64 5] #[.int .i64 1, .int .i32 r, .int .i64 0, .int .i64 0] 23
  generalize (w.alloc (.cells #[.int .i64 1, .int .i32 r, .int .i64 0, .int .i64 5] 23)).alloc (.cells #[.int .i64 1, .int .i32 r, .int .i64 0, .int .i64 0] 23) = W0 at *
  obtain ⟨⟨c0, c1, c2, c3⟩, _⟩ := four_cells z1
  go_region_with (go_at_call 18; refine (sequences_any _).mono ?_; rintro e W1 ⟨rfl, hS, hB, hlt⟩; have y0 := by_drew z1 hB; obtain ⟨⟨d0, d1, d2, d3⟩, _⟩ := four_cells y0; have hl := HL W1 W0.heap.size hS)
  all_goals have zz := by_drew z0 hB
  all_goals obtain ⟨⟨e0, e1, e2, e3⟩, _⟩ := four_cells zz
  all_goals have kb1 := below_drew kb0 hB
  all_goals clear c0 c1 c2 c3 d0 d1 d2 d3 hS hB hlt HL y0 z0 z1 hl kb0
  all_goals go_wp2_with fail
  all_goals go_ret
  all_goals exact ⟨rfl, kb1⟩
set_option maxHeartbeats 4000000 in
set_option maxRecDepth 100000 in
theorem isKey_1_7 (r : Int) (w : World) (hk : Wf ⟨1, r, 0, 7⟩) :
    Calls Tryd.prog 7 #[kyv ⟨1, r, 0, 7⟩] w fun e w' => e = .returned (.bool false) ∧ Below w.heap.size w w' := by
  have HL := fun (W : World) (b : Nat) (h : SeqAt W b seqT) => sq_run h 1 r 0 (wf_bare hk)
  rw [show sq ⟨1, r, 0, 0⟩ = [] from sq_no _ (fun h => by unfold isSq at h; simp only at h; omega), show bs ([] : List UInt8) = ⟨#[]⟩ from rfl] at HL
  clear hk
  unfold kyv
  go_enter Tryd.func7, Tryd.ntmps7
  go_upto_region 5 with fail
  obtain ⟨kb0, z0, z1⟩ := two_blocks w #[.int .i64 1, .int .i32 r, .int .i64 0, .int .i64 7] #[.int .i64 1, .int .i32 r, .int .i64 0, .int .i64 0] 23
  generalize (w.alloc (.cells #[.int .i64 1, .int .i32 r, .int .i64 0, .int .i64 7] 23)).alloc (.cells #[.int .i64 1, .int .i32 r, .int .i64 0, .int .i64 0] 23) = W0 at *
  obtain ⟨⟨c0, c1, c2, c3⟩, _⟩ := four_cells z1
  go_region_with (go_at_call 18; refine (sequences_any _).mono ?_; rintro e W1 ⟨rfl, hS, hB, hlt⟩; have y0 := by_drew z1 hB; obtain ⟨⟨d0, d1, d2, d3⟩, _⟩ := four_cells y0; have hl := HL W1 W0.heap.size hS)
  all_goals have zz := by_drew z0 hB
  all_goals obtain ⟨⟨e0, e1, e2, e3⟩, _⟩ := four_cells zz
  all_goals have kb1 := below_drew kb0 hB
  all_goals clear c0 c1 c2 c3 d0 d1 d2 d3 hS hB hlt HL y0 z0 z1 hl kb0
  all_goals go_wp2_with fail
  all_goals go_ret
  all_goals exact ⟨rfl, kb1⟩
end Kys
end Go.Proofs.YtdmooeoklcjplaaDoor

/- The reference's IsKey, the rest. (Written by gen_keysrefi.py.) -/
namespace Go.Proofs.YtdmooeoklcjplaaDoor
open Go.ChangeShapes Go.WideShapes Go.ChangeAt Go.RowKit Go.Maps
namespace Kys
open Txt (wd bs)
set_option maxHeartbeats 4000000 in
set_option maxRecDepth 100000 in
theorem isKey_2 (held : Int) (w : World) (hk : Wf ⟨2, 0, 0, held⟩) (h0 : 0 ≤ held) (h7 : held ≤ 7) :
    Calls Tryd.prog 7 #[kyv ⟨2, 0, 0, held⟩] w fun e w' => e = .returned (.bool (decide (held = 0 ∨ held = 2))) ∧ Below w.heap.size w w' := by
  have HL := fun (W : World) (b : Nat) (h : SeqAt W b seqT) => sq_run h 2 0 0 (wf_bare hk)
  rw [show sq ⟨2, 0, 0, 0⟩ = [] from sq_no _ (fun h => by unfold isSq at h; simp only at h; omega), show bs ([] : List UInt8) = ⟨#[]⟩ from rfl] at HL
  clear hk
  have hd0 : ¬ held < 0 := by omega
  have hd7 : ¬ 7 < held := by omega
  unfold kyv
  go_enter Tryd.func7, Tryd.ntmps7
  go_upto_region 5 with fail
  obtain ⟨kb0, z0, z1⟩ := two_blocks w #[.int .i64 2, .int .i32 0, .int .i64 0, .int .i64 held] #[.int .i64 2, .int .i32 0, .int .i64 0, .int .i64 0] 23
  generalize (w.alloc (.cells #[.int .i64 2, .int .i32 0, .int .i64 0, .int .i64 held] 23)).alloc (.cells #[.int .i64 2, .int .i32 0, .int .i64 0, .int .i64 0] 23) = W0 at *
  obtain ⟨⟨c0, c1, c2, c3⟩, _⟩ := four_cells z1
  go_region_with (go_at_call 18; refine (sequences_any _).mono ?_; rintro e W1 ⟨rfl, hS, hB, hlt⟩; have y0 := by_drew z1 hB; obtain ⟨⟨d0, d1, d2, d3⟩, _⟩ := four_cells y0; have hl := HL W1 W0.heap.size hS)
  all_goals have zz := by_drew z0 hB
  all_goals obtain ⟨⟨e0, e1, e2, e3⟩, _⟩ := four_cells zz
  all_goals have kb1 := below_drew kb0 hB
  all_goals clear c0 c1 c2 c3 d0 d1 d2 d3 hS hB hlt HL y0 z0 z1 hl kb0
  all_goals go_wp2_with fail
  all_goals go_ret
  all_goals refine ⟨ret_bool ?_, kb1⟩
  all_goals clear e0 e1 e2 e3 zz kb1
  all_goals (by_cases q0 : held = 0 <;> by_cases q2 : held = 2 <;> by_cases q1 : held = 1 <;> simp_all)
set_option maxHeartbeats 4000000 in
set_option maxRecDepth 100000 in
theorem isKey_3 (held : Int) (w : World) (hk : Wf ⟨3, 0, 0, held⟩) (h0 : 0 ≤ held) (h7 : held ≤ 7) :
    Calls Tryd.prog 7 #[kyv ⟨3, 0, 0, held⟩] w fun e w' => e = .returned (.bool (decide (held = 0 ∨ held = 1))) ∧ Below w.heap.size w w' := by
  have HL := fun (W : World) (b : Nat) (h : SeqAt W b seqT) => sq_run h 3 0 0 (wf_bare hk)
  rw [show sq ⟨3, 0, 0, 0⟩ = [] from sq_no _ (fun h => by unfold isSq at h; simp only at h; omega), show bs ([] : List UInt8) = ⟨#[]⟩ from rfl] at HL
  clear hk
  have hd0 : ¬ held < 0 := by omega
  have hd7 : ¬ 7 < held := by omega
  unfold kyv
  go_enter Tryd.func7, Tryd.ntmps7
  go_upto_region 5 with fail
  obtain ⟨kb0, z0, z1⟩ := two_blocks w #[.int .i64 3, .int .i32 0, .int .i64 0, .int .i64 held] #[.int .i64 3, .int .i32 0, .int .i64 0, .int .i64 0] 23
  generalize (w.alloc (.cells #[.int .i64 3, .int .i32 0, .int .i64 0, .int .i64 held] 23)).alloc (.cells #[.int .i64 3, .int .i32 0, .int .i64 0, .int .i64 0] 23) = W0 at *
  obtain ⟨⟨c0, c1, c2, c3⟩, _⟩ := four_cells z1
  go_region_with (go_at_call 18; refine (sequences_any _).mono ?_; rintro e W1 ⟨rfl, hS, hB, hlt⟩; have y0 := by_drew z1 hB; obtain ⟨⟨d0, d1, d2, d3⟩, _⟩ := four_cells y0; have hl := HL W1 W0.heap.size hS)
  all_goals have zz := by_drew z0 hB
  all_goals obtain ⟨⟨e0, e1, e2, e3⟩, _⟩ := four_cells zz
  all_goals have kb1 := below_drew kb0 hB
  all_goals clear c0 c1 c2 c3 d0 d1 d2 d3 hS hB hlt HL y0 z0 z1 hl kb0
  all_goals go_wp2_with fail
  all_goals go_ret
  all_goals refine ⟨ret_bool ?_, kb1⟩
  all_goals clear e0 e1 e2 e3 zz kb1
  all_goals (by_cases q0 : held = 0 <;> by_cases q2 : held = 2 <;> by_cases q1 : held = 1 <;> simp_all)
set_option maxHeartbeats 4000000 in
set_option maxRecDepth 100000 in
theorem isKey_4 (held : Int) (w : World) (hk : Wf ⟨4, 0, 0, held⟩) (h0 : 0 ≤ held) (h7 : held ≤ 7) :
    Calls Tryd.prog 7 #[kyv ⟨4, 0, 0, held⟩] w fun e w' => e = .returned (.bool (decide (held = 0 ∨ held = 2))) ∧ Below w.heap.size w w' := by
  have HL := fun (W : World) (b : Nat) (h : SeqAt W b seqT) => sq_run h 4 0 0 (wf_bare hk)
  rw [show sq ⟨4, 0, 0, 0⟩ = [] from sq_no _ (fun h => by unfold isSq at h; simp only at h; omega), show bs ([] : List UInt8) = ⟨#[]⟩ from rfl] at HL
  clear hk
  have hd0 : ¬ held < 0 := by omega
  have hd7 : ¬ 7 < held := by omega
  unfold kyv
  go_enter Tryd.func7, Tryd.ntmps7
  go_upto_region 5 with fail
  obtain ⟨kb0, z0, z1⟩ := two_blocks w #[.int .i64 4, .int .i32 0, .int .i64 0, .int .i64 held] #[.int .i64 4, .int .i32 0, .int .i64 0, .int .i64 0] 23
  generalize (w.alloc (.cells #[.int .i64 4, .int .i32 0, .int .i64 0, .int .i64 held] 23)).alloc (.cells #[.int .i64 4, .int .i32 0, .int .i64 0, .int .i64 0] 23) = W0 at *
  obtain ⟨⟨c0, c1, c2, c3⟩, _⟩ := four_cells z1
  go_region_with (go_at_call 18; refine (sequences_any _).mono ?_; rintro e W1 ⟨rfl, hS, hB, hlt⟩; have y0 := by_drew z1 hB; obtain ⟨⟨d0, d1, d2, d3⟩, _⟩ := four_cells y0; have hl := HL W1 W0.heap.size hS)
  all_goals have zz := by_drew z0 hB
  all_goals obtain ⟨⟨e0, e1, e2, e3⟩, _⟩ := four_cells zz
  all_goals have kb1 := below_drew kb0 hB
  all_goals clear c0 c1 c2 c3 d0 d1 d2 d3 hS hB hlt HL y0 z0 z1 hl kb0
  all_goals go_wp2_with fail
  all_goals go_ret
  all_goals refine ⟨ret_bool ?_, kb1⟩
  all_goals clear e0 e1 e2 e3 zz kb1
  all_goals (by_cases q0 : held = 0 <;> by_cases q2 : held = 2 <;> by_cases q1 : held = 1 <;> simp_all)
set_option maxHeartbeats 4000000 in
set_option maxRecDepth 100000 in
theorem isKey_5 (held : Int) (w : World) (hk : Wf ⟨5, 0, 0, held⟩) (h0 : 0 ≤ held) (h7 : held ≤ 7) :
    Calls Tryd.prog 7 #[kyv ⟨5, 0, 0, held⟩] w fun e w' => e = .returned (.bool (decide (held = 0))) ∧ Below w.heap.size w w' := by
  have HL := fun (W : World) (b : Nat) (h : SeqAt W b seqT) => sq_run h 5 0 0 (wf_bare hk)
  rw [show sq ⟨5, 0, 0, 0⟩ = [] from sq_no _ (fun h => by unfold isSq at h; simp only at h; omega), show bs ([] : List UInt8) = ⟨#[]⟩ from rfl] at HL
  clear hk
  have hd0 : ¬ held < 0 := by omega
  have hd7 : ¬ 7 < held := by omega
  unfold kyv
  go_enter Tryd.func7, Tryd.ntmps7
  go_upto_region 5 with fail
  obtain ⟨kb0, z0, z1⟩ := two_blocks w #[.int .i64 5, .int .i32 0, .int .i64 0, .int .i64 held] #[.int .i64 5, .int .i32 0, .int .i64 0, .int .i64 0] 23
  generalize (w.alloc (.cells #[.int .i64 5, .int .i32 0, .int .i64 0, .int .i64 held] 23)).alloc (.cells #[.int .i64 5, .int .i32 0, .int .i64 0, .int .i64 0] 23) = W0 at *
  obtain ⟨⟨c0, c1, c2, c3⟩, _⟩ := four_cells z1
  go_region_with (go_at_call 18; refine (sequences_any _).mono ?_; rintro e W1 ⟨rfl, hS, hB, hlt⟩; have y0 := by_drew z1 hB; obtain ⟨⟨d0, d1, d2, d3⟩, _⟩ := four_cells y0; have hl := HL W1 W0.heap.size hS)
  all_goals have zz := by_drew z0 hB
  all_goals obtain ⟨⟨e0, e1, e2, e3⟩, _⟩ := four_cells zz
  all_goals have kb1 := below_drew kb0 hB
  all_goals clear c0 c1 c2 c3 d0 d1 d2 d3 hS hB hlt HL y0 z0 z1 hl kb0
  all_goals go_wp2_with fail
  all_goals go_ret
  all_goals refine ⟨ret_bool ?_, kb1⟩
  all_goals clear e0 e1 e2 e3 zz kb1
  all_goals (by_cases q0 : held = 0 <;> by_cases q2 : held = 2 <;> by_cases q1 : held = 1 <;> simp_all)
set_option maxHeartbeats 4000000 in
set_option maxRecDepth 100000 in
theorem isKey_else (kind held : Int) (w : World) (hk : Wf ⟨kind, 0, 0, held⟩) (h0 : 0 ≤ held) (h7 : held ≤ 7) (hs : ¬ isSq ⟨kind, 0, 0, held⟩) (hc : ¬ (1 ≤ kind ∧ kind ≤ 5)) :
    Calls Tryd.prog 7 #[kyv ⟨kind, 0, 0, held⟩] w fun e w' => e = .returned (.bool false) ∧ Below w.heap.size w w' := by
  have HL := fun (W : World) (b : Nat) (h : SeqAt W b seqT) => sq_run h kind 0 0 (wf_bare hk)
  rw [show sq ⟨kind, 0, 0, 0⟩ = [] from sq_no _ (fun h => hs h), show bs ([] : List UInt8) = ⟨#[]⟩ from rfl] at HL
  clear hk
  have hd0 : ¬ held < 0 := by omega
  have hd7 : ¬ 7 < held := by omega
  have hn : ∀ j : Nat, 1 ≤ j → j ≤ 5 → (kind == (j : Int)) = false := fun j h1 h2 => by simp; omega
  have n1 := hn 1 (by omega) (by omega)
  have n2 := hn 2 (by omega) (by omega)
  have n3 := hn 3 (by omega) (by omega)
  have n4 := hn 4 (by omega) (by omega)
  have n5 := hn 5 (by omega) (by omega)
  clear hn hs hc
  unfold kyv
  go_enter Tryd.func7, Tryd.ntmps7
  go_upto_region 5 with fail
  obtain ⟨kb0, z0, z1⟩ := two_blocks w #[.int .i64 kind, .int .i32 0, .int .i64 0, .int .i64 held] #[.int .i64 kind, .int .i32 0, .int .i64 0, .int .i64 0] 23
  generalize (w.alloc (.cells #[.int .i64 kind, .int .i32 0, .int .i64 0, .int .i64 held] 23)).alloc (.cells #[.int .i64 kind, .int .i32 0, .int .i64 0, .int .i64 0] 23) = W0 at *
  obtain ⟨⟨c0, c1, c2, c3⟩, _⟩ := four_cells z1
  go_region_with (go_at_call 18; refine (sequences_any _).mono ?_; rintro e W1 ⟨rfl, hS, hB, hlt⟩; have y0 := by_drew z1 hB; obtain ⟨⟨d0, d1, d2, d3⟩, _⟩ := four_cells y0; have hl := HL W1 W0.heap.size hS)
  all_goals have zz := by_drew z0 hB
  all_goals obtain ⟨⟨e0, e1, e2, e3⟩, _⟩ := four_cells zz
  all_goals have kb1 := below_drew kb0 hB
  all_goals clear c0 c1 c2 c3 d0 d1 d2 d3 hS hB hlt HL y0 z0 z1 hl kb0
  all_goals go_wp2_with fail
  all_goals go_ret
  all_goals exact ⟨rfl, kb1⟩
theorem isKey_any (k : Ky) (w : World) (hk : Wf k) : Calls Tryd.prog 7 #[kyv k] w fun e w' => e = .returned (.bool (chk k)) ∧ Below w.heap.size w w' := by
  obtain ⟨kind, r, n, held⟩ := k
  by_cases h0 : held < 0
  · rw [chk_out ⟨kind, r, n, held⟩ (.inl h0)]
    exact isKey_low kind r n held w h0
  by_cases h7 : 7 < held
  · rw [chk_out ⟨kind, r, n, held⟩ (.inr h7)]
    exact isKey_high kind r n held w h7
  by_cases hs : isSq ⟨kind, r, n, held⟩
  · rw [chk_sq _ hs (by show (0 : Int) ≤ held; omega) (by show held ≤ 7; omega)]
    exact isKey_sq kind r n held w hk (by omega) (by omega) hs
  by_cases hn : n ≠ 0
  · rw [chk_no1 _ hs (.inl hn)]
    exact isKey_n kind r n held w hk (by omega) (by omega) hs hn
  replace hn : n = 0 := by omega
  subst hn
  by_cases h1 : kind = 1
  · subst h1
    have hc : chk ⟨1, r, 0, held⟩ = chkR ⟨1, r, 0, held⟩ := by
      unfold chk
      simp only
      rw [if_neg (by omega), if_pos (by simp)]
    rw [hc]
    have h8 : held = 0 ∨ held = 1 ∨ held = 2 ∨ held = 3 ∨ held = 4 ∨ held = 5 ∨ held = 6 ∨ held = 7 := by omega
    unfold chkR
    simp only
    rcases h8 with rfl | rfl | rfl | rfl | rfl | rfl | rfl | rfl
    · rw [if_neg (by omega), if_pos (by omega)]
      by_cases hw : wd r = 0
      · rw [hw]; exact isKey_1_0a r w hk hw
      · rw [decide_eq_true hw]; exact isKey_1_0b r w hk hw
    · rw [if_neg (by omega), if_neg (by omega)]; exact isKey_1_1 r w hk
    · rw [if_neg (by omega)]
      by_cases ha : r = 91
      · subst ha; rw [if_neg (by omega)]; exact isKey_1_2_91 w hk
      by_cases hb : r = 79
      · subst hb; rw [if_neg (by omega)]; exact isKey_1_2_79 w hk
      rw [if_pos (by omega)]
      by_cases hw : wd r = 0
      · rw [hw]; exact isKey_1_2a r w hk hw
      · rw [decide_eq_true hw]; exact isKey_1_2b r w hk hw ha hb
    · rw [if_neg (by omega), if_neg (by omega)]; exact isKey_1_3 r w hk
    · rw [if_pos (by omega)]
      by_cases ha : r < 97
      · rw [decide_eq_false (by omega)]; exact isKey_1_4_a r w hk ha
      by_cases hb : 122 < r
      · rw [decide_eq_false (by omega)]; exact isKey_1_4_b r w hk hb
      rw [show (decide (97 ≤ r ∧ r ≤ 122 ∧ r ≠ 104 ∧ r ≠ 105 ∧ r ≠ 109)) = (!decide (r = 104 ∨ r = 105 ∨ r = 109)) by rw [← decide_not]; exact decide_eq_decide.2 (by omega)]
      exact isKey_1_4_c r w hk (by omega) (by omega)
    · rw [if_neg (by omega), if_neg (by omega)]; exact isKey_1_5 r w hk
    · rw [if_pos (by omega)]
      by_cases ha : r < 97
      · rw [decide_eq_false (by omega)]; exact isKey_1_6_a r w hk ha
      by_cases hb : 122 < r
      · rw [decide_eq_false (by omega)]; exact isKey_1_6_b r w hk hb
      rw [show (decide (97 ≤ r ∧ r ≤ 122 ∧ r ≠ 104 ∧ r ≠ 105 ∧ r ≠ 109)) = (!decide (r = 104 ∨ r = 105 ∨ r = 109)) by rw [← decide_not]; exact decide_eq_decide.2 (by omega)]
      exact isKey_1_6_c r w hk (by omega) (by omega)
    · rw [if_neg (by omega), if_neg (by omega)]; exact isKey_1_7 r w hk
  by_cases hr : r ≠ 0
  · rw [chk_no1 _ hs (.inr ⟨h1, hr⟩)]
    exact isKey_r kind r held w hk (by omega) (by omega) h1 hr
  replace hr : r = 0 := by omega
  subst hr
  by_cases hc : ¬ (1 ≤ kind ∧ kind ≤ 5)
  · rw [chk_else _ hs rfl (.inr rfl) (by show (0 : Int) ≤ held; omega) (by show held ≤ 7; omega) hc]
    exact isKey_else kind held w hk (by omega) (by omega) hs hc
  have h5 : kind = 2 ∨ kind = 3 ∨ kind = 4 ∨ kind = 5 := by omega
  rcases h5 with rfl | rfl | rfl | rfl
  · rw [show chk ⟨2, 0, 0, held⟩ = decide (held = 0 ∨ held = 2) by unfold chk; simp only; rw [if_neg (by omega), if_neg (by omega), if_pos (by simp)]]
    exact isKey_2 held w hk (by omega) (by omega)
  · rw [show chk ⟨3, 0, 0, held⟩ = decide (held = 0 ∨ held = 1) by unfold chk; simp only; rw [if_neg (by omega), if_neg (by omega), if_neg (by omega), if_pos (by simp)]]
    exact isKey_3 held w hk (by omega) (by omega)
  · rw [show chk ⟨4, 0, 0, held⟩ = decide (held = 0 ∨ held = 2) by unfold chk; simp only; rw [if_neg (by omega), if_neg (by omega), if_pos (by simp)]]
    exact isKey_4 held w hk (by omega) (by omega)
  · rw [show chk ⟨5, 0, 0, held⟩ = decide (held = 0) by unfold chk; simp only; rw [if_neg (by omega), if_neg (by omega), if_neg (by omega), if_neg (by omega), if_pos (by simp)]]
    exact isKey_5 held w hk (by omega) (by omega)
end Kys
end Go.Proofs.YtdmooeoklcjplaaDoor

/- Package keys: Write. -/
namespace Go.Proofs.YtdmooeoklcjplaaDoor
open Go.ChangeShapes Go.WideShapes Go.ChangeAt Go.RowKit
open Go.Sort
namespace Kys
open Txt (wd bs)
theorem idx1 (w : World) : (Instr.index 43 (.agg wsA) (.int .i64 1)).run Tryd.prog w = .ok (.func (.func 31) #[] #[]) w := by
  unfold wsA
  simp [Instr.index, run_underlying und_ws, asIntOf, go_sem]
theorem idx2 (w : World) : (Instr.index 43 (.agg wsA) (.int .i64 2)).run Tryd.prog w = .ok (.func (.func 32) #[] #[]) w := by
  unfold wsA
  simp [Instr.index, run_underlying und_ws, asIntOf, go_sem]
theorem idx3 (w : World) : (Instr.index 43 (.agg wsA) (.int .i64 3)).run Tryd.prog w = .ok (.func (.func 33) #[] #[]) w := by
  unfold wsA
  simp [Instr.index, run_underlying und_ws, asIntOf, go_sem]
theorem idx4 (w : World) : (Instr.index 43 (.agg wsA) (.int .i64 4)).run Tryd.prog w = .ok (.func (.func 34) #[] #[]) w := by
  unfold wsA
  simp [Instr.index, run_underlying und_ws, asIntOf, go_sem]
theorem idx5 (w : World) : (Instr.index 43 (.agg wsA) (.int .i64 5)).run Tryd.prog w = .ok (.func (.func 35) #[] #[]) w := by
  unfold wsA
  simp [Instr.index, run_underlying und_ws, asIntOf, go_sem]
theorem idx7 (w : World) : (Instr.index 43 (.agg wsA) (.int .i64 7)).run Tryd.prog w = .ok (.func (.func 36) #[] #[]) w := by
  unfold wsA
  simp [Instr.index, run_underlying und_ws, asIntOf, go_sem]
theorem idx8 (w : World) : (Instr.index 43 (.agg wsA) (.int .i64 8)).run Tryd.prog w = .ok (.func (.func 36) #[] #[]) w := by
  unfold wsA
  simp [Instr.index, run_underlying und_ws, asIntOf, go_sem]
theorem idx9 (w : World) : (Instr.index 43 (.agg wsA) (.int .i64 9)).run Tryd.prog w = .ok (.func (.func 36) #[] #[]) w := by
  unfold wsA
  simp [Instr.index, run_underlying und_ws, asIntOf, go_sem]
theorem idx10 (w : World) : (Instr.index 43 (.agg wsA) (.int .i64 10)).run Tryd.prog w = .ok (.func (.func 36) #[] #[]) w := by
  unfold wsA
  simp [Instr.index, run_underlying und_ws, asIntOf, go_sem]
theorem idx11 (w : World) : (Instr.index 43 (.agg wsA) (.int .i64 11)).run Tryd.prog w = .ok (.func (.func 36) #[] #[]) w := by
  unfold wsA
  simp [Instr.index, run_underlying und_ws, asIntOf, go_sem]
theorem idx12 (w : World) : (Instr.index 43 (.agg wsA) (.int .i64 12)).run Tryd.prog w = .ok (.func (.func 37) #[] #[]) w := by
  unfold wsA
  simp [Instr.index, run_underlying und_ws, asIntOf, go_sem]
theorem idx13 (w : World) : (Instr.index 43 (.agg wsA) (.int .i64 13)).run Tryd.prog w = .ok (.func (.func 37) #[] #[]) w := by
  unfold wsA
  simp [Instr.index, run_underlying und_ws, asIntOf, go_sem]
theorem idx14 (w : World) : (Instr.index 43 (.agg wsA) (.int .i64 14)).run Tryd.prog w = .ok (.func (.func 37) #[] #[]) w := by
  unfold wsA
  simp [Instr.index, run_underlying und_ws, asIntOf, go_sem]
theorem idx15 (w : World) : (Instr.index 43 (.agg wsA) (.int .i64 15)).run Tryd.prog w = .ok (.func (.func 37) #[] #[]) w := by
  unfold wsA
  simp [Instr.index, run_underlying und_ws, asIntOf, go_sem]
set_option maxHeartbeats 4000000 in
theorem write_1 (r n held : Int) (kp : Bool) (w : World) (hT : Txt.Tab w) (hk : chk ⟨1, r, n, held⟩ = true) (hh : held = 0 ∨ held = 2 ∨ (held = 4 ∨ held = 6) ∧ 97 ≤ r ∧ r ≤ 122) : Calls Tryd.prog 6 #[kyv ⟨1, r, n, held⟩, .bool kp] w fun e w' => e = .returned (.tuple #[.string (bs (wr ⟨1, r, n, held⟩ kp)), .int .i64 0]) ∧ Below w.heap.size w w' := by
  have kb : Below w.heap.size w (w.alloc (.cells #[.int .i64 1, .int .i32 r, .int .i64 n, .int .i64 held] 23)) := (Below.refl _ _).alloc (Nat.le_refl _) _
  have HC := check_any ⟨1, r, n, held⟩ _ (Tab.alloc hT (.cells #[.int .i64 1, .int .i32 r, .int .i64 n, .int .i64 held] 23))
  rw [hk] at HC
  clear hk hT
  rw [show wr ⟨1, r, n, held⟩ kp = altA held ++ Lib.encodeRune (wrR ⟨1, r, n, held⟩) from rfl]
  have HF := fun W => writeRune_any ⟨1, r, n, held⟩ kp hh W
  generalize bs (altA held ++ Lib.encodeRune (wrR ⟨1, r, n, held⟩)) = res at *
  unfold kyv at HC HF ⊢
  go_enter Tryd.func6, Tryd.ntmps6
  go_wp2_with (go_at_call 9; refine HC.mono ?_; rintro e W1 ⟨rfl, b1⟩)
  have z1 := held_block b1
  have k1 := kb.trans (b1.mono kb.size)
  clear b1 kb HC
  obtain ⟨⟨c0, c1, c2, c3⟩, _⟩ := four_cells z1
  have g0 := fun d os => cell_regrown c0 d os
  have g1 := fun d os => cell_regrown c1 d os
  have g2 := fun d os => cell_regrown c2 d os
  have g3 := fun d os => cell_regrown c3 d os
  have HWr := fun d os => Calls.regrown_of (writers_any (grow (redrawn W1 d) os))
  have HFr := fun d os => Calls.regrown_of (HF (grow (redrawn W1 d) os))
  have hix := idx1
  clear HF c0 c1 c2 c3 z1
  refine wp_region_quiet_below (by kernel_rfl) (by kernel_rfl) ?_
  repeat (first | go_big_quiet_skip | quiet_step (first | (go_at_call 17; exact HWr _ _) | (go_at_call 31; exact HFr _ _)))
  refine wpQuiet_nil ?_
  intro _ hw'
  obtain ⟨⟨dq, os⟩, hw''⟩ := hw'
  subst hw''
  have kR := below_regrown W1 dq os
  have kw := k1.trans (kR.mono k1.size)
  clear g0 g1 g2 g3 HWr HFr kR
  generalize grow (redrawn W1 dq) os = V at *
  go_wp2_with fail
  go_ret2
  exact ⟨rfl, kw⟩
set_option maxHeartbeats 4000000 in
theorem write_2 (r n held : Int) (kp : Bool) (w : World) (hT : Txt.Tab w) (hk : chk ⟨2, r, n, held⟩ = true) (hh : held = 0 ∨ held = 2) : Calls Tryd.prog 6 #[kyv ⟨2, r, n, held⟩, .bool kp] w fun e w' => e = .returned (.tuple #[.string (bs (wr ⟨2, r, n, held⟩ kp)), .int .i64 0]) ∧ Below w.heap.size w w' := by
  have kb : Below w.heap.size w (w.alloc (.cells #[.int .i64 2, .int .i32 r, .int .i64 n, .int .i64 held] 23)) := (Below.refl _ _).alloc (Nat.le_refl _) _
  have HC := check_any ⟨2, r, n, held⟩ _ (Tab.alloc hT (.cells #[.int .i64 2, .int .i32 r, .int .i64 n, .int .i64 held] 23))
  rw [hk] at HC
  clear hk hT
  rw [show wr ⟨2, r, n, held⟩ kp = altA held ++ [13] from rfl]
  have HF := fun W => writeEnter_any ⟨2, r, n, held⟩ kp hh W
  generalize bs (altA held ++ [13]) = res at *
  unfold kyv at HC HF ⊢
  go_enter Tryd.func6, Tryd.ntmps6
  go_wp2_with (go_at_call 9; refine HC.mono ?_; rintro e W1 ⟨rfl, b1⟩)
  have z1 := held_block b1
  have k1 := kb.trans (b1.mono kb.size)
  clear b1 kb HC
  obtain ⟨⟨c0, c1, c2, c3⟩, _⟩ := four_cells z1
  have g0 := fun d os => cell_regrown c0 d os
  have g1 := fun d os => cell_regrown c1 d os
  have g2 := fun d os => cell_regrown c2 d os
  have g3 := fun d os => cell_regrown c3 d os
  have HWr := fun d os => Calls.regrown_of (writers_any (grow (redrawn W1 d) os))
  have HFr := fun d os => Calls.regrown_of (HF (grow (redrawn W1 d) os))
  have hix := idx2
  clear HF c0 c1 c2 c3 z1
  refine wp_region_quiet_below (by kernel_rfl) (by kernel_rfl) ?_
  repeat (first | go_big_quiet_skip | quiet_step (first | (go_at_call 17; exact HWr _ _) | (go_at_call 32; exact HFr _ _)))
  refine wpQuiet_nil ?_
  intro _ hw'
  obtain ⟨⟨dq, os⟩, hw''⟩ := hw'
  subst hw''
  have kR := below_regrown W1 dq os
  have kw := k1.trans (kR.mono k1.size)
  clear g0 g1 g2 g3 HWr HFr kR
  generalize grow (redrawn W1 dq) os = V at *
  go_wp2_with fail
  go_ret2
  exact ⟨rfl, kw⟩
set_option maxHeartbeats 4000000 in
theorem write_3 (r n held : Int) (kp : Bool) (w : World) (hT : Txt.Tab w) (hk : chk ⟨3, r, n, held⟩ = true) : Calls Tryd.prog 6 #[kyv ⟨3, r, n, held⟩, .bool kp] w fun e w' => e = .returned (.tuple #[.string (bs (wr ⟨3, r, n, held⟩ kp)), .int .i64 0]) ∧ Below w.heap.size w w' := by
  have kb : Below w.heap.size w (w.alloc (.cells #[.int .i64 3, .int .i32 r, .int .i64 n, .int .i64 held] 23)) := (Below.refl _ _).alloc (Nat.le_refl _) _
  have HC := check_any ⟨3, r, n, held⟩ _ (Tab.alloc hT (.cells #[.int .i64 3, .int .i32 r, .int .i64 n, .int .i64 held] 23))
  rw [hk] at HC
  clear hk hT
  rw [show wr ⟨3, r, n, held⟩ kp = if held ≠ 0 then [27, 91, 90] else [9] from rfl]
  have HF := fun W => writeTab_any ⟨3, r, n, held⟩ kp W
  generalize bs (if held ≠ 0 then [27, 91, 90] else [9]) = res at *
  unfold kyv at HC HF ⊢
  go_enter Tryd.func6, Tryd.ntmps6
  go_wp2_with (go_at_call 9; refine HC.mono ?_; rintro e W1 ⟨rfl, b1⟩)
  have z1 := held_block b1
  have k1 := kb.trans (b1.mono kb.size)
  clear b1 kb HC
  obtain ⟨⟨c0, c1, c2, c3⟩, _⟩ := four_cells z1
  have g0 := fun d os => cell_regrown c0 d os
  have g1 := fun d os => cell_regrown c1 d os
  have g2 := fun d os => cell_regrown c2 d os
  have g3 := fun d os => cell_regrown c3 d os
  have HWr := fun d os => Calls.regrown_of (writers_any (grow (redrawn W1 d) os))
  have HFr := fun d os => Calls.regrown_of (HF (grow (redrawn W1 d) os))
  have hix := idx3
  clear HF c0 c1 c2 c3 z1
  refine wp_region_quiet_below (by kernel_rfl) (by kernel_rfl) ?_
  repeat (first | go_big_quiet_skip | quiet_step (first | (go_at_call 17; exact HWr _ _) | (go_at_call 33; exact HFr _ _)))
  refine wpQuiet_nil ?_
  intro _ hw'
  obtain ⟨⟨dq, os⟩, hw''⟩ := hw'
  subst hw''
  have kR := below_regrown W1 dq os
  have kw := k1.trans (kR.mono k1.size)
  clear g0 g1 g2 g3 HWr HFr kR
  generalize grow (redrawn W1 dq) os = V at *
  go_wp2_with fail
  go_ret2
  exact ⟨rfl, kw⟩
set_option maxHeartbeats 4000000 in
theorem write_4 (r n held : Int) (kp : Bool) (w : World) (hT : Txt.Tab w) (hk : chk ⟨4, r, n, held⟩ = true) (hh : held = 0 ∨ held = 2) : Calls Tryd.prog 6 #[kyv ⟨4, r, n, held⟩, .bool kp] w fun e w' => e = .returned (.tuple #[.string (bs (wr ⟨4, r, n, held⟩ kp)), .int .i64 0]) ∧ Below w.heap.size w w' := by
  have kb : Below w.heap.size w (w.alloc (.cells #[.int .i64 4, .int .i32 r, .int .i64 n, .int .i64 held] 23)) := (Below.refl _ _).alloc (Nat.le_refl _) _
  have HC := check_any ⟨4, r, n, held⟩ _ (Tab.alloc hT (.cells #[.int .i64 4, .int .i32 r, .int .i64 n, .int .i64 held] 23))
  rw [hk] at HC
  clear hk hT
  rw [show wr ⟨4, r, n, held⟩ kp = altA held ++ [127] from rfl]
  have HF := fun W => writeBack_any ⟨4, r, n, held⟩ kp hh W
  generalize bs (altA held ++ [127]) = res at *
  unfold kyv at HC HF ⊢
  go_enter Tryd.func6, Tryd.ntmps6
  go_wp2_with (go_at_call 9; refine HC.mono ?_; rintro e W1 ⟨rfl, b1⟩)
  have z1 := held_block b1
  have k1 := kb.trans (b1.mono kb.size)
  clear b1 kb HC
  obtain ⟨⟨c0, c1, c2, c3⟩, _⟩ := four_cells z1
  have g0 := fun d os => cell_regrown c0 d os
  have g1 := fun d os => cell_regrown c1 d os
  have g2 := fun d os => cell_regrown c2 d os
  have g3 := fun d os => cell_regrown c3 d os
  have HWr := fun d os => Calls.regrown_of (writers_any (grow (redrawn W1 d) os))
  have HFr := fun d os => Calls.regrown_of (HF (grow (redrawn W1 d) os))
  have hix := idx4
  clear HF c0 c1 c2 c3 z1
  refine wp_region_quiet_below (by kernel_rfl) (by kernel_rfl) ?_
  repeat (first | go_big_quiet_skip | quiet_step (first | (go_at_call 17; exact HWr _ _) | (go_at_call 34; exact HFr _ _)))
  refine wpQuiet_nil ?_
  intro _ hw'
  obtain ⟨⟨dq, os⟩, hw''⟩ := hw'
  subst hw''
  have kR := below_regrown W1 dq os
  have kw := k1.trans (kR.mono k1.size)
  clear g0 g1 g2 g3 HWr HFr kR
  generalize grow (redrawn W1 dq) os = V at *
  go_wp2_with fail
  go_ret2
  exact ⟨rfl, kw⟩
set_option maxHeartbeats 4000000 in
theorem write_5 (r n held : Int) (kp : Bool) (w : World) (hT : Txt.Tab w) (hk : chk ⟨5, r, n, held⟩ = true) : Calls Tryd.prog 6 #[kyv ⟨5, r, n, held⟩, .bool kp] w fun e w' => e = .returned (.tuple #[.string (bs (wr ⟨5, r, n, held⟩ kp)), .int .i64 0]) ∧ Below w.heap.size w w' := by
  have kb : Below w.heap.size w (w.alloc (.cells #[.int .i64 5, .int .i32 r, .int .i64 n, .int .i64 held] 23)) := (Below.refl _ _).alloc (Nat.le_refl _) _
  have HC := check_any ⟨5, r, n, held⟩ _ (Tab.alloc hT (.cells #[.int .i64 5, .int .i32 r, .int .i64 n, .int .i64 held] 23))
  rw [hk] at HC
  clear hk hT
  rw [show wr ⟨5, r, n, held⟩ kp = [27] from rfl]
  have HF := fun W => writeEsc_any ⟨5, r, n, held⟩ kp W
  generalize bs [27] = res at *
  unfold kyv at HC HF ⊢
  go_enter Tryd.func6, Tryd.ntmps6
  go_wp2_with (go_at_call 9; refine HC.mono ?_; rintro e W1 ⟨rfl, b1⟩)
  have z1 := held_block b1
  have k1 := kb.trans (b1.mono kb.size)
  clear b1 kb HC
  obtain ⟨⟨c0, c1, c2, c3⟩, _⟩ := four_cells z1
  have g0 := fun d os => cell_regrown c0 d os
  have g1 := fun d os => cell_regrown c1 d os
  have g2 := fun d os => cell_regrown c2 d os
  have g3 := fun d os => cell_regrown c3 d os
  have HWr := fun d os => Calls.regrown_of (writers_any (grow (redrawn W1 d) os))
  have HFr := fun d os => Calls.regrown_of (HF (grow (redrawn W1 d) os))
  have hix := idx5
  clear HF c0 c1 c2 c3 z1
  refine wp_region_quiet_below (by kernel_rfl) (by kernel_rfl) ?_
  repeat (first | go_big_quiet_skip | quiet_step (first | (go_at_call 17; exact HWr _ _) | (go_at_call 35; exact HFr _ _)))
  refine wpQuiet_nil ?_
  intro _ hw'
  obtain ⟨⟨dq, os⟩, hw''⟩ := hw'
  subst hw''
  have kR := below_regrown W1 dq os
  have kw := k1.trans (kR.mono k1.size)
  clear g0 g1 g2 g3 HWr HFr kR
  generalize grow (redrawn W1 dq) os = V at *
  go_wp2_with fail
  go_ret2
  exact ⟨rfl, kw⟩
set_option maxHeartbeats 4000000 in
theorem write_7 (r n held : Int) (kp : Bool) (w : World) (hT : Txt.Tab w) (hk : chk ⟨7, r, n, held⟩ = true) (h0 : 0 ≤ held) (h7 : held ≤ 7) : Calls Tryd.prog 6 #[kyv ⟨7, r, n, held⟩, .bool kp] w fun e w' => e = .returned (.tuple #[.string (bs (wr ⟨7, r, n, held⟩ kp)), .int .i64 0]) ∧ Below w.heap.size w w' := by
  have kb : Below w.heap.size w (w.alloc (.cells #[.int .i64 7, .int .i32 r, .int .i64 n, .int .i64 held] 23)) := (Below.refl _ _).alloc (Nat.le_refl _) _
  have HC := check_any ⟨7, r, n, held⟩ _ (Tab.alloc hT (.cells #[.int .i64 7, .int .i32 r, .int .i64 n, .int .i64 held] 23))
  rw [hk] at HC
  clear hk hT
  have HF := fun W => writeLetter_7 r n held kp h0 h7 W
  generalize bs (wr ⟨7, r, n, held⟩ kp) = res at *
  unfold kyv at HC HF ⊢
  go_enter Tryd.func6, Tryd.ntmps6
  go_wp2_with (go_at_call 9; refine HC.mono ?_; rintro e W1 ⟨rfl, b1⟩)
  have z1 := held_block b1
  have k1 := kb.trans (b1.mono kb.size)
  clear b1 kb HC
  obtain ⟨⟨c0, c1, c2, c3⟩, _⟩ := four_cells z1
  have g0 := fun d os => cell_regrown c0 d os
  have g1 := fun d os => cell_regrown c1 d os
  have g2 := fun d os => cell_regrown c2 d os
  have g3 := fun d os => cell_regrown c3 d os
  have HWr := fun d os => Calls.regrown_of (writers_any (grow (redrawn W1 d) os))
  have HFr := fun d os => Calls.regrown_of (HF (grow (redrawn W1 d) os))
  have hix := idx7
  clear HF c0 c1 c2 c3 z1
  refine wp_region_quiet_below (by kernel_rfl) (by kernel_rfl) ?_
  repeat (first | go_big_quiet_skip | quiet_step (first | (go_at_call 17; exact HWr _ _) | (go_at_call 36; exact HFr _ _)))
  refine wpQuiet_nil ?_
  intro _ hw'
  obtain ⟨⟨dq, os⟩, hw''⟩ := hw'
  subst hw''
  have kR := below_regrown W1 dq os
  have kw := k1.trans (kR.mono k1.size)
  clear g0 g1 g2 g3 HWr HFr kR
  generalize grow (redrawn W1 dq) os = V at *
  go_wp2_with fail
  go_ret2
  exact ⟨rfl, kw⟩
set_option maxHeartbeats 4000000 in
theorem write_8 (r n held : Int) (kp : Bool) (w : World) (hT : Txt.Tab w) (hk : chk ⟨8, r, n, held⟩ = true) (h0 : 0 ≤ held) (h7 : held ≤ 7) : Calls Tryd.prog 6 #[kyv ⟨8, r, n, held⟩, .bool kp] w fun e w' => e = .returned (.tuple #[.string (bs (wr ⟨8, r, n, held⟩ kp)), .int .i64 0]) ∧ Below w.heap.size w w' := by
  have kb : Below w.heap.size w (w.alloc (.cells #[.int .i64 8, .int .i32 r, .int .i64 n, .int .i64 held] 23)) := (Below.refl _ _).alloc (Nat.le_refl _) _
  have HC := check_any ⟨8, r, n, held⟩ _ (Tab.alloc hT (.cells #[.int .i64 8, .int .i32 r, .int .i64 n, .int .i64 held] 23))
  rw [hk] at HC
  clear hk hT
  have HF := fun W => writeLetter_8 r n held kp h0 h7 W
  generalize bs (wr ⟨8, r, n, held⟩ kp) = res at *
  unfold kyv at HC HF ⊢
  go_enter Tryd.func6, Tryd.ntmps6
  go_wp2_with (go_at_call 9; refine HC.mono ?_; rintro e W1 ⟨rfl, b1⟩)
  have z1 := held_block b1
  have k1 := kb.trans (b1.mono kb.size)
  clear b1 kb HC
  obtain ⟨⟨c0, c1, c2, c3⟩, _⟩ := four_cells z1
  have g0 := fun d os => cell_regrown c0 d os
  have g1 := fun d os => cell_regrown c1 d os
  have g2 := fun d os => cell_regrown c2 d os
  have g3 := fun d os => cell_regrown c3 d os
  have HWr := fun d os => Calls.regrown_of (writers_any (grow (redrawn W1 d) os))
  have HFr := fun d os => Calls.regrown_of (HF (grow (redrawn W1 d) os))
  have hix := idx8
  clear HF c0 c1 c2 c3 z1
  refine wp_region_quiet_below (by kernel_rfl) (by kernel_rfl) ?_
  repeat (first | go_big_quiet_skip | quiet_step (first | (go_at_call 17; exact HWr _ _) | (go_at_call 36; exact HFr _ _)))
  refine wpQuiet_nil ?_
  intro _ hw'
  obtain ⟨⟨dq, os⟩, hw''⟩ := hw'
  subst hw''
  have kR := below_regrown W1 dq os
  have kw := k1.trans (kR.mono k1.size)
  clear g0 g1 g2 g3 HWr HFr kR
  generalize grow (redrawn W1 dq) os = V at *
  go_wp2_with fail
  go_ret2
  exact ⟨rfl, kw⟩
set_option maxHeartbeats 4000000 in
theorem write_9 (r n held : Int) (kp : Bool) (w : World) (hT : Txt.Tab w) (hk : chk ⟨9, r, n, held⟩ = true) (h0 : 0 ≤ held) (h7 : held ≤ 7) : Calls Tryd.prog 6 #[kyv ⟨9, r, n, held⟩, .bool kp] w fun e w' => e = .returned (.tuple #[.string (bs (wr ⟨9, r, n, held⟩ kp)), .int .i64 0]) ∧ Below w.heap.size w w' := by
  have kb : Below w.heap.size w (w.alloc (.cells #[.int .i64 9, .int .i32 r, .int .i64 n, .int .i64 held] 23)) := (Below.refl _ _).alloc (Nat.le_refl _) _
  have HC := check_any ⟨9, r, n, held⟩ _ (Tab.alloc hT (.cells #[.int .i64 9, .int .i32 r, .int .i64 n, .int .i64 held] 23))
  rw [hk] at HC
  clear hk hT
  have HF := fun W => writeLetter_9 r n held kp h0 h7 W
  generalize bs (wr ⟨9, r, n, held⟩ kp) = res at *
  unfold kyv at HC HF ⊢
  go_enter Tryd.func6, Tryd.ntmps6
  go_wp2_with (go_at_call 9; refine HC.mono ?_; rintro e W1 ⟨rfl, b1⟩)
  have z1 := held_block b1
  have k1 := kb.trans (b1.mono kb.size)
  clear b1 kb HC
  obtain ⟨⟨c0, c1, c2, c3⟩, _⟩ := four_cells z1
  have g0 := fun d os => cell_regrown c0 d os
  have g1 := fun d os => cell_regrown c1 d os
  have g2 := fun d os => cell_regrown c2 d os
  have g3 := fun d os => cell_regrown c3 d os
  have HWr := fun d os => Calls.regrown_of (writers_any (grow (redrawn W1 d) os))
  have HFr := fun d os => Calls.regrown_of (HF (grow (redrawn W1 d) os))
  have hix := idx9
  clear HF c0 c1 c2 c3 z1
  refine wp_region_quiet_below (by kernel_rfl) (by kernel_rfl) ?_
  repeat (first | go_big_quiet_skip | quiet_step (first | (go_at_call 17; exact HWr _ _) | (go_at_call 36; exact HFr _ _)))
  refine wpQuiet_nil ?_
  intro _ hw'
  obtain ⟨⟨dq, os⟩, hw''⟩ := hw'
  subst hw''
  have kR := below_regrown W1 dq os
  have kw := k1.trans (kR.mono k1.size)
  clear g0 g1 g2 g3 HWr HFr kR
  generalize grow (redrawn W1 dq) os = V at *
  go_wp2_with fail
  go_ret2
  exact ⟨rfl, kw⟩
set_option maxHeartbeats 4000000 in
theorem write_10 (r n held : Int) (kp : Bool) (w : World) (hT : Txt.Tab w) (hk : chk ⟨10, r, n, held⟩ = true) (h0 : 0 ≤ held) (h7 : held ≤ 7) : Calls Tryd.prog 6 #[kyv ⟨10, r, n, held⟩, .bool kp] w fun e w' => e = .returned (.tuple #[.string (bs (wr ⟨10, r, n, held⟩ kp)), .int .i64 0]) ∧ Below w.heap.size w w' := by
  have kb : Below w.heap.size w (w.alloc (.cells #[.int .i64 10, .int .i32 r, .int .i64 n, .int .i64 held] 23)) := (Below.refl _ _).alloc (Nat.le_refl _) _
  have HC := check_any ⟨10, r, n, held⟩ _ (Tab.alloc hT (.cells #[.int .i64 10, .int .i32 r, .int .i64 n, .int .i64 held] 23))
  rw [hk] at HC
  clear hk hT
  have HF := fun W => writeLetter_10 r n held kp h0 h7 W
  generalize bs (wr ⟨10, r, n, held⟩ kp) = res at *
  unfold kyv at HC HF ⊢
  go_enter Tryd.func6, Tryd.ntmps6
  go_wp2_with (go_at_call 9; refine HC.mono ?_; rintro e W1 ⟨rfl, b1⟩)
  have z1 := held_block b1
  have k1 := kb.trans (b1.mono kb.size)
  clear b1 kb HC
  obtain ⟨⟨c0, c1, c2, c3⟩, _⟩ := four_cells z1
  have g0 := fun d os => cell_regrown c0 d os
  have g1 := fun d os => cell_regrown c1 d os
  have g2 := fun d os => cell_regrown c2 d os
  have g3 := fun d os => cell_regrown c3 d os
  have HWr := fun d os => Calls.regrown_of (writers_any (grow (redrawn W1 d) os))
  have HFr := fun d os => Calls.regrown_of (HF (grow (redrawn W1 d) os))
  have hix := idx10
  clear HF c0 c1 c2 c3 z1
  refine wp_region_quiet_below (by kernel_rfl) (by kernel_rfl) ?_
  repeat (first | go_big_quiet_skip | quiet_step (first | (go_at_call 17; exact HWr _ _) | (go_at_call 36; exact HFr _ _)))
  refine wpQuiet_nil ?_
  intro _ hw'
  obtain ⟨⟨dq, os⟩, hw''⟩ := hw'
  subst hw''
  have kR := below_regrown W1 dq os
  have kw := k1.trans (kR.mono k1.size)
  clear g0 g1 g2 g3 HWr HFr kR
  generalize grow (redrawn W1 dq) os = V at *
  go_wp2_with fail
  go_ret2
  exact ⟨rfl, kw⟩
set_option maxHeartbeats 4000000 in
theorem write_11 (r n held : Int) (kp : Bool) (w : World) (hT : Txt.Tab w) (hk : chk ⟨11, r, n, held⟩ = true) (h0 : 0 ≤ held) (h7 : held ≤ 7) : Calls Tryd.prog 6 #[kyv ⟨11, r, n, held⟩, .bool kp] w fun e w' => e = .returned (.tuple #[.string (bs (wr ⟨11, r, n, held⟩ kp)), .int .i64 0]) ∧ Below w.heap.size w w' := by
  have kb : Below w.heap.size w (w.alloc (.cells #[.int .i64 11, .int .i32 r, .int .i64 n, .int .i64 held] 23)) := (Below.refl _ _).alloc (Nat.le_refl _) _
  have HC := check_any ⟨11, r, n, held⟩ _ (Tab.alloc hT (.cells #[.int .i64 11, .int .i32 r, .int .i64 n, .int .i64 held] 23))
  rw [hk] at HC
  clear hk hT
  have HF := fun W => writeLetter_11 r n held kp h0 h7 W
  generalize bs (wr ⟨11, r, n, held⟩ kp) = res at *
  unfold kyv at HC HF ⊢
  go_enter Tryd.func6, Tryd.ntmps6
  go_wp2_with (go_at_call 9; refine HC.mono ?_; rintro e W1 ⟨rfl, b1⟩)
  have z1 := held_block b1
  have k1 := kb.trans (b1.mono kb.size)
  clear b1 kb HC
  obtain ⟨⟨c0, c1, c2, c3⟩, _⟩ := four_cells z1
  have g0 := fun d os => cell_regrown c0 d os
  have g1 := fun d os => cell_regrown c1 d os
  have g2 := fun d os => cell_regrown c2 d os
  have g3 := fun d os => cell_regrown c3 d os
  have HWr := fun d os => Calls.regrown_of (writers_any (grow (redrawn W1 d) os))
  have HFr := fun d os => Calls.regrown_of (HF (grow (redrawn W1 d) os))
  have hix := idx11
  clear HF c0 c1 c2 c3 z1
  refine wp_region_quiet_below (by kernel_rfl) (by kernel_rfl) ?_
  repeat (first | go_big_quiet_skip | quiet_step (first | (go_at_call 17; exact HWr _ _) | (go_at_call 36; exact HFr _ _)))
  refine wpQuiet_nil ?_
  intro _ hw'
  obtain ⟨⟨dq, os⟩, hw''⟩ := hw'
  subst hw''
  have kR := below_regrown W1 dq os
  have kw := k1.trans (kR.mono k1.size)
  clear g0 g1 g2 g3 HWr HFr kR
  generalize grow (redrawn W1 dq) os = V at *
  go_wp2_with fail
  go_ret2
  exact ⟨rfl, kw⟩
set_option maxHeartbeats 4000000 in
theorem write_12 (n held : Int) (kp : Bool) (w : World) (hT : Txt.Tab w) (hk : chk ⟨12, 0, n, held⟩ = true) (hm : (12, n) ∈ numKeys) (h0 : 0 ≤ held) (h7 : held ≤ 7) (hN : NumTab w) : Calls Tryd.prog 6 #[kyv ⟨12, 0, n, held⟩, .bool kp] w fun e w' => e = .returned (.tuple #[.string (bs (wr ⟨12, 0, n, held⟩ kp)), .int .i64 0]) ∧ Below w.heap.size w w' := by
  have kb : Below w.heap.size w (w.alloc (.cells #[.int .i64 12, .int .i32 0, .int .i64 n, .int .i64 held] 23)) := (Below.refl _ _).alloc (Nat.le_refl _) _
  have HC := check_any ⟨12, 0, n, held⟩ _ (Tab.alloc hT (.cells #[.int .i64 12, .int .i32 0, .int .i64 n, .int .i64 held] 23))
  rw [hk] at HC
  clear hk hT
  rw [show wr ⟨12, 0, n, held⟩ kp = [27, 91] ++ digB (numOf 12 n) ++ heldB held ++ [126] from rfl]
  have HF := fun W (h : NumTab W) => writeNumber_any 12 n held kp hm h0 h7 W h
  generalize bs ([27, 91] ++ digB (numOf 12 n) ++ heldB held ++ [126]) = res at *
  unfold kyv at HC HF ⊢
  go_enter Tryd.func6, Tryd.ntmps6
  go_wp2_with (go_at_call 9; refine HC.mono ?_; rintro e W1 ⟨rfl, b1⟩)
  have z1 := held_block b1
  have k1 := kb.trans (b1.mono kb.size)
  clear b1 kb HC
  obtain ⟨⟨c0, c1, c2, c3⟩, _⟩ := four_cells z1
  have g0 := fun d os => cell_regrown c0 d os
  have g1 := fun d os => cell_regrown c1 d os
  have g2 := fun d os => cell_regrown c2 d os
  have g3 := fun d os => cell_regrown c3 d os
  have HWr := fun d os => Calls.regrown_of (writers_any (grow (redrawn W1 d) os))
  have hN1 := hN.below k1
  have HFr := fun d os => Calls.regrown_of (HF (grow (redrawn W1 d) os) (hN1.below (below_regrown W1 d os)))
  have hix := idx12
  clear HF c0 c1 c2 c3 z1
  refine wp_region_quiet_below (by kernel_rfl) (by kernel_rfl) ?_
  repeat (first | go_big_quiet_skip | quiet_step (first | (go_at_call 17; exact HWr _ _) | (go_at_call 37; exact HFr _ _)))
  refine wpQuiet_nil ?_
  intro _ hw'
  obtain ⟨⟨dq, os⟩, hw''⟩ := hw'
  subst hw''
  have kR := below_regrown W1 dq os
  have kw := k1.trans (kR.mono k1.size)
  clear g0 g1 g2 g3 HWr HFr kR
  generalize grow (redrawn W1 dq) os = V at *
  go_wp2_with fail
  go_ret2
  exact ⟨rfl, kw⟩
set_option maxHeartbeats 4000000 in
theorem write_13 (n held : Int) (kp : Bool) (w : World) (hT : Txt.Tab w) (hk : chk ⟨13, 0, n, held⟩ = true) (hm : (13, n) ∈ numKeys) (h0 : 0 ≤ held) (h7 : held ≤ 7) (hN : NumTab w) : Calls Tryd.prog 6 #[kyv ⟨13, 0, n, held⟩, .bool kp] w fun e w' => e = .returned (.tuple #[.string (bs (wr ⟨13, 0, n, held⟩ kp)), .int .i64 0]) ∧ Below w.heap.size w w' := by
  have kb : Below w.heap.size w (w.alloc (.cells #[.int .i64 13, .int .i32 0, .int .i64 n, .int .i64 held] 23)) := (Below.refl _ _).alloc (Nat.le_refl _) _
  have HC := check_any ⟨13, 0, n, held⟩ _ (Tab.alloc hT (.cells #[.int .i64 13, .int .i32 0, .int .i64 n, .int .i64 held] 23))
  rw [hk] at HC
  clear hk hT
  rw [show wr ⟨13, 0, n, held⟩ kp = [27, 91] ++ digB (numOf 13 n) ++ heldB held ++ [126] from rfl]
  have HF := fun W (h : NumTab W) => writeNumber_any 13 n held kp hm h0 h7 W h
  generalize bs ([27, 91] ++ digB (numOf 13 n) ++ heldB held ++ [126]) = res at *
  unfold kyv at HC HF ⊢
  go_enter Tryd.func6, Tryd.ntmps6
  go_wp2_with (go_at_call 9; refine HC.mono ?_; rintro e W1 ⟨rfl, b1⟩)
  have z1 := held_block b1
  have k1 := kb.trans (b1.mono kb.size)
  clear b1 kb HC
  obtain ⟨⟨c0, c1, c2, c3⟩, _⟩ := four_cells z1
  have g0 := fun d os => cell_regrown c0 d os
  have g1 := fun d os => cell_regrown c1 d os
  have g2 := fun d os => cell_regrown c2 d os
  have g3 := fun d os => cell_regrown c3 d os
  have HWr := fun d os => Calls.regrown_of (writers_any (grow (redrawn W1 d) os))
  have hN1 := hN.below k1
  have HFr := fun d os => Calls.regrown_of (HF (grow (redrawn W1 d) os) (hN1.below (below_regrown W1 d os)))
  have hix := idx13
  clear HF c0 c1 c2 c3 z1
  refine wp_region_quiet_below (by kernel_rfl) (by kernel_rfl) ?_
  repeat (first | go_big_quiet_skip | quiet_step (first | (go_at_call 17; exact HWr _ _) | (go_at_call 37; exact HFr _ _)))
  refine wpQuiet_nil ?_
  intro _ hw'
  obtain ⟨⟨dq, os⟩, hw''⟩ := hw'
  subst hw''
  have kR := below_regrown W1 dq os
  have kw := k1.trans (kR.mono k1.size)
  clear g0 g1 g2 g3 HWr HFr kR
  generalize grow (redrawn W1 dq) os = V at *
  go_wp2_with fail
  go_ret2
  exact ⟨rfl, kw⟩
set_option maxHeartbeats 4000000 in
theorem write_14 (n held : Int) (kp : Bool) (w : World) (hT : Txt.Tab w) (hk : chk ⟨14, 0, n, held⟩ = true) (hm : (14, n) ∈ numKeys) (h0 : 0 ≤ held) (h7 : held ≤ 7) (hN : NumTab w) : Calls Tryd.prog 6 #[kyv ⟨14, 0, n, held⟩, .bool kp] w fun e w' => e = .returned (.tuple #[.string (bs (wr ⟨14, 0, n, held⟩ kp)), .int .i64 0]) ∧ Below w.heap.size w w' := by
  have kb : Below w.heap.size w (w.alloc (.cells #[.int .i64 14, .int .i32 0, .int .i64 n, .int .i64 held] 23)) := (Below.refl _ _).alloc (Nat.le_refl _) _
  have HC := check_any ⟨14, 0, n, held⟩ _ (Tab.alloc hT (.cells #[.int .i64 14, .int .i32 0, .int .i64 n, .int .i64 held] 23))
  rw [hk] at HC
  clear hk hT
  rw [show wr ⟨14, 0, n, held⟩ kp = [27, 91] ++ digB (numOf 14 n) ++ heldB held ++ [126] from rfl]
  have HF := fun W (h : NumTab W) => writeNumber_any 14 n held kp hm h0 h7 W h
  generalize bs ([27, 91] ++ digB (numOf 14 n) ++ heldB held ++ [126]) = res at *
  unfold kyv at HC HF ⊢
  go_enter Tryd.func6, Tryd.ntmps6
  go_wp2_with (go_at_call 9; refine HC.mono ?_; rintro e W1 ⟨rfl, b1⟩)
  have z1 := held_block b1
  have k1 := kb.trans (b1.mono kb.size)
  clear b1 kb HC
  obtain ⟨⟨c0, c1, c2, c3⟩, _⟩ := four_cells z1
  have g0 := fun d os => cell_regrown c0 d os
  have g1 := fun d os => cell_regrown c1 d os
  have g2 := fun d os => cell_regrown c2 d os
  have g3 := fun d os => cell_regrown c3 d os
  have HWr := fun d os => Calls.regrown_of (writers_any (grow (redrawn W1 d) os))
  have hN1 := hN.below k1
  have HFr := fun d os => Calls.regrown_of (HF (grow (redrawn W1 d) os) (hN1.below (below_regrown W1 d os)))
  have hix := idx14
  clear HF c0 c1 c2 c3 z1
  refine wp_region_quiet_below (by kernel_rfl) (by kernel_rfl) ?_
  repeat (first | go_big_quiet_skip | quiet_step (first | (go_at_call 17; exact HWr _ _) | (go_at_call 37; exact HFr _ _)))
  refine wpQuiet_nil ?_
  intro _ hw'
  obtain ⟨⟨dq, os⟩, hw''⟩ := hw'
  subst hw''
  have kR := below_regrown W1 dq os
  have kw := k1.trans (kR.mono k1.size)
  clear g0 g1 g2 g3 HWr HFr kR
  generalize grow (redrawn W1 dq) os = V at *
  go_wp2_with fail
  go_ret2
  exact ⟨rfl, kw⟩
set_option maxHeartbeats 4000000 in
theorem write_15 (n held : Int) (kp : Bool) (w : World) (hT : Txt.Tab w) (hk : chk ⟨15, 0, n, held⟩ = true) (hm : (15, n) ∈ numKeys) (h0 : 0 ≤ held) (h7 : held ≤ 7) (hN : NumTab w) : Calls Tryd.prog 6 #[kyv ⟨15, 0, n, held⟩, .bool kp] w fun e w' => e = .returned (.tuple #[.string (bs (wr ⟨15, 0, n, held⟩ kp)), .int .i64 0]) ∧ Below w.heap.size w w' := by
  have kb : Below w.heap.size w (w.alloc (.cells #[.int .i64 15, .int .i32 0, .int .i64 n, .int .i64 held] 23)) := (Below.refl _ _).alloc (Nat.le_refl _) _
  have HC := check_any ⟨15, 0, n, held⟩ _ (Tab.alloc hT (.cells #[.int .i64 15, .int .i32 0, .int .i64 n, .int .i64 held] 23))
  rw [hk] at HC
  clear hk hT
  rw [show wr ⟨15, 0, n, held⟩ kp = [27, 91] ++ digB (numOf 15 n) ++ heldB held ++ [126] from rfl]
  have HF := fun W (h : NumTab W) => writeNumber_any 15 n held kp hm h0 h7 W h
  generalize bs ([27, 91] ++ digB (numOf 15 n) ++ heldB held ++ [126]) = res at *
  unfold kyv at HC HF ⊢
  go_enter Tryd.func6, Tryd.ntmps6
  go_wp2_with (go_at_call 9; refine HC.mono ?_; rintro e W1 ⟨rfl, b1⟩)
  have z1 := held_block b1
  have k1 := kb.trans (b1.mono kb.size)
  clear b1 kb HC
  obtain ⟨⟨c0, c1, c2, c3⟩, _⟩ := four_cells z1
  have g0 := fun d os => cell_regrown c0 d os
  have g1 := fun d os => cell_regrown c1 d os
  have g2 := fun d os => cell_regrown c2 d os
  have g3 := fun d os => cell_regrown c3 d os
  have HWr := fun d os => Calls.regrown_of (writers_any (grow (redrawn W1 d) os))
  have hN1 := hN.below k1
  have HFr := fun d os => Calls.regrown_of (HF (grow (redrawn W1 d) os) (hN1.below (below_regrown W1 d os)))
  have hix := idx15
  clear HF c0 c1 c2 c3 z1
  refine wp_region_quiet_below (by kernel_rfl) (by kernel_rfl) ?_
  repeat (first | go_big_quiet_skip | quiet_step (first | (go_at_call 17; exact HWr _ _) | (go_at_call 37; exact HFr _ _)))
  refine wpQuiet_nil ?_
  intro _ hw'
  obtain ⟨⟨dq, os⟩, hw''⟩ := hw'
  subst hw''
  have kR := below_regrown W1 dq os
  have kw := k1.trans (kR.mono k1.size)
  clear g0 g1 g2 g3 HWr HFr kR
  generalize grow (redrawn W1 dq) os = V at *
  go_wp2_with fail
  go_ret2
  exact ⟨rfl, kw⟩
set_option maxHeartbeats 4000000 in
theorem write_no (k : Ky) (kp : Bool) (w : World) (hT : Txt.Tab w) (hk : chk k = false) : Calls Tryd.prog 6 #[kyv k, .bool kp] w fun e w' => e = .returned (.tuple #[.string ⟨#[]⟩, .int .i64 5]) ∧ Below w.heap.size w w' := by
  have kb : Below w.heap.size w (w.alloc (.cells #[.int .i64 k.kind, .int .i32 k.r, .int .i64 k.n, .int .i64 k.held] 23)) := (Below.refl _ _).alloc (Nat.le_refl _) _
  have HC := check_any k _ (Tab.alloc hT (.cells #[.int .i64 k.kind, .int .i32 k.r, .int .i64 k.n, .int .i64 k.held] 23))
  rw [hk] at HC
  clear hk hT
  unfold kyv at HC ⊢
  go_enter Tryd.func6, Tryd.ntmps6
  go_wp2_with (go_at_call 9; refine HC.mono ?_; rintro e W1 ⟨rfl, b1⟩)
  go_ret2
  exact ⟨rfl, kb.trans (b1.mono kb.size)⟩
theorem plain_kinds : ∀ k ∈ plainKeys, 0 ≤ k.held ∧ k.held ≤ 7 ∧ k.r = 0 ∧ (k.kind = 2 ∧ (k.held = 0 ∨ k.held = 2) ∨ k.kind = 3 ∨ k.kind = 4 ∧ (k.held = 0 ∨ k.held = 2) ∨ k.kind = 5 ∨ k.kind = 6 ∨ k.kind = 7 ∨ k.kind = 8 ∨ k.kind = 9 ∨ k.kind = 10 ∨ k.kind = 11 ∨ (k.kind = 12 ∨ k.kind = 13 ∨ k.kind = 14 ∨ k.kind = 15) ∧ (k.kind, k.n) ∈ numKeys) := by decide +kernel
theorem ctrl_kinds : ∀ k ∈ ctrlKeys, k.kind = 1 ∧ (k.held = 4 ∨ k.held = 6) ∧ 97 ≤ k.r ∧ k.r ≤ 122 := by decide +kernel
theorem write_any (k : Ky) (kp : Bool) (w : World) (hT : Txt.Tab w) (hN : NumTab w) (hk : chk k = true) : Calls Tryd.prog 6 #[kyv k, .bool kp] w fun e w' => e = .returned (.tuple #[.string (bs (wr k kp)), .int .i64 0]) ∧ Below w.heap.size w w' := by
  rcases chk_cases k hk with h1 | ⟨h1, h2⟩ | ⟨h1, h2, h3, h4⟩
  · obtain ⟨h0, h7, hr, hc⟩ := plain_kinds k h1
    obtain ⟨kind, r, n, held⟩ := k
    simp only at h0 h7 hr hc
    subst hr
    rcases hc with ⟨rfl, hh⟩ | rfl | ⟨rfl, hh⟩ | rfl | rfl | rfl | rfl | rfl | rfl | rfl | ⟨rfl | rfl | rfl | rfl, hm⟩
    · exact write_2 0 n held kp w hT hk hh
    · exact write_3 0 n held kp w hT hk
    · exact write_4 0 n held kp w hT hk hh
    · exact write_5 0 n held kp w hT hk
    · exact write_6 0 n held kp w hT hk h0 h7
    · exact write_7 0 n held kp w hT hk h0 h7
    · exact write_8 0 n held kp w hT hk h0 h7
    · exact write_9 0 n held kp w hT hk h0 h7
    · exact write_10 0 n held kp w hT hk h0 h7
    · exact write_11 0 n held kp w hT hk h0 h7
    · exact write_12 n held kp w hT hk hm h0 h7 hN
    · exact write_13 n held kp w hT hk hm h0 h7 hN
    · exact write_14 n held kp w hT hk hm h0 h7 hN
    · exact write_15 n held kp w hT hk hm h0 h7 hN
  · obtain ⟨g1, g2, g3, g4⟩ := ctrl_kinds k h1
    obtain ⟨kind, r, n, held⟩ := k
    simp only at g1 g2 g3 g4
    subst g1
    exact write_1 r n held kp w hT hk (.inr (.inr ⟨g2, g3, g4⟩))
  · obtain ⟨kind, r, n, held⟩ := k
    simp only at h1 h4
    subst h1
    exact write_1 r n held kp w hT hk (by rcases h4 with h | h; exact .inl h; exact .inr (.inl h.1))
end Kys
end Go.Proofs.YtdmooeoklcjplaaDoor

/- Package keys: Read. -/
namespace Go.Proofs.YtdmooeoklcjplaaDoor
open Go.ChangeShapes Go.WideShapes Go.ChangeAt Go.RowKit
namespace Kys
open Txt (wd bs dec)
def kc (k : Ky) : List Value := [.int .i64 k.kind, .int .i32 k.r, .int .i64 k.n, .int .i64 k.held]
def flatK (ks : List Ky) : List Value := ks.flatMap kc
/-- A row of keys in a block of its own. -/
def OwnK (w : World) (base : Nat) (v : Value) (ks : List Ky) : Prop := w.ownsRow base 23 4 v ks.length (flatK ks)
theorem ownsRow_below {w w' : World} {base : Nat} {e : TypeId} {size : Nat} {v : Value} {n : Nat} {xs : List Value} (h : w.ownsRow base e size v n xs) (hb : Below w.heap.size w w') : w'.ownsRow base e size v n xs := by
  refine ⟨h.1, ?_⟩
  rcases h.2 with h2 | ⟨g, cap, cur, hv, hg, hh, r⟩
  · exact .inl h2
  · exact .inr ⟨g, cap, cur, hv, hg, by rw [hb.block g (Array.getElem?_eq_some_iff.1 hh).1]; exact hh, r⟩
theorem own_from {w : World} {base : Nat} {e : TypeId} {size : Nat} {v : Value} {n : Nat} {xs : List Value} (h : w.ownsRow base e size v n xs) : ∀ k, v.ownBlock = some k → base ≤ k := by
  intro k hk
  obtain ⟨_, h | ⟨q, cap, cur, rfl, hq, _⟩⟩ := h
  · rw [h.1] at hk; simp [Value.ownBlock] at hk
  · simp only [Value.ownBlock, Option.some.injEq] at hk; omega
theorem info_key : (Tryd.prog.info? 23).map (fun i => (i.zero, i.size, i.bytes)) = some (some (.agg #[.int .i64 0, .int .i32 0, .int .i64 0, .int .i64 0]), 4, 32) := by kernel_rfl
theorem und_keys : Tryd.prog.underlying 31 = some (.slice 23) := by kernel_rfl
theorem news_key (W : World) (a b c d : Value) : ∀ j u, [a, b, c, d][j]? = some u → (W.alloc (.cells #[a, b, c, d] 23)).cell? ((⟨W.heap.size, 0, none⟩ : Addr).add j) = some u := by
  intro j u hu
  have hc : ∀ i, (W.alloc (.cells #[a, b, c, d] 23)).cell? ⟨W.heap.size, i, none⟩ = #[a, b, c, d][i]? := fun i => by
    unfold World.cell?
    rw [heap_alloc_new]
    rfl
  rw [Addr.add_mid, hc]
  simpa using hu
theorem news_two (W : World) (o : Obj) (a b c d : Value) : ∀ j u, [a, b, c, d][j]? = some u → ((W.alloc o).alloc (.cells #[a, b, c, d] 23)).cell? ((⟨W.heap.size + 1, 0, none⟩ : Addr).add j) = some u := by
  have h := news_key (W.alloc o) a b c d
  rw [show (W.alloc o).heap.size = W.heap.size + 1 by simp] at h
  exact h
theorem flatK_snoc (ks : List Ky) (k : Ky) : flatK (ks ++ [k]) = flatK ks ++ kc k := by simp [flatK]
theorem ext_drop (t : ByteArray) (z : Nat) : (t.extract z t.size).data.toList = t.data.toList.drop z := by
  rw [toL_extract, List.take_of_length_le (by rw [Array.length_toList]; exact Nat.le_refl _)]
theorem size_l (t : ByteArray) : t.data.toList.length = t.size := Array.length_toList
set_option maxHeartbeats 8000000 in
set_option maxRecDepth 100000 in
theorem read_any (s : ByteArray) (last : Bool) (hs : s.size ≤ 4000) (w : World) (hE : Env w) : Calls Tryd.prog 11 #[.string s, .bool last] w fun e w' => ∃ v, e = .returned (.tuple #[v, .string (bs (rd s.data.toList last).2), .int .i64 0]) ∧ OwnK w' w.heap.size v (rd s.data.toList last).1 ∧ Below w.heap.size w w' := by
  obtain ⟨i0, hi, hzz⟩ := Option.map_eq_some_iff.1 info_key
  simp only [Prod.mk.injEq] at hzz
  obtain ⟨hz0, hz1, hz2⟩ := hzz
  have i4 : ¬ (4000 : Int) < (s.size : Int) := by omega
  have HEV : Hid (∀ W, Below w.heap.size w W → Env W) := fun W h => hE.below h
  obtain ⟨res, hres⟩ : ∃ res, rd s.data.toList last = res := ⟨_, rfl⟩
  rw [hres]
  have HR : Hid (rd s.data.toList last = res) := hres
  clear hres hE
  go_enter Tryd.func11, Tryd.ntmps11
  go_wp2_with fail
  go_loopg [0, 7] s.size (fun g v0 v7 wr => ∃ (t : ByteArray) (ks : List Ky), v0 = .string t ∧ t.size ≤ g ∧ t.size + ks.length ≤ s.size ∧ OwnK wr w.heap.size v7 ks ∧ Below w.heap.size w wr ∧ res = (ks ++ (rd t.data.toList last).1, (rd t.data.toList last).2))
  case atStart => exact ⟨s, [], rfl, Nat.le_refl _, by simp, World.ownsRow_nil _ _ _ _, Below.refl _ _, by rw [← HR.out]; rfl⟩
  case round =>
    obtain ⟨t, ks, rfl, hg, hlen, hown, hb, hq⟩ := hrel
    have HO : Hid (OwnK wr w.heap.size _ ks) := hown
    have HQ : Hid (res = (ks ++ (rd t.data.toList last).1, (rd t.data.toList last).2)) := hq
    clear hown hq
    have HCL := fun W => Txt.clone_any t W (by omega)
    by_cases ht : t.size = 0
    · have hl : t.data.toList = [] := List.length_eq_zero_iff.1 (by rw [size_l]; exact ht)
      have he : (t.toList == []) = true := by rw [beq_iff_eq, Lib.toList_data]; exact hl
      have e : res = (ks, []) := by rw [HQ.out, hl, rd_nil]; simp
      have HEM : Hid (t = bs []) := by unfold Hid; rw [← hl]; rfl
      subst e
      clear HQ hl ht
      go_wp2_with (go_at_call 25; refine (HCL _).mono ?_; rintro e W1 ⟨rfl, b1⟩)
      go_ret3
      refine ⟨_, ?_, ownsRow_below HO.out b1, hb.trans (b1.mono hb.size)⟩
      simp only
      rw [← HEM.out]
      rfl
    · have hne : t.data.toList ≠ [] := by intro h; have := congrArg List.length h; rw [size_l] at this; exact ht this
      have he : (t.toList == []) = false := by rw [beq_eq_false_iff_ne, Lib.toList_data]; exact hne
      have HF := first_any t last (by omega) ht wr (HEV.out wr hb)
      have hfl := first_le t.data.toList last hne
      rw [size_l] at hfl
      obtain ⟨ff, hff⟩ : ∃ ff, firstL t.data.toList last = ff := ⟨_, rfl⟩
      have HFF : Hid (firstL t.data.toList last = ff) := hff
      rw [hff] at HF hfl
      clear hff
      obtain ⟨⟨kd, rr, nn, hh⟩, z⟩ := ff
      unfold kyv at HF
      simp only at HF hfl
      have hfrom := own_from HO.out
      by_cases hz : z = 0
      · subst hz
        have e : res = (ks, t.data.toList) := by rw [HQ.out, rd_stop _ last hne (by rw [HFF.out])]; simp
        subst e
        clear HQ HFF
        go_wp2_with (first | (go_at_call 24; refine HF.mono ?_; rintro e W2 ⟨rfl, b2⟩) | (go_at_call 25; refine (HCL _).mono ?_; rintro e W1 ⟨rfl, b1⟩))
        go_ret3
        have k2 := hb.trans (b2.mono hb.size)
        have k3 := k2.alloc k2.size (.cells #[.int .i64 kd, .int .i32 rr, .int .i64 nn, .int .i64 hh] 23)
        exact ⟨_, rfl, ownsRow_below ((ownsRow_below HO.out b2).alloc _) b1, k3.trans (b1.mono k3.size)⟩
      · have iz : ((z : Int) == 0) = false := by rw [beq_eq_false_iff_ne]; omega
        have iz2 : (z : Int) ≤ (t.size : Int) := by omega
        have iz3 : (0 : Int) ≤ (z : Int) := by omega
        have e : res = (ks ++ [⟨kd, rr, nn, hh⟩] ++ (rd (t.data.toList.drop z) last).1, (rd (t.data.toList.drop z) last).2) := by
          rw [HQ.out, rd_go _ last hne (by rw [HFF.out]; exact hz), HFF.out]
          simp
        have HQ2 : Hid (res = (ks ++ [⟨kd, rr, nn, hh⟩] ++ (rd (t.data.toList.drop z) last).1, (rd (t.data.toList.drop z) last).2)) := e
        clear HQ HFF e HCL
        go_wp2_with (first | (go_at_call 24; refine HF.mono ?_; rintro e W2 ⟨rfl, b2⟩) | (at_builtin; refine wpList_append_own _ rfl _ _ 31 rfl w.heap.size 23 i0 (.agg #[.int .i64 0, .int .i32 0, .int .i64 0, .int .i64 0]) 4 32 und_keys hi hz0 hz1 hz2 rfl (by decide) _ _ _ rfl (((ownsRow_below HO.out b2).alloc _).alloc _) ⟨W2.heap.size + 1, 0, none⟩ 1 1 [.int .i64 kd, .int .i32 rr, .int .i64 nn, .int .i64 hh] rfl rfl (news_two _ _ _ _ _ _) (by intro u hu; simp at hu; rcases hu with rfl | rfl | rfl | rfl <;> rfl) (by unfold maxLen; omega) (by omega) (by simp; have := b2.size; have := hb.size; omega) ?_; intro v3 W3 hown3 hgrow hnil))
        have k2 := hb.trans (b2.mono hb.size)
        have k3 := k2.alloc k2.size (.cells #[.int .i64 kd, .int .i32 rr, .int .i64 nn, .int .i64 hh] 23)
        have k4 := k3.alloc k3.size (.cells #[.int .i64 kd, .int .i32 rr, .int .i64 nn, .int .i64 hh] 23)
        go_roundg (t.size - z)
        case measure => omega
        case rel =>
          refine ⟨t.extract z t.size, ks ++ [⟨kd, rr, nn, hh⟩], rfl, ?_, ?_, ?_, k4.grown hgrow k4.size (fun q hq => hfrom q hq), ?_⟩
          · rw [ByteArray.size_extract]; omega
          · rw [ByteArray.size_extract, List.length_append, List.length_singleton]; omega
          · unfold OwnK
            rw [List.length_append, List.length_singleton, flatK_snoc]
            exact hown3
          · rw [HQ2.out, ext_drop]
end Kys
end Go.Proofs.YtdmooeoklcjplaaDoor
