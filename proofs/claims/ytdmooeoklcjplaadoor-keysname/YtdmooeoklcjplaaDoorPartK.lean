/- The reference's IsKey, the rest. (Written by gen_keysrefi.py.) -/
import Derived.Test.YtdmooeoklcjplaaDoorPartJ
import Derived.Test.YtdmooeoklcjplaaDoorPartG
import Derived.Laws.AppendOwn
import Derived.Laws.OwnMore
import Derived.Maps.AppendAt
import Derived.Deep.LoopGhost
import Derived.Test.YtdmooeoklcjplaaDoorPartI
import Derived.BigQuiet
import Derived.Test.YtdmooeoklcjplaaDoorPartH
import Derived.Lib.LaidU8
namespace Go.Proofs.YtdmooeoklcjplaaDoor
open Go.ChangeShapes Go.WideShapes Go.ChangeAt Go.RowKit Go.Maps
namespace Kys
open Txt (wd bs)
set_option maxHeartbeats 4000000 in
set_option maxRecDepth 100000 in
theorem isKey_2 (held : Int) (w : World) (hk : Wf ⟨2, 0, 0, held⟩) (h0 : 0 ≤ held) (h7 : held ≤ 7) :
    Calls Tryd.prog 7 #[kyv ⟨2, 0, 0, held⟩] w fun e w' => e = .returned (.bool (decide (held = 0 ∨ held = 2))) ∧ Below w.heap.size w w' := by
  have HL := fun (W : World) (b : Nat) (h : SeqAt W b seqT) => sq_run h 2 0 0 (wf_bare hk)
  rw [show sq ⟨2, 0, 0, 0⟩ = [] from sq_no _ (fun h => by unfold isSq at h; simp only at h; omega), show bs ([] : List UInt8) = ⟨#[]⟩ from rfl] at HL
  clear hk
  have hd0 : ¬ held < 0 := by omega
  have hd7 : ¬ 7 < held := by omega
  unfold kyv
  go_enter Tryd.func7, Tryd.ntmps7
  go_upto_region 5 with fail
  obtain ⟨kb0, z0, z1⟩ := two_blocks w #[.int .i64 2, .int .i32 0, .int .i64 0, .int .i64 held] #[.int .i64 2, .int .i32 0, .int .i64 0, .int .i64 0] 23
  generalize (w.alloc (.cells #[.int .i64 2, .int .i32 0, .int .i64 0, .int .i64 held] 23)).alloc (.cells #[.int .i64 2, .int .i32 0, .int .i64 0, .int .i64 0] 23) = W0 at *
  obtain ⟨⟨c0, c1, c2, c3⟩, _⟩ := four_cells z1
  go_region_with (go_at_call 18; refine (sequences_any _).mono ?_; rintro e W1 ⟨rfl, hS, hB, hlt⟩; have y0 := by_drew z1 hB; obtain ⟨⟨d0, d1, d2, d3⟩, _⟩ := four_cells y0; have hl := HL W1 W0.heap.size hS)
  all_goals have zz := by_drew z0 hB
  all_goals obtain ⟨⟨e0, e1, e2, e3⟩, _⟩ := four_cells zz
  all_goals have kb1 := below_drew kb0 hB
  all_goals clear c0 c1 c2 c3 d0 d1 d2 d3 hS hB hlt HL y0 z0 z1 hl kb0
  all_goals go_wp2_with fail
  all_goals go_ret
  all_goals refine ⟨ret_bool ?_, kb1⟩
  all_goals clear e0 e1 e2 e3 zz kb1
  all_goals (by_cases q0 : held = 0 <;> by_cases q2 : held = 2 <;> by_cases q1 : held = 1 <;> simp_all)
set_option maxHeartbeats 4000000 in
set_option maxRecDepth 100000 in
theorem isKey_3 (held : Int) (w : World) (hk : Wf ⟨3, 0, 0, held⟩) (h0 : 0 ≤ held) (h7 : held ≤ 7) :
    Calls Tryd.prog 7 #[kyv ⟨3, 0, 0, held⟩] w fun e w' => e = .returned (.bool (decide (held = 0 ∨ held = 1))) ∧ Below w.heap.size w w' := by
  have HL := fun (W : World) (b : Nat) (h : SeqAt W b seqT) => sq_run h 3 0 0 (wf_bare hk)
  rw [show sq ⟨3, 0, 0, 0⟩ = [] from sq_no _ (fun h => by unfold isSq at h; simp only at h; omega), show bs ([] : List UInt8) = ⟨#[]⟩ from rfl] at HL
  clear hk
  have hd0 : ¬ held < 0 := by omega
  have hd7 : ¬ 7 < held := by omega
  unfold kyv
  go_enter Tryd.func7, Tryd.ntmps7
  go_upto_region 5 with fail
  obtain ⟨kb0, z0, z1⟩ := two_blocks w #[.int .i64 3, .int .i32 0, .int .i64 0, .int .i64 held] #[.int .i64 3, .int .i32 0, .int .i64 0, .int .i64 0] 23
  generalize (w.alloc (.cells #[.int .i64 3, .int .i32 0, .int .i64 0, .int .i64 held] 23)).alloc (.cells #[.int .i64 3, .int .i32 0, .int .i64 0, .int .i64 0] 23) = W0 at *
  obtain ⟨⟨c0, c1, c2, c3⟩, _⟩ := four_cells z1
  go_region_with (go_at_call 18; refine (sequences_any _).mono ?_; rintro e W1 ⟨rfl, hS, hB, hlt⟩; have y0 := by_drew z1 hB; obtain ⟨⟨d0, d1, d2, d3⟩, _⟩ := four_cells y0; have hl := HL W1 W0.heap.size hS)
  all_goals have zz := by_drew z0 hB
  all_goals obtain ⟨⟨e0, e1, e2, e3⟩, _⟩ := four_cells zz
  all_goals have kb1 := below_drew kb0 hB
  all_goals clear c0 c1 c2 c3 d0 d1 d2 d3 hS hB hlt HL y0 z0 z1 hl kb0
  all_goals go_wp2_with fail
  all_goals go_ret
  all_goals refine ⟨ret_bool ?_, kb1⟩
  all_goals clear e0 e1 e2 e3 zz kb1
  all_goals (by_cases q0 : held = 0 <;> by_cases q2 : held = 2 <;> by_cases q1 : held = 1 <;> simp_all)
set_option maxHeartbeats 4000000 in
set_option maxRecDepth 100000 in
theorem isKey_4 (held : Int) (w : World) (hk : Wf ⟨4, 0, 0, held⟩) (h0 : 0 ≤ held) (h7 : held ≤ 7) :
    Calls Tryd.prog 7 #[kyv ⟨4, 0, 0, held⟩] w fun e w' => e = .returned (.bool (decide (held = 0 ∨ held = 2))) ∧ Below w.heap.size w w' := by
  have HL := fun (W : World) (b : Nat) (h : SeqAt W b seqT) => sq_run h 4 0 0 (wf_bare hk)
  rw [show sq ⟨4, 0, 0, 0⟩ = [] from sq_no _ (fun h => by unfold isSq at h; simp only at h; omega), show bs ([] : List UInt8) = ⟨#[]⟩ from rfl] at HL
  clear hk
  have hd0 : ¬ held < 0 := by omega
  have hd7 : ¬ 7 < held := by omega
  unfold kyv
  go_enter Tryd.func7, Tryd.ntmps7
  go_upto_region 5 with fail
  obtain ⟨kb0, z0, z1⟩ := two_blocks w #[.int .i64 4, .int .i32 0, .int .i64 0, .int .i64 held] #[.int .i64 4, .int .i32 0, .int .i64 0, .int .i64 0] 23
  generalize (w.alloc (.cells #[.int .i64 4, .int .i32 0, .int .i64 0, .int .i64 held] 23)).alloc (.cells #[.int .i64 4, .int .i32 0, .int .i64 0, .int .i64 0] 23) = W0 at *
  obtain ⟨⟨c0, c1, c2, c3⟩, _⟩ := four_cells z1
  go_region_with (go_at_call 18; refine (sequences_any _).mono ?_; rintro e W1 ⟨rfl, hS, hB, hlt⟩; have y0 := by_drew z1 hB; obtain ⟨⟨d0, d1, d2, d3⟩, _⟩ := four_cells y0; have hl := HL W1 W0.heap.size hS)
  all_goals have zz := by_drew z0 hB
  all_goals obtain ⟨⟨e0, e1, e2, e3⟩, _⟩ := four_cells zz
  all_goals have kb1 := below_drew kb0 hB
  all_goals clear c0 c1 c2 c3 d0 d1 d2 d3 hS hB hlt HL y0 z0 z1 hl kb0
  all_goals go_wp2_with fail
  all_goals go_ret
  all_goals refine ⟨ret_bool ?_, kb1⟩
  all_goals clear e0 e1 e2 e3 zz kb1
  all_goals (by_cases q0 : held = 0 <;> by_cases q2 : held = 2 <;> by_cases q1 : held = 1 <;> simp_all)
set_option maxHeartbeats 4000000 in
set_option maxRecDepth 100000 in
theorem isKey_5 (held : Int) (w : World) (hk : Wf ⟨5, 0, 0, held⟩) (h0 : 0 ≤ held) (h7 : held ≤ 7) :
    Calls Tryd.prog 7 #[kyv ⟨5, 0, 0, held⟩] w fun e w' => e = .returned (.bool (decide (held = 0))) ∧ Below w.heap.size w w' := by
  have HL := fun (W : World) (b : Nat) (h : SeqAt W b seqT) => sq_run h 5 0 0 (wf_bare hk)
  rw [show sq ⟨5, 0, 0, 0⟩ = [] from sq_no _ (fun h => by unfold isSq at h; simp only at h; omega), show bs ([] : List UInt8) = ⟨#[]⟩ from rfl] at HL
  clear hk
  have hd0 : ¬ held < 0 := by omega
  have hd7 : ¬ 7 < held := by omega
  unfold kyv
  go_enter Tryd.func7, Tryd.ntmps7
  go_upto_region 5 with fail
  obtain ⟨kb0, z0, z1⟩ := two_blocks w #[.int .i64 5, .int .i32 0, .int .i64 0, .int .i64 held] #[.int .i64 5, .int .i32 0, .int .i64 0, .int .i64 0] 23
  generalize (w.alloc (.cells #[.int .i64 5, .int .i32 0, .int .i64 0, .int .i64 held] 23)).alloc (.cells #[.int .i64 5, .int .i32 0, .int .i64 0, .int .i64 0] 23) = W0 at *
  obtain ⟨⟨c0, c1, c2, c3⟩, _⟩ := four_cells z1
  go_region_with (go_at_call 18; refine (sequences_any _).mono ?_; rintro e W1 ⟨rfl, hS, hB, hlt⟩; have y0 := by_drew z1 hB; obtain ⟨⟨d0, d1, d2, d3⟩, _⟩ := four_cells y0; have hl := HL W1 W0.heap.size hS)
  all_goals have zz := by_drew z0 hB
  all_goals obtain ⟨⟨e0, e1, e2, e3⟩, _⟩ := four_cells zz
  all_goals have kb1 := below_drew kb0 hB
  all_goals clear c0 c1 c2 c3 d0 d1 d2 d3 hS hB hlt HL y0 z0 z1 hl kb0
  all_goals go_wp2_with fail
  all_goals go_ret
  all_goals refine ⟨ret_bool ?_, kb1⟩
  all_goals clear e0 e1 e2 e3 zz kb1
  all_goals (by_cases q0 : held = 0 <;> by_cases q2 : held = 2 <;> by_cases q1 : held = 1 <;> simp_all)
set_option maxHeartbeats 4000000 in
set_option maxRecDepth 100000 in
theorem isKey_else (kind held : Int) (w : World) (hk : Wf ⟨kind, 0, 0, held⟩) (h0 : 0 ≤ held) (h7 : held ≤ 7) (hs : ¬ isSq ⟨kind, 0, 0, held⟩) (hc : ¬ (1 ≤ kind ∧ kind ≤ 5)) :
    Calls Tryd.prog 7 #[kyv ⟨kind, 0, 0, held⟩] w fun e w' => e = .returned (.bool false) ∧ Below w.heap.size w w' := by
  have HL := fun (W : World) (b : Nat) (h : SeqAt W b seqT) => sq_run h kind 0 0 (wf_bare hk)
  rw [show sq ⟨kind, 0, 0, 0⟩ = [] from sq_no _ (fun h => hs h), show bs ([] : List UInt8) = ⟨#[]⟩ from rfl] at HL
  clear hk
  have hd0 : ¬ held < 0 := by omega
  have hd7 : ¬ 7 < held := by omega
  have hn : ∀ j : Nat, 1 ≤ j → j ≤ 5 → (kind == (j : Int)) = false := fun j h1 h2 => by simp; omega
  have n1 := hn 1 (by omega) (by omega)
  have n2 := hn 2 (by omega) (by omega)
  have n3 := hn 3 (by omega) (by omega)
  have n4 := hn 4 (by omega) (by omega)
  have n5 := hn 5 (by omega) (by omega)
  clear hn hs hc
  unfold kyv
  go_enter Tryd.func7, Tryd.ntmps7
  go_upto_region 5 with fail
  obtain ⟨kb0, z0, z1⟩ := two_blocks w #[.int .i64 kind, .int .i32 0, .int .i64 0, .int .i64 held] #[.int .i64 kind, .int .i32 0, .int .i64 0, .int .i64 0] 23
  generalize (w.alloc (.cells #[.int .i64 kind, .int .i32 0, .int .i64 0, .int .i64 held] 23)).alloc (.cells #[.int .i64 kind, .int .i32 0, .int .i64 0, .int .i64 0] 23) = W0 at *
  obtain ⟨⟨c0, c1, c2, c3⟩, _⟩ := four_cells z1
  go_region_with (go_at_call 18; refine (sequences_any _).mono ?_; rintro e W1 ⟨rfl, hS, hB, hlt⟩; have y0 := by_drew z1 hB; obtain ⟨⟨d0, d1, d2, d3⟩, _⟩ := four_cells y0; have hl := HL W1 W0.heap.size hS)
  all_goals have zz := by_drew z0 hB
  all_goals obtain ⟨⟨e0, e1, e2, e3⟩, _⟩ := four_cells zz
  all_goals have kb1 := below_drew kb0 hB
  all_goals clear c0 c1 c2 c3 d0 d1 d2 d3 hS hB hlt HL y0 z0 z1 hl kb0
  all_goals go_wp2_with fail
  all_goals go_ret
  all_goals exact ⟨rfl, kb1⟩
theorem isKey_any (k : Ky) (w : World) (hk : Wf k) : Calls Tryd.prog 7 #[kyv k] w fun e w' => e = .returned (.bool (chk k)) ∧ Below w.heap.size w w' := by
  obtain ⟨kind, r, n, held⟩ := k
  by_cases h0 : held < 0
  · rw [chk_out ⟨kind, r, n, held⟩ (.inl h0)]
    exact isKey_low kind r n held w h0
  by_cases h7 : 7 < held
  · rw [chk_out ⟨kind, r, n, held⟩ (.inr h7)]
    exact isKey_high kind r n held w h7
  by_cases hs : isSq ⟨kind, r, n, held⟩
  · rw [chk_sq _ hs (by show (0 : Int) ≤ held; omega) (by show held ≤ 7; omega)]
    exact isKey_sq kind r n held w hk (by omega) (by omega) hs
  by_cases hn : n ≠ 0
  · rw [chk_no1 _ hs (.inl hn)]
    exact isKey_n kind r n held w hk (by omega) (by omega) hs hn
  replace hn : n = 0 := by omega
  subst hn
  by_cases h1 : kind = 1
  · subst h1
    have hc : chk ⟨1, r, 0, held⟩ = chkR ⟨1, r, 0, held⟩ := by
      unfold chk
      simp only
      rw [if_neg (by omega), if_pos (by simp)]
    rw [hc]
    have h8 : held = 0 ∨ held = 1 ∨ held = 2 ∨ held = 3 ∨ held = 4 ∨ held = 5 ∨ held = 6 ∨ held = 7 := by omega
    unfold chkR
    simp only
    rcases h8 with rfl | rfl | rfl | rfl | rfl | rfl | rfl | rfl
    · rw [if_neg (by omega), if_pos (by omega)]
      by_cases hw : wd r = 0
      · rw [hw]; exact isKey_1_0a r w hk hw
      · rw [decide_eq_true hw]; exact isKey_1_0b r w hk hw
    · rw [if_neg (by omega), if_neg (by omega)]; exact isKey_1_1 r w hk
    · rw [if_neg (by omega)]
      by_cases ha : r = 91
      · subst ha; rw [if_neg (by omega)]; exact isKey_1_2_91 w hk
      by_cases hb : r = 79
      · subst hb; rw [if_neg (by omega)]; exact isKey_1_2_79 w hk
      rw [if_pos (by omega)]
      by_cases hw : wd r = 0
      · rw [hw]; exact isKey_1_2a r w hk hw
      · rw [decide_eq_true hw]; exact isKey_1_2b r w hk hw ha hb
    · rw [if_neg (by omega), if_neg (by omega)]; exact isKey_1_3 r w hk
    · rw [if_pos (by omega)]
      by_cases ha : r < 97
      · rw [decide_eq_false (by omega)]; exact isKey_1_4_a r w hk ha
      by_cases hb : 122 < r
      · rw [decide_eq_false (by omega)]; exact isKey_1_4_b r w hk hb
      rw [show (decide (97 ≤ r ∧ r ≤ 122 ∧ r ≠ 104 ∧ r ≠ 105 ∧ r ≠ 109)) = (!decide (r = 104 ∨ r = 105 ∨ r = 109)) by rw [← decide_not]; exact decide_eq_decide.2 (by omega)]
      exact isKey_1_4_c r w hk (by omega) (by omega)
    · rw [if_neg (by omega), if_neg (by omega)]; exact isKey_1_5 r w hk
    · rw [if_pos (by omega)]
      by_cases ha : r < 97
      · rw [decide_eq_false (by omega)]; exact isKey_1_6_a r w hk ha
      by_cases hb : 122 < r
      · rw [decide_eq_false (by omega)]; exact isKey_1_6_b r w hk hb
      rw [show (decide (97 ≤ r ∧ r ≤ 122 ∧ r ≠ 104 ∧ r ≠ 105 ∧ r ≠ 109)) = (!decide (r = 104 ∨ r = 105 ∨ r = 109)) by rw [← decide_not]; exact decide_eq_decide.2 (by omega)]
      exact isKey_1_6_c r w hk (by omega) (by omega)
    · rw [if_neg (by omega), if_neg (by omega)]; exact isKey_1_7 r w hk
  by_cases hr : r ≠ 0
  · rw [chk_no1 _ hs (.inr ⟨h1, hr⟩)]
    exact isKey_r kind r held w hk (by omega) (by omega) h1 hr
  replace hr : r = 0 := by omega
  subst hr
  by_cases hc : ¬ (1 ≤ kind ∧ kind ≤ 5)
  · rw [chk_else _ hs rfl (.inr rfl) (by show (0 : Int) ≤ held; omega) (by show held ≤ 7; omega) hc]
    exact isKey_else kind held w hk (by omega) (by omega) hs hc
  have h5 : kind = 2 ∨ kind = 3 ∨ kind = 4 ∨ kind = 5 := by omega
  rcases h5 with rfl | rfl | rfl | rfl
  · rw [show chk ⟨2, 0, 0, held⟩ = decide (held = 0 ∨ held = 2) by unfold chk; simp only; rw [if_neg (by omega), if_neg (by omega), if_pos (by simp)]]
    exact isKey_2 held w hk (by omega) (by omega)
  · rw [show chk ⟨3, 0, 0, held⟩ = decide (held = 0 ∨ held = 1) by unfold chk; simp only; rw [if_neg (by omega), if_neg (by omega), if_neg (by omega), if_pos (by simp)]]
    exact isKey_3 held w hk (by omega) (by omega)
  · rw [show chk ⟨4, 0, 0, held⟩ = decide (held = 0 ∨ held = 2) by unfold chk; simp only; rw [if_neg (by omega), if_neg (by omega), if_pos (by simp)]]
    exact isKey_4 held w hk (by omega) (by omega)
  · rw [show chk ⟨5, 0, 0, held⟩ = decide (held = 0) by unfold chk; simp only; rw [if_neg (by omega), if_neg (by omega), if_neg (by omega), if_neg (by omega), if_pos (by simp)]]
    exact isKey_5 held w hk (by omega) (by omega)
end Kys
end Go.Proofs.YtdmooeoklcjplaaDoor

/- Package keys: Read. -/
namespace Go.Proofs.YtdmooeoklcjplaaDoor
open Go.ChangeShapes Go.WideShapes Go.ChangeAt Go.RowKit
namespace Kys
open Txt (wd bs dec)
def kc (k : Ky) : List Value := [.int .i64 k.kind, .int .i32 k.r, .int .i64 k.n, .int .i64 k.held]
def flatK (ks : List Ky) : List Value := ks.flatMap kc
/-- A row of keys in a block of its own. -/
def OwnK (w : World) (base : Nat) (v : Value) (ks : List Ky) : Prop := w.ownsRow base 23 4 v ks.length (flatK ks)
theorem ownsRow_below {w w' : World} {base : Nat} {e : TypeId} {size : Nat} {v : Value} {n : Nat} {xs : List Value} (h : w.ownsRow base e size v n xs) (hb : Below w.heap.size w w') : w'.ownsRow base e size v n xs := by
  refine ⟨h.1, ?_⟩
  rcases h.2 with h2 | ⟨g, cap, cur, hv, hg, hh, r⟩
  · exact .inl h2
  · exact .inr ⟨g, cap, cur, hv, hg, by rw [hb.block g (Array.getElem?_eq_some_iff.1 hh).1]; exact hh, r⟩
theorem own_from {w : World} {base : Nat} {e : TypeId} {size : Nat} {v : Value} {n : Nat} {xs : List Value} (h : w.ownsRow base e size v n xs) : ∀ k, v.ownBlock = some k → base ≤ k := by
  intro k hk
  obtain ⟨_, h | ⟨q, cap, cur, rfl, hq, _⟩⟩ := h
  · rw [h.1] at hk; simp [Value.ownBlock] at hk
  · simp only [Value.ownBlock, Option.some.injEq] at hk; omega
theorem info_key : (Tryd.prog.info? 23).map (fun i => (i.zero, i.size, i.bytes)) = some (some (.agg #[.int .i64 0, .int .i32 0, .int .i64 0, .int .i64 0]), 4, 32) := by kernel_rfl
theorem und_keys : Tryd.prog.underlying 31 = some (.slice 23) := by kernel_rfl
theorem news_key (W : World) (a b c d : Value) : ∀ j u, [a, b, c, d][j]? = some u → (W.alloc (.cells #[a, b, c, d] 23)).cell? ((⟨W.heap.size, 0, none⟩ : Addr).add j) = some u := by
  intro j u hu
  have hc : ∀ i, (W.alloc (.cells #[a, b, c, d] 23)).cell? ⟨W.heap.size, i, none⟩ = #[a, b, c, d][i]? := fun i => by
    unfold World.cell?
    rw [heap_alloc_new]
    rfl
  rw [Addr.add_mid, hc]
  simpa using hu
theorem news_two (W : World) (o : Obj) (a b c d : Value) : ∀ j u, [a, b, c, d][j]? = some u → ((W.alloc o).alloc (.cells #[a, b, c, d] 23)).cell? ((⟨W.heap.size + 1, 0, none⟩ : Addr).add j) = some u := by
  have h := news_key (W.alloc o) a b c d
  rw [show (W.alloc o).heap.size = W.heap.size + 1 by simp] at h
  exact h
theorem flatK_snoc (ks : List Ky) (k : Ky) : flatK (ks ++ [k]) = flatK ks ++ kc k := by simp [flatK]
theorem ext_drop (t : ByteArray) (z : Nat) : (t.extract z t.size).data.toList = t.data.toList.drop z := by
  rw [toL_extract, List.take_of_length_le (by rw [Array.length_toList]; exact Nat.le_refl _)]
theorem size_l (t : ByteArray) : t.data.toList.length = t.size := Array.length_toList
set_option maxHeartbeats 8000000 in
set_option maxRecDepth 100000 in
theorem read_any (s : ByteArray) (last : Bool) (hs : s.size ≤ 4000) (w : World) (hE : Env w) : Calls Tryd.prog 11 #[.string s, .bool last] w fun e w' => ∃ v, e = .returned (.tuple #[v, .string (bs (rd s.data.toList last).2), .int .i64 0]) ∧ OwnK w' w.heap.size v (rd s.data.toList last).1 ∧ Below w.heap.size w w' := by
  obtain ⟨i0, hi, hzz⟩ := Option.map_eq_some_iff.1 info_key
  simp only [Prod.mk.injEq] at hzz
  obtain ⟨hz0, hz1, hz2⟩ := hzz
  have i4 : ¬ (4000 : Int) < (s.size : Int) := by omega
  have HEV : Hid (∀ W, Below w.heap.size w W → Env W) := fun W h => hE.below h
  obtain ⟨res, hres⟩ : ∃ res, rd s.data.toList last = res := ⟨_, rfl⟩
  rw [hres]
  have HR : Hid (rd s.data.toList last = res) := hres
  clear hres hE
  go_enter Tryd.func11, Tryd.ntmps11
  go_wp2_with fail
  go_loopg [0, 7] s.size (fun g v0 v7 wr => ∃ (t : ByteArray) (ks : List Ky), v0 = .string t ∧ t.size ≤ g ∧ t.size + ks.length ≤ s.size ∧ OwnK wr w.heap.size v7 ks ∧ Below w.heap.size w wr ∧ res = (ks ++ (rd t.data.toList last).1, (rd t.data.toList last).2))
  case atStart => exact ⟨s, [], rfl, Nat.le_refl _, by simp, World.ownsRow_nil _ _ _ _, Below.refl _ _, by rw [← HR.out]; rfl⟩
  case round =>
    obtain ⟨t, ks, rfl, hg, hlen, hown, hb, hq⟩ := hrel
    have HO : Hid (OwnK wr w.heap.size _ ks) := hown
    have HQ : Hid (res = (ks ++ (rd t.data.toList last).1, (rd t.data.toList last).2)) := hq
    clear hown hq
    have HCL := fun W => Txt.clone_any t W (by omega)
    by_cases ht : t.size = 0
    · have hl : t.data.toList = [] := List.length_eq_zero_iff.1 (by rw [size_l]; exact ht)
      have he : (t.toList == []) = true := by rw [beq_iff_eq, Lib.toList_data]; exact hl
      have e : res = (ks, []) := by rw [HQ.out, hl, rd_nil]; simp
      have HEM : Hid (t = bs []) := by unfold Hid; rw [← hl]; rfl
      subst e
      clear HQ hl ht
      go_wp2_with (go_at_call 25; refine (HCL _).mono ?_; rintro e W1 ⟨rfl, b1⟩)
      go_ret3
      refine ⟨_, ?_, ownsRow_below HO.out b1, hb.trans (b1.mono hb.size)⟩
      simp only
      rw [← HEM.out]
      rfl
    · have hne : t.data.toList ≠ [] := by intro h; have := congrArg List.length h; rw [size_l] at this; exact ht this
      have he : (t.toList == []) = false := by rw [beq_eq_false_iff_ne, Lib.toList_data]; exact hne
      have HF := first_any t last (by omega) ht wr (HEV.out wr hb)
      have hfl := first_le t.data.toList last hne
      rw [size_l] at hfl
      obtain ⟨ff, hff⟩ : ∃ ff, firstL t.data.toList last = ff := ⟨_, rfl⟩
      have HFF : Hid (firstL t.data.toList last = ff) := hff
      rw [hff] at HF hfl
      clear hff
      obtain ⟨⟨kd, rr, nn, hh⟩, z⟩ := ff
      unfold kyv at HF
      simp only at HF hfl
      have hfrom := own_from HO.out
      by_cases hz : z = 0
      · subst hz
        have e : res = (ks, t.data.toList) := by rw [HQ.out, rd_stop _ last hne (by rw [HFF.out])]; simp
        subst e
        clear HQ HFF
        go_wp2_with (first | (go_at_call 24; refine HF.mono ?_; rintro e W2 ⟨rfl, b2⟩) | (go_at_call 25; refine (HCL _).mono ?_; rintro e W1 ⟨rfl, b1⟩))
        go_ret3
        have k2 := hb.trans (b2.mono hb.size)
        have k3 := k2.alloc k2.size (.cells #[.int .i64 kd, .int .i32 rr, .int .i64 nn, .int .i64 hh] 23)
        exact ⟨_, rfl, ownsRow_below ((ownsRow_below HO.out b2).alloc _) b1, k3.trans (b1.mono k3.size)⟩
      · have iz : ((z : Int) == 0) = false := by rw [beq_eq_false_iff_ne]; omega
        have iz2 : (z : Int) ≤ (t.size : Int) := by omega
        have iz3 : (0 : Int) ≤ (z : Int) := by omega
        have e : res = (ks ++ [⟨kd, rr, nn, hh⟩] ++ (rd (t.data.toList.drop z) last).1, (rd (t.data.toList.drop z) last).2) := by
          rw [HQ.out, rd_go _ last hne (by rw [HFF.out]; exact hz), HFF.out]
          simp
        have HQ2 : Hid (res = (ks ++ [⟨kd, rr, nn, hh⟩] ++ (rd (t.data.toList.drop z) last).1, (rd (t.data.toList.drop z) last).2)) := e
        clear HQ HFF e HCL
        go_wp2_with (first | (go_at_call 24; refine HF.mono ?_; rintro e W2 ⟨rfl, b2⟩) | (at_builtin; refine wpList_append_own _ rfl _ _ 31 rfl w.heap.size 23 i0 (.agg #[.int .i64 0, .int .i32 0, .int .i64 0, .int .i64 0]) 4 32 und_keys hi hz0 hz1 hz2 rfl (by decide) _ _ _ rfl (((ownsRow_below HO.out b2).alloc _).alloc _) ⟨W2.heap.size + 1, 0, none⟩ 1 1 [.int .i64 kd, .int .i32 rr, .int .i64 nn, .int .i64 hh] rfl rfl (news_two _ _ _ _ _ _) (by intro u hu; simp at hu; rcases hu with rfl | rfl | rfl | rfl <;> rfl) (by unfold maxLen; omega) (by omega) (by simp; have := b2.size; have := hb.size; omega) ?_; intro v3 W3 hown3 hgrow hnil))
        have k2 := hb.trans (b2.mono hb.size)
        have k3 := k2.alloc k2.size (.cells #[.int .i64 kd, .int .i32 rr, .int .i64 nn, .int .i64 hh] 23)
        have k4 := k3.alloc k3.size (.cells #[.int .i64 kd, .int .i32 rr, .int .i64 nn, .int .i64 hh] 23)
        go_roundg (t.size - z)
        case measure => omega
        case rel =>
          refine ⟨t.extract z t.size, ks ++ [⟨kd, rr, nn, hh⟩], rfl, ?_, ?_, ?_, k4.grown hgrow k4.size (fun q hq => hfrom q hq), ?_⟩
          · rw [ByteArray.size_extract]; omega
          · rw [ByteArray.size_extract, List.length_append, List.length_singleton]; omega
          · unfold OwnK
            rw [List.length_append, List.length_singleton, flatK_snoc]
            exact hown3
          · rw [HQ2.out, ext_drop]
end Kys
end Go.Proofs.YtdmooeoklcjplaaDoor

/- Package keys: bareKey. -/
namespace Go.Proofs.YtdmooeoklcjplaaDoor
open Go.ChangeShapes Go.WideShapes Go.ChangeAt Go.RowKit
namespace Kys
open Txt (wd bs dec)
theorem name_idx (i : Nat) (hi : i < 15) (wr : World) : (Instr.index 75 (.agg nameCells) (.int .i64 (i : Int))).run Tryd.prog wr = .ok (.string (bs (namesL.getD i []))) wr := by
  have : i = 0 ∨ i = 1 ∨ i = 2 ∨ i = 3 ∨ i = 4 ∨ i = 5 ∨ i = 6 ∨ i = 7 ∨ i = 8 ∨ i = 9 ∨ i = 10 ∨ i = 11 ∨ i = 12 ∨ i = 13 ∨ i = 14 := by omega
  rcases this with rfl | rfl | rfl | rfl | rfl | rfl | rfl | rfl | rfl | rfl | rfl | rfl | rfl | rfl | rfl <;> (show (_ : Result Value) = _; kernel_rfl)
theorem place_step (l : List UInt8) (i : Nat) (hi : i < 15) : place l (namesL.drop i) i = if namesL.getD i [] = l then some i else place l (namesL.drop (i + 1)) (i + 1) := by
  have : i = 0 ∨ i = 1 ∨ i = 2 ∨ i = 3 ∨ i = 4 ∨ i = 5 ∨ i = 6 ∨ i = 7 ∨ i = 8 ∨ i = 9 ∨ i = 10 ∨ i = 11 ∨ i = 12 ∨ i = 13 ∨ i = 14 := by omega
  rcases this with rfl | rfl | rfl | rfl | rfl | rfl | rfl | rfl | rfl | rfl | rfl | rfl | rfl | rfl | rfl <;> rfl
theorem str_beq (x : List UInt8) (s : ByteArray) : ((bs x).toList == s.toList) = decide (x = s.data.toList) := by
  rw [Lib.toList_data, Lib.toList_data, bs_list]
  by_cases h : x = s.data.toList
  · rw [decide_eq_true h, beq_iff_eq]; exact h
  · rw [decide_eq_false h, beq_eq_false_iff_ne]; exact h
theorem str_beq2 (x : List UInt8) (s : ByteArray) : (s.toList == (bs x).toList) = decide (s.data.toList = x) := by
  rw [Lib.toList_data, Lib.toList_data, bs_list]
  by_cases h : s.data.toList = x
  · rw [decide_eq_true h, beq_iff_eq]; exact h
  · rw [decide_eq_false h, beq_eq_false_iff_ne]; exact h
theorem pre_F (l : List UInt8) : (Lib.hasPrefix l [70] = true ∧ Lib.trimPrefix l [70] ≠ []) ↔ (l.getD 0 0 = 70 ∧ 1 < l.length) := by
  cases l with
  | nil => simp [Lib.hasPrefix]
  | cons x t =>
    have h1 : Lib.hasPrefix (x :: t) [70] = (70 == x) := by simp [Lib.hasPrefix, List.isPrefixOf]
    unfold Lib.trimPrefix
    rw [h1]
    simp only [List.getD_cons_zero, List.length_cons]
    constructor
    · rintro ⟨a, b⟩
      rw [if_pos a] at b
      refine ⟨(eq_of_beq a).symm, ?_⟩
      cases t with
      | nil => simp at b
      | cons => simp
    · rintro ⟨rfl, b⟩
      refine ⟨by simp, ?_⟩
      rw [if_pos (by simp)]
      cases t with
      | nil => simp at b
      | cons => simp
theorem pre_drop (l : List UInt8) (h : Lib.hasPrefix l [70] = true) : Lib.trimPrefix l [70] = l.drop 1 := by unfold Lib.trimPrefix; rw [if_pos h]; rfl
set_option maxHeartbeats 4000000 in
set_option maxRecDepth 100000 in
theorem bareKey_any (s : ByteArray) (hs : s.size ≤ 140737488351232) (w : World) (hE : Env w) (hNm : NameTab w) : Calls Tryd.prog 29 #[.string s] w fun e w' => e = .returned (kyv (bareK s.data.toList)) ∧ Below w.heap.size w w' := by
  have kb := kb_z w
  have Z := hz w
  have E1 := hE.below kb
  obtain ⟨tt, fr, h1⟩ := hNm.below kb
  have H1 : Hid ((w.alloc (.cells #[.int .i64 0, .int .i32 0, .int .i64 0, .int .i64 0] 23)).heap[1]? = some (.cells nameCells tt fr)) := h1
  clear h1 hNm hE
  obtain ⟨res, hres⟩ : ∃ res, bareK s.data.toList = res := ⟨_, rfl⟩
  have HR : Hid (bareK s.data.toList = res) := hres
  rw [hres]
  clear hres
  unfold kyv
  obtain ⟨W0, hW0⟩ : ∃ W0, w.alloc (.cells #[.int .i64 0, .int .i32 0, .int .i64 0, .int .i64 0] 23) = W0 := ⟨_, rfl⟩
  have HW0 : Hid (w.alloc (.cells #[.int .i64 0, .int .i32 0, .int .i64 0, .int .i64 0] 23) = W0) := hW0
  rw [hW0] at kb Z E1
  clear hW0
  go_enter Tryd.func29, Tryd.ntmps29
  go_wp2_with (refine wpList_load_row rfl 75 (.global 1) rfl 1 rfl _ nameCells _ _ H1.out Tryd.underlying75 rfl (by kernel_rfl) ?_)
  rw [HW0.out]
  clear H1 HW0
  go_loopg [12] 15 (fun g v wr => ∃ i : Nat, i ≤ 15 ∧ 15 - i ≤ g ∧ v = .int .i64 (i : Int) ∧ wr = W0 ∧ place s.data.toList (namesL.drop i) i = place s.data.toList namesL 0)
  case atStart => exact ⟨0, by omega, by omega, rfl, rfl, rfl⟩
  case round =>
    obtain ⟨i, hi, hg, rfl, rfl, hp⟩ := hrel
    have HP : Hid (place s.data.toList (namesL.drop i) i = place s.data.toList namesL 0) := hp
    clear hp
    by_cases h15 : i < 15
    · have i15 : (i : Int) < 15 := by omega
      have hix := name_idx i h15 wr
      have hbq := str_beq (namesL.getD i []) s
      have hst := place_step s.data.toList i h15
      have hw : wrap64 ((i : Int) + 1) = (i : Int) + 1 := by unfold wrap64; omega
      by_cases hq : namesL.getD i [] = s.data.toList
      · rw [decide_eq_true hq] at hbq
        rw [if_pos hq] at hst
        have e : res = ⟨i, 0, 0, 0⟩ := by rw [← HR.out]; unfold bareK; rw [← HP.out, hst]
        subst e
        clear HR HP hst hq
        generalize bs (namesL.getD i []) = tn at *
        go_wp2_with (refine wpList_store_row rfl 23 (.tmp 2) (.tmp 20) rfl (w.heap.size) #[.int .i64 (i : Int), .int .i32 0, .int .i64 0, .int .i64 0] rfl rfl _ _ Z (by kernel_rfl) rfl (one4 _ _ _ _) ?_)
        (try simp only [Exit.inBlock, Exit.then])
        refine bodyPost_ret (v := .agg #[.int .i64 (i : Int), .int .i32 0, .int .i64 0, .int .i64 0]) ?_ rfl ⟨rfl, below_setRow kb (Nat.le_refl _) _⟩
        exact results_cell_row rfl _ _ w.heap.size _ _ _ _ rfl (setRow_heap _ _ _ _ _ _ Z) Tryd.underlying23 rfl (by kernel_rfl)
      · rw [decide_eq_false hq] at hbq
        rw [if_neg hq] at hst
        have HS : Hid (place s.data.toList (namesL.drop i) i = place s.data.toList (namesL.drop (i + 1)) (i + 1)) := hst
        clear hst hq
        generalize bs (namesL.getD i []) = tn at *
        go_wp2_with fail
        go_roundg (15 - (i + 1))
        case measure => omega
        case rel => exact ⟨i + 1, by omega, by omega, by go_num, rfl, by rw [← HP.out, HS.out]⟩
    · have e15 : i = 15 := by omega
      subst e15
      have hnone : place s.data.toList namesL 0 = none := by rw [← HP.out]; rfl
      have hne : s.data.toList ≠ [] := by
        intro h
        rw [h] at hnone
        exact absurd hnone (by decide)
      have hR1 : res = if s.data.toList.getD 0 0 = 70 ∧ 1 < s.data.toList.length then ⟨15, 0, atoiN (s.data.toList.drop 1), 0⟩ else if s.data.toList = spaceL then ⟨1, 32, 0, 0⟩ else ⟨1, ((dec s.data.toList).1 : Int), 0, 0⟩ := by
        rw [← HR.out]
        unfold bareK
        rw [hnone]
      have HR1 : Hid (res = if s.data.toList.getD 0 0 = 70 ∧ 1 < s.data.toList.length then ⟨15, 0, atoiN (s.data.toList.drop 1), 0⟩ else if s.data.toList = spaceL then ⟨1, 32, 0, 0⟩ else ⟨1, ((dec s.data.toList).1 : Int), 0, 0⟩) := hR1
      clear hR1 HR HP hnone
      have HC := Tryd.strings_CutPrefix s ⟨#[70]⟩ wr
      rw [show (⟨#[70]⟩ : ByteArray).data.toList = [70] from rfl] at HC
      have hpf := pre_F s.data.toList
      have hsz0 : s.size ≠ 0 := by intro h; apply hne; exact List.length_eq_zero_iff.1 (by rw [size_l]; exact h)
      by_cases hF : s.data.toList.getD 0 0 = 70 ∧ 1 < s.data.toList.length
      · obtain ⟨f1, f2⟩ := hpf.2 hF
        have fd := pre_drop _ f1
        rw [fd] at HC f2
        rw [f1] at HC
        have e0 : res = ⟨15, 0, atoiN (s.data.toList.drop 1), 0⟩ := by rw [HR1.out, if_pos hF]
        have hb2 : ((bs (s.data.toList.drop 1)).toList == []) = false := by rw [beq_eq_false_iff_ne, Lib.toList_data, bs_list]; exact f2
        have hb3 : ((bs (s.data.toList.drop 1)).toList != []) = true := by rw [bne, hb2]; rfl
        have hsd : (bs (s.data.toList.drop 1)).size ≤ 281474976710656 := by rw [bs_sz, List.length_drop, size_l]; omega
        rw [show (⟨(s.data.toList.drop 1).toArray⟩ : ByteArray) = bs (s.data.toList.drop 1) from rfl] at HC
        clear HR1 hF hpf fd f1 f2
        cases hk : okN (s.data.toList.drop 1) with
        | true =>
          obtain ⟨v, hv⟩ : ∃ v, Lib.atoiAll (s.data.toList.drop 1) = .ok v := by
            unfold okN at hk
            split at hk
            · exact ⟨_, by assumption⟩
            · cases hk
          have HA := atoi_ok (bs (s.data.toList.drop 1)) hsd wr v (by rw [bs_list]; exact hv)
          have e : atoiN (s.data.toList.drop 1) = v := by unfold atoiN; rw [hv]
          rw [e] at e0
          subst e0
          clear e hv hk hsd
          generalize bs (s.data.toList.drop 1) = td at *
          go_wp2_with (first | (go_at_call 28; refine HC.mono ?_; rintro e W1 ⟨rfl, hW1⟩; subst hW1) | (go_at_call 51; refine HA.mono ?_; rintro e W2 ⟨rfl, b2⟩; have z2 := by_block Z b2; have k2 := kb.trans (b2.mono kb.size)) | (refine wpList_store_row rfl 23 (.tmp 2) (.tmp 38) rfl (w.heap.size) #[.int .i64 15, .int .i32 0, .int .i64 v, .int .i64 0] rfl rfl _ _ z2 (by kernel_rfl) rfl (one4 _ _ _ _) ?_))
          (try simp only [Exit.inBlock, Exit.then])
          refine bodyPost_ret (v := .agg #[.int .i64 15, .int .i32 0, .int .i64 v, .int .i64 0]) ?_ rfl ⟨rfl, below_setRow k2 (Nat.le_refl _) _⟩
          exact results_cell_row rfl _ _ w.heap.size _ _ _ _ rfl (setRow_heap _ _ _ _ _ _ z2) Tryd.underlying23 rfl (by kernel_rfl)
        | false =>
          have HA := atoi_no (bs (s.data.toList.drop 1)) hsd wr E1.errs (by rw [bs_list]; exact hk)
          rw [bs_list] at HA
          generalize atoiN (s.data.toList.drop 1) = va at *
          subst e0
          clear hk hsd
          generalize bs (s.data.toList.drop 1) = td at *
          go_wp2_with (first | (go_at_call 28; refine HC.mono ?_; rintro e W1 ⟨rfl, hW1⟩; subst hW1) | (go_at_call 51; refine HA.mono ?_; rintro e W2 ⟨NN, rfl, b2⟩; have z2 := by_block Z b2; have k2 := kb.trans (b2.mono kb.size)) | (refine wpList_store_row rfl 23 (.tmp 2) (.tmp 38) rfl (w.heap.size) #[.int .i64 15, .int .i32 0, .int .i64 va, .int .i64 0] rfl rfl _ _ z2 (by kernel_rfl) rfl (one4 _ _ _ _) ?_))
          (try simp only [Exit.inBlock, Exit.then])
          refine bodyPost_ret (v := .agg #[.int .i64 15, .int .i32 0, .int .i64 va, .int .i64 0]) ?_ rfl ⟨rfl, below_setRow k2 (Nat.le_refl _) _⟩
          exact results_cell_row rfl _ _ w.heap.size _ _ _ _ rfl (setRow_heap _ _ _ _ _ _ z2) Tryd.underlying23 rfl (by kernel_rfl)
      · have HR2 : Hid (res = if s.data.toList = spaceL then ⟨1, 32, 0, 0⟩ else ⟨1, ((dec s.data.toList).1 : Int), 0, 0⟩) := by unfold Hid; rw [HR1.out, if_neg hF]
        have hnp : ¬ (Lib.hasPrefix s.data.toList [70] = true ∧ Lib.trimPrefix s.data.toList [70] ≠ []) := fun h => hF (hpf.1 h)
        clear HR1 hpf hF
        have hsp := str_beq2 spaceL s
        rw [show (bs spaceL).toList = [83, 112, 97, 99, 101] by rw [Lib.toList_data, bs_list]; rfl] at hsp
        rw [show (⟨(Lib.trimPrefix s.data.toList [70]).toArray⟩ : ByteArray) = bs (Lib.trimPrefix s.data.toList [70]) from rfl] at HC
        have hpk : Lib.hasPrefix s.data.toList [70] = false ∨ Lib.hasPrefix s.data.toList [70] = true ∧ ((bs (Lib.trimPrefix s.data.toList [70])).toList == []) = true := by
          cases h : Lib.hasPrefix s.data.toList [70] with
          | false => exact .inl rfl
          | true =>
            refine .inr ⟨rfl, ?_⟩
            rw [beq_iff_eq, Lib.toList_data, bs_list]
            exact Classical.byContradiction fun hh => hnp ⟨h, hh⟩
        clear hnp
        have hse : (s.toList == []) = false := by rw [beq_eq_false_iff_ne, Lib.toList_data]; exact hne
        have HN := Txt.next_any s wr E1.u8 hse
        rw [go_dec s hsz0] at HN
        generalize bs (Lib.trimPrefix s.data.toList [70]) = tp at *
        generalize Lib.hasPrefix s.data.toList [70] = pf at *
        by_cases hS : s.data.toList = spaceL
        · rw [decide_eq_true hS] at hsp
          have e : res = ⟨1, 32, 0, 0⟩ := by rw [HR2.out, if_pos hS]
          subst e
          clear HR2 HN hS hne hse
          rcases hpk with rfl | ⟨rfl, hpk⟩
          · go_wp2_with (first | (go_at_call 28; refine HC.mono ?_; rintro e W1 ⟨rfl, hW1⟩; subst hW1) | (refine wpList_store_row rfl 23 (.tmp 2) (.tmp 41) rfl (w.heap.size) #[.int .i64 1, .int .i32 32, .int .i64 0, .int .i64 0] rfl rfl _ _ Z (by kernel_rfl) rfl (one4 _ _ _ _) ?_))
            (try simp only [Exit.inBlock, Exit.then])
            refine bodyPost_ret (v := .agg #[.int .i64 1, .int .i32 32, .int .i64 0, .int .i64 0]) ?_ rfl ⟨rfl, below_setRow kb (Nat.le_refl _) _⟩
            exact results_cell_row rfl _ _ w.heap.size _ _ _ _ rfl (setRow_heap _ _ _ _ _ _ Z) Tryd.underlying23 rfl (by kernel_rfl)
          · go_wp2_with (first | (go_at_call 28; refine HC.mono ?_; rintro e W1 ⟨rfl, hW1⟩; subst hW1) | (refine wpList_store_row rfl 23 (.tmp 2) (.tmp 41) rfl (w.heap.size) #[.int .i64 1, .int .i32 32, .int .i64 0, .int .i64 0] rfl rfl _ _ Z (by kernel_rfl) rfl (one4 _ _ _ _) ?_))
            (try simp only [Exit.inBlock, Exit.then])
            refine bodyPost_ret (v := .agg #[.int .i64 1, .int .i32 32, .int .i64 0, .int .i64 0]) ?_ rfl ⟨rfl, below_setRow kb (Nat.le_refl _) _⟩
            exact results_cell_row rfl _ _ w.heap.size _ _ _ _ rfl (setRow_heap _ _ _ _ _ _ Z) Tryd.underlying23 rfl (by kernel_rfl)
        · rw [decide_eq_false hS] at hsp
          have e : res = ⟨1, ((dec s.data.toList).1 : Int), 0, 0⟩ := by rw [HR2.out, if_neg hS]
          generalize (dec s.data.toList).1 = rr at *
          generalize (dec s.data.toList).2 = zz at *
          subst e
          clear HR2 hS hne hse
          rcases hpk with rfl | ⟨rfl, hpk⟩
          · go_wp2_with (first | (go_at_call 28; refine HC.mono ?_; rintro e W1 ⟨rfl, hW1⟩; subst hW1) | (go_at_call 52; refine HN.mono ?_; rintro e W2 ⟨rfl, b2⟩; have z2 := by_block Z b2; have k2 := kb.trans (b2.mono kb.size)) | (refine wpList_store_row rfl 23 (.tmp 2) (.tmp 48) rfl (w.heap.size) #[.int .i64 1, .int .i32 (rr : Int), .int .i64 0, .int .i64 0] rfl rfl _ _ z2 (by kernel_rfl) rfl (one4 _ _ _ _) ?_))
            (try simp only [Exit.inBlock, Exit.then])
            refine bodyPost_ret (v := .agg #[.int .i64 1, .int .i32 (rr : Int), .int .i64 0, .int .i64 0]) ?_ rfl ⟨rfl, below_setRow k2 (Nat.le_refl _) _⟩
            exact results_cell_row rfl _ _ w.heap.size _ _ _ _ rfl (setRow_heap _ _ _ _ _ _ z2) Tryd.underlying23 rfl (by kernel_rfl)
          · go_wp2_with (first | (go_at_call 28; refine HC.mono ?_; rintro e W1 ⟨rfl, hW1⟩; subst hW1) | (go_at_call 52; refine HN.mono ?_; rintro e W2 ⟨rfl, b2⟩; have z2 := by_block Z b2; have k2 := kb.trans (b2.mono kb.size)) | (refine wpList_store_row rfl 23 (.tmp 2) (.tmp 48) rfl (w.heap.size) #[.int .i64 1, .int .i32 (rr : Int), .int .i64 0, .int .i64 0] rfl rfl _ _ z2 (by kernel_rfl) rfl (one4 _ _ _ _) ?_))
            (try simp only [Exit.inBlock, Exit.then])
            refine bodyPost_ret (v := .agg #[.int .i64 1, .int .i32 (rr : Int), .int .i64 0, .int .i64 0]) ?_ rfl ⟨rfl, below_setRow k2 (Nat.le_refl _) _⟩
            exact results_cell_row rfl _ _ w.heap.size _ _ _ _ rfl (setRow_heap _ _ _ _ _ _ z2) Tryd.underlying23 rfl (by kernel_rfl)
end Kys
end Go.Proofs.YtdmooeoklcjplaaDoor

/- Package keys: Named, of a name. -/
namespace Go.Proofs.YtdmooeoklcjplaaDoor
open Go.ChangeShapes Go.WideShapes Go.ChangeAt Go.RowKit
namespace Kys
open Txt (wd bs dec)
def bS (l : List UInt8) : Nat → List UInt8
  | 0 => l
  | 1 => offC l
  | 2 => offM l
  | _ => offS l
def hS (l : List UInt8) : Nat → Int
  | 0 => 0
  | 1 => has [67, 45] l 4
  | 2 => has [67, 45] l 4 + has [77, 45] (offC l) 2
  | _ => heldS l
theorem S_succ (l : List UInt8) (i : Nat) (b : Int) (p : List UInt8) (hh : i = 0 ∧ b = 4 ∧ p = [67, 45] ∨ i = 1 ∧ b = 2 ∧ p = [77, 45] ∨ i = 2 ∧ b = 1 ∧ p = [83, 45]) : bS l (i + 1) = off p (bS l i) ∧ hS l (i + 1) = hS l i + has p (bS l i) b ∧ (b = 4 ∧ hS l i = 0 ∨ b = 2 ∧ (hS l i = 0 ∨ hS l i = 4) ∨ b = 1 ∧ (hS l i = 0 ∨ hS l i = 4 ∨ hS l i = 2 ∨ hS l i = 6)) := by
  have h1 : has [67, 45] l 4 = 0 ∨ has [67, 45] l 4 = 4 := by unfold has; split <;> simp
  have h2 : has [77, 45] (offC l) 2 = 0 ∨ has [77, 45] (offC l) 2 = 2 := by unfold has; split <;> simp
  rcases hh with ⟨rfl, rfl, rfl⟩ | ⟨rfl, rfl, rfl⟩ | ⟨rfl, rfl, rfl⟩
  · exact ⟨rfl, by simp [hS, bS], .inl ⟨rfl, rfl⟩⟩
  · exact ⟨rfl, rfl, .inr (.inl ⟨rfl, h1⟩)⟩
  · refine ⟨rfl, rfl, .inr (.inr ⟨rfl, ?_⟩)⟩
    have e : hS l 2 = has [67, 45] l 4 + has [77, 45] (offC l) 2 := rfl
    rw [e]
    omega
theorem or_bit (h b : Int) (hh : b = 4 ∧ h = 0 ∨ b = 2 ∧ (h = 0 ∨ h = 4) ∨ b = 1 ∧ (h = 0 ∨ h = 4 ∨ h = 2 ∨ h = 6)) : bits BinOp.or IntKind.i64 h b = h + b := by
  rcases hh with ⟨rfl, rfl⟩ | ⟨rfl, rfl | rfl⟩ | ⟨rfl, rfl | rfl | rfl | rfl⟩ <;> decide +kernel
theorem off_len (p l : List UInt8) : (off p l).length ≤ l.length := by unfold off; split <;> simp
theorem bS_len (l : List UInt8) : ∀ i, (bS l i).length ≤ l.length := by
  have a := off_len [67, 45] l
  have b := off_len [77, 45] (offC l)
  have c := off_len [83, 45] (offM l)
  intro i
  match i with
  | 0 => exact Nat.le_refl _
  | 1 => exact a
  | 2 => exact Nat.le_trans b a
  | k + 3 => exact Nat.le_trans c (Nat.le_trans b a)
set_option maxHeartbeats 4000000 in
set_option maxRecDepth 100000 in
theorem named_good (s : ByteArray) (hs : s.size ≤ 140737488351232) (hk : chk (cand s.data.toList) = true) (hn : nameL (cand s.data.toList) = s.data.toList) (w : World) (hE : Env w) (hNm : NameTab w) (hH : HoldTab w) : Calls Tryd.prog 15 #[.string s] w fun e w' => e = .returned (.tuple #[kyv (cand s.data.toList), .int .i64 0]) ∧ Below w.heap.size w w' := by
  have kb := kb_z w
  have Z := hz w
  have HEV : Hid (∀ W, Below w.heap.size w W → Env W ∧ NameTab W ∧ HoldTab W) := fun W h => ⟨hE.below h, hNm.below h, hH.below h⟩
  obtain ⟨_, _, tt, fr, h1⟩ := HEV.out _ kb
  have H1 : Hid ((w.alloc (.cells #[.int .i64 0, .int .i32 0, .int .i64 0, .int .i64 0] 23)).heap[0]? = some (.cells holdCells tt fr)) := h1
  clear h1 hE hNm hH
  obtain ⟨W0, hW0⟩ : ∃ W0, w.alloc (.cells #[.int .i64 0, .int .i32 0, .int .i64 0, .int .i64 0] 23) = W0 := ⟨_, rfl⟩
  have HW0 : Hid (w.alloc (.cells #[.int .i64 0, .int .i32 0, .int .i64 0, .int .i64 0] 23) = W0) := hW0
  rw [hW0] at kb Z
  clear hW0
  have HBK := fun W h1 h2 => bareKey_any (bs (offS s.data.toList)) (by rw [bs_sz]; have := bS_len s.data.toList 3; rw [size_l] at this; exact Nat.le_trans this hs) W h1 h2
  rw [bs_list] at HBK
  have HNM := fun W h1 h2 h3 => name_any (cand s.data.toList) hk W h1 h2 h3
  rw [hn] at HNM
  have hbb : bs s.data.toList = s := rfl
  rw [hbb] at HNM
  have heq : (s.toList == s.toList) = true := by simp
  have heq2 : (s.toList != s.toList) = false := by simp
  obtain ⟨kd, hkd⟩ : ∃ k0, bareK (offS s.data.toList) = k0 := ⟨_, rfl⟩
  have hcd : cand s.data.toList = ⟨kd.kind, kd.r, kd.n, heldS s.data.toList⟩ := by unfold cand; rw [hkd]
  rw [hkd] at HBK
  rw [hcd] at HNM ⊢
  clear hkd hcd hn hk hbb
  obtain ⟨kk, rr, nn, hh⟩ := kd
  have HST : Hid (∀ i b p, (i = 0 ∧ b = 4 ∧ p = [67, 45] ∨ i = 1 ∧ b = 2 ∧ p = [77, 45] ∨ i = 2 ∧ b = 1 ∧ p = [83, 45]) → bS s.data.toList (i + 1) = off p (bS s.data.toList i) ∧ hS s.data.toList (i + 1) = hS s.data.toList i + has p (bS s.data.toList i) b ∧ (b = 4 ∧ hS s.data.toList i = 0 ∨ b = 2 ∧ (hS s.data.toList i = 0 ∨ hS s.data.toList i = 4) ∨ b = 1 ∧ (hS s.data.toList i = 0 ∨ hS s.data.toList i = 4 ∨ hS s.data.toList i = 2 ∨ hS s.data.toList i = 6))) := fun i b p h => S_succ _ i b p h
  unfold kyv at HBK HNM ⊢
  simp only at HBK HNM ⊢
  have HF : Hid (bS s.data.toList 3 = offS s.data.toList ∧ hS s.data.toList 3 = heldS s.data.toList) := ⟨rfl, rfl⟩
  have HZ : Hid (s = bs (bS s.data.toList 0) ∧ (0 : Int) = hS s.data.toList 0) := ⟨rfl, rfl⟩
  generalize offS s.data.toList = oS at *
  generalize heldS s.data.toList = eS at *
  generalize bS s.data.toList = fb at *
  generalize hS s.data.toList = fh at *
  go_enter Tryd.func15, Tryd.ntmps15
  go_wp2_with (refine wpList_load_row rfl 57 (.global 0) rfl 0 rfl _ holdCells _ _ H1.out Tryd.underlying57 rfl (by kernel_rfl) ?_)
  rw [HW0.out]
  clear H1 HW0
  go_loopg [4, 5, 15] 3 (fun g v4 v5 v15 wr => ∃ i : Nat, i ≤ 3 ∧ 3 - i ≤ g ∧ v15 = .int .i64 (i : Int) ∧ v4 = .int .i64 (fh i) ∧ v5 = .string (bs (fb i)) ∧ Below W0.heap.size W0 wr)
  case atStart => exact ⟨0, by omega, by omega, rfl, by rw [← HZ.out.2], by rw [← HZ.out.1], Below.refl _ _⟩
  case round =>
    obtain ⟨i, hi, hg, rfl, rfl, rfl, hb⟩ := hrel
    have hsz2 := hb.size
    by_cases h3 : i < 3
    · have i3 : (i : Int) < 3 := by omega
      obtain ⟨b, p, hbl, hix⟩ := hold_idx i h3
      have hix := hix wr
      obtain ⟨s1, s2, s3⟩ := HST.out i b p hbl
      have hor := or_bit (fh i) b s3
      have hw : wrap64 ((i : Int) + 1) = (i : Int) + 1 := by unfold wrap64; omega
      have HC := Tryd.strings_CutPrefix (bs (fb i)) (bs p) (wr.alloc (.cells #[.int .i64 b, .string (bs p)] 56))
      rw [bs_list, bs_list] at HC
      rw [show (⟨(Lib.trimPrefix (fb i) p).toArray⟩ : ByteArray) = bs (off p (fb i)) from rfl] at HC
      cases hq : Lib.hasPrefix (fb i) p with
      | true =>
        rw [hq] at HC
        have e1 : bs (off p (fb i)) = bs (fb (i + 1)) := by rw [s1]
        have e2 : fh i + b = fh (i + 1) := by rw [s2]; unfold has; rw [hq]; rfl
        have HE : Hid (bs (off p (fb i)) = bs (fb (i + 1)) ∧ fh i + b = fh (i + 1)) := ⟨e1, e2⟩
        clear e1 e2 s1 s2 s3 hq hbl HBK HNM HF
        generalize bs (off p (fb i)) = tq at *
        generalize bs (fb i) = ta at *
        generalize fh i = hi' at *
        generalize bs p = tl at *
        go_wp2_with (go_at_call 28; refine HC.mono ?_; rintro e W1 ⟨rfl, hW1⟩; subst hW1)
        go_roundg (3 - (i + 1))
        case measure => omega
        case rel => exact ⟨i + 1, by omega, by omega, by go_num, by rw [← HE.out.2], by rw [← HE.out.1], hb.alloc hsz2 _⟩
      | false =>
        rw [hq] at HC
        have e1 : bs (fb i) = bs (fb (i + 1)) := by rw [s1]; unfold off; rw [hq]; rfl
        have e2 : fh i = fh (i + 1) := by rw [s2]; unfold has; rw [hq]; simp
        have HE : Hid (bs (fb i) = bs (fb (i + 1)) ∧ fh i = fh (i + 1)) := ⟨e1, e2⟩
        clear e1 e2 s1 s2 s3 hq hbl HBK HNM HF
        generalize bs (off p (fb i)) = tq at *
        generalize bs (fb i) = ta at *
        generalize fh i = hi' at *
        generalize bs p = tl at *
        go_wp2_with (go_at_call 28; refine HC.mono ?_; rintro e W1 ⟨rfl, hW1⟩; subst hW1)
        go_roundg (3 - (i + 1))
        case measure => omega
        case rel => exact ⟨i + 1, by omega, by omega, by go_num, by rw [← HE.out.2], by rw [← HE.out.1], hb.alloc hsz2 _⟩
    · have e3 : i = 3 := by omega
      subst e3
      have k0 := kb.trans (hb.mono kb.size)
      have zr := by_block Z hb
      obtain ⟨f1, f2⟩ := HF.out
      rw [f1, f2]
      have HB := HBK wr (HEV.out wr k0).1 (HEV.out wr k0).2.1
      clear HBK f1 f2 HF HST
      generalize bs oS = tq at *
      go_wp2_with (first | (go_at_call 29; refine HB.mono ?_; rintro e W2 ⟨rfl, b2⟩; have z2 := by_block zr b2; have k2 := k0.trans (b2.mono k0.size); have k3 := k2.alloc k2.size (.cells #[.int .i64 kk, .int .i32 rr, .int .i64 nn, .int .i64 eS] 23); have z3 := by_block z2 ((Below.refl _ _).alloc (Nat.le_refl _) (.cells #[.int .i64 kk, .int .i32 rr, .int .i64 nn, .int .i64 eS] 23)); have y3 := heap_alloc_new W2 (.cells #[.int .i64 kk, .int .i32 rr, .int .i64 nn, .int .i64 eS] 23); have HN := HNM _ (HEV.out _ k3).1.tab (HEV.out _ k3).2.1 (HEV.out _ k3).2.2) | (go_at_call 14; refine HN.mono ?_; rintro e W4 ⟨rfl, b4⟩; have z4 := by_block z3 b4; have y4 := by_block y3 b4; have k4 := k3.trans (b4.mono k3.size)) | (refine wpList_load_row rfl 23 (.tmp 10) rfl W2.heap.size rfl _ _ _ _ y4 Tryd.underlying23 rfl (by kernel_rfl) ?_) | (refine wpList_store_row rfl 23 (.tmp 2) (.tmp 49) rfl (w.heap.size) #[.int .i64 kk, .int .i32 rr, .int .i64 nn, .int .i64 eS] rfl rfl _ _ z4 (by kernel_rfl) rfl (one4 _ _ _ _) ?_))
      (try simp only [Exit.inBlock, Exit.then])
      refine bodyPost_ret (v := .tuple #[.agg #[.int .i64 kk, .int .i32 rr, .int .i64 nn, .int .i64 eS], .int .i64 0]) ?_ rfl ⟨rfl, below_setRow k4 (Nat.le_refl _) _⟩
      exact results_key_tmp rfl _ _ w.heap.size _ _ _ _ rfl (setRow_heap _ _ _ _ _ _ z4) Tryd.underlying23 rfl (by kernel_rfl) _ rfl
end Kys
end Go.Proofs.YtdmooeoklcjplaaDoor

/- Package keys: Name of what can't be told; Named of what is no name. -/
namespace Go.Proofs.YtdmooeoklcjplaaDoor
open Go.ChangeShapes Go.WideShapes Go.ChangeAt Go.RowKit
namespace Kys
open Txt (wd bs dec)
set_option maxHeartbeats 4000000 in
theorem name_no (k : Ky) (hk : chk k = false) (w : World) (hT : Txt.Tab w) : Calls Tryd.prog 14 #[kyv k] w fun e w' => e = .returned (.tuple #[.string ⟨#[]⟩, .int .i64 5]) ∧ Below w.heap.size w w' := by
  have kb : Below w.heap.size w (w.alloc (.cells #[.int .i64 k.kind, .int .i32 k.r, .int .i64 k.n, .int .i64 k.held] 23)) := (Below.refl _ _).alloc (Nat.le_refl _) _
  have HC := check_any k _ (Tab.alloc hT (.cells #[.int .i64 k.kind, .int .i32 k.r, .int .i64 k.n, .int .i64 k.held] 23))
  rw [hk] at HC
  clear hk hT
  unfold kyv at HC ⊢
  go_enter Tryd.func14, Tryd.ntmps14
  go_wp2_with (go_at_call 9; refine HC.mono ?_; rintro e W1 ⟨rfl, b1⟩)
  go_ret2
  exact ⟨rfl, kb.trans (b1.mono kb.size)⟩
set_option maxHeartbeats 4000000 in
set_option maxRecDepth 100000 in
theorem named_no (s : ByteArray) (hs : s.size ≤ 140737488351232) (hk : chk (cand s.data.toList) = false) (w : World) (hE : Env w) (hNm : NameTab w) (hH : HoldTab w) : Calls Tryd.prog 15 #[.string s] w fun e w' => e = .returned (.tuple #[kyv zk, .int .i64 1]) ∧ Below w.heap.size w w' := by
  have kb := kb_z w
  have Z := hz w
  have HEV : Hid (∀ W, Below w.heap.size w W → Env W ∧ NameTab W ∧ HoldTab W) := fun W h => ⟨hE.below h, hNm.below h, hH.below h⟩
  obtain ⟨_, _, tt, fr, h1⟩ := HEV.out _ kb
  have H1 : Hid ((w.alloc (.cells #[.int .i64 0, .int .i32 0, .int .i64 0, .int .i64 0] 23)).heap[0]? = some (.cells holdCells tt fr)) := h1
  clear h1 hE hNm hH
  obtain ⟨W0, hW0⟩ : ∃ W0, w.alloc (.cells #[.int .i64 0, .int .i32 0, .int .i64 0, .int .i64 0] 23) = W0 := ⟨_, rfl⟩
  have HW0 : Hid (w.alloc (.cells #[.int .i64 0, .int .i32 0, .int .i64 0, .int .i64 0] 23) = W0) := hW0
  rw [hW0] at kb Z
  clear hW0
  have HBK := fun W h1 h2 => bareKey_any (bs (offS s.data.toList)) (by rw [bs_sz]; have := bS_len s.data.toList 3; rw [size_l] at this; exact Nat.le_trans this hs) W h1 h2
  rw [bs_list] at HBK
  have HNM := fun W (h1 : Txt.Tab W) (_ : NameTab W) (_ : HoldTab W) => name_no (cand s.data.toList) hk W h1
  obtain ⟨kd, hkd⟩ : ∃ k0, bareK (offS s.data.toList) = k0 := ⟨_, rfl⟩
  have hcd : cand s.data.toList = ⟨kd.kind, kd.r, kd.n, heldS s.data.toList⟩ := by unfold cand; rw [hkd]
  rw [hkd] at HBK
  rw [hcd] at HNM
  clear hkd hcd hk
  obtain ⟨kk, rr, nn, hh⟩ := kd
  have HST : Hid (∀ i b p, (i = 0 ∧ b = 4 ∧ p = [67, 45] ∨ i = 1 ∧ b = 2 ∧ p = [77, 45] ∨ i = 2 ∧ b = 1 ∧ p = [83, 45]) → bS s.data.toList (i + 1) = off p (bS s.data.toList i) ∧ hS s.data.toList (i + 1) = hS s.data.toList i + has p (bS s.data.toList i) b ∧ (b = 4 ∧ hS s.data.toList i = 0 ∨ b = 2 ∧ (hS s.data.toList i = 0 ∨ hS s.data.toList i = 4) ∨ b = 1 ∧ (hS s.data.toList i = 0 ∨ hS s.data.toList i = 4 ∨ hS s.data.toList i = 2 ∨ hS s.data.toList i = 6))) := fun i b p h => S_succ _ i b p h
  unfold kyv at HBK HNM ⊢
  unfold zk
  simp only at HBK HNM ⊢
  have HF : Hid (bS s.data.toList 3 = offS s.data.toList ∧ hS s.data.toList 3 = heldS s.data.toList) := ⟨rfl, rfl⟩
  have HZ : Hid (s = bs (bS s.data.toList 0) ∧ (0 : Int) = hS s.data.toList 0) := ⟨rfl, rfl⟩
  generalize offS s.data.toList = oS at *
  generalize heldS s.data.toList = eS at *
  generalize bS s.data.toList = fb at *
  generalize hS s.data.toList = fh at *
  go_enter Tryd.func15, Tryd.ntmps15
  go_wp2_with (refine wpList_load_row rfl 57 (.global 0) rfl 0 rfl _ holdCells _ _ H1.out Tryd.underlying57 rfl (by kernel_rfl) ?_)
  rw [HW0.out]
  clear H1 HW0
  go_loopg [4, 5, 15] 3 (fun g v4 v5 v15 wr => ∃ i : Nat, i ≤ 3 ∧ 3 - i ≤ g ∧ v15 = .int .i64 (i : Int) ∧ v4 = .int .i64 (fh i) ∧ v5 = .string (bs (fb i)) ∧ Below W0.heap.size W0 wr)
  case atStart => exact ⟨0, by omega, by omega, rfl, by rw [← HZ.out.2], by rw [← HZ.out.1], Below.refl _ _⟩
  case round =>
    obtain ⟨i, hi, hg, rfl, rfl, rfl, hb⟩ := hrel
    have hsz2 := hb.size
    by_cases h3 : i < 3
    · have i3 : (i : Int) < 3 := by omega
      obtain ⟨b, p, hbl, hix⟩ := hold_idx i h3
      have hix := hix wr
      obtain ⟨s1, s2, s3⟩ := HST.out i b p hbl
      have hor := or_bit (fh i) b s3
      have hw : wrap64 ((i : Int) + 1) = (i : Int) + 1 := by unfold wrap64; omega
      have HC := Tryd.strings_CutPrefix (bs (fb i)) (bs p) (wr.alloc (.cells #[.int .i64 b, .string (bs p)] 56))
      rw [bs_list, bs_list] at HC
      rw [show (⟨(Lib.trimPrefix (fb i) p).toArray⟩ : ByteArray) = bs (off p (fb i)) from rfl] at HC
      cases hq : Lib.hasPrefix (fb i) p with
      | true =>
        rw [hq] at HC
        have e1 : bs (off p (fb i)) = bs (fb (i + 1)) := by rw [s1]
        have e2 : fh i + b = fh (i + 1) := by rw [s2]; unfold has; rw [hq]; rfl
        have HE : Hid (bs (off p (fb i)) = bs (fb (i + 1)) ∧ fh i + b = fh (i + 1)) := ⟨e1, e2⟩
        clear e1 e2 s1 s2 s3 hq hbl HBK HNM HF
        generalize bs (off p (fb i)) = tq at *
        generalize bs (fb i) = ta at *
        generalize fh i = hi' at *
        generalize bs p = tl at *
        go_wp2_with (go_at_call 28; refine HC.mono ?_; rintro e W1 ⟨rfl, hW1⟩; subst hW1)
        go_roundg (3 - (i + 1))
        case measure => omega
        case rel => exact ⟨i + 1, by omega, by omega, by go_num, by rw [← HE.out.2], by rw [← HE.out.1], hb.alloc hsz2 _⟩
      | false =>
        rw [hq] at HC
        have e1 : bs (fb i) = bs (fb (i + 1)) := by rw [s1]; unfold off; rw [hq]; rfl
        have e2 : fh i = fh (i + 1) := by rw [s2]; unfold has; rw [hq]; simp
        have HE : Hid (bs (fb i) = bs (fb (i + 1)) ∧ fh i = fh (i + 1)) := ⟨e1, e2⟩
        clear e1 e2 s1 s2 s3 hq hbl HBK HNM HF
        generalize bs (off p (fb i)) = tq at *
        generalize bs (fb i) = ta at *
        generalize fh i = hi' at *
        generalize bs p = tl at *
        go_wp2_with (go_at_call 28; refine HC.mono ?_; rintro e W1 ⟨rfl, hW1⟩; subst hW1)
        go_roundg (3 - (i + 1))
        case measure => omega
        case rel => exact ⟨i + 1, by omega, by omega, by go_num, by rw [← HE.out.2], by rw [← HE.out.1], hb.alloc hsz2 _⟩
    · have e3 : i = 3 := by omega
      subst e3
      have k0 := kb.trans (hb.mono kb.size)
      have zr := by_block Z hb
      obtain ⟨f1, f2⟩ := HF.out
      rw [f1, f2]
      have HB := HBK wr (HEV.out wr k0).1 (HEV.out wr k0).2.1
      clear HBK f1 f2 HF HST
      generalize bs oS = tq at *
      go_wp2_with (first | (go_at_call 29; refine HB.mono ?_; rintro e W2 ⟨rfl, b2⟩; have z2 := by_block zr b2; have k2 := k0.trans (b2.mono k0.size); have k3 := k2.alloc k2.size (.cells #[.int .i64 kk, .int .i32 rr, .int .i64 nn, .int .i64 eS] 23); have z3 := by_block z2 ((Below.refl _ _).alloc (Nat.le_refl _) (.cells #[.int .i64 kk, .int .i32 rr, .int .i64 nn, .int .i64 eS] 23)); have y3 := heap_alloc_new W2 (.cells #[.int .i64 kk, .int .i32 rr, .int .i64 nn, .int .i64 eS] 23); have HN := HNM _ (HEV.out _ k3).1.tab (HEV.out _ k3).2.1 (HEV.out _ k3).2.2) | (go_at_call 14; refine HN.mono ?_; rintro e W4 ⟨rfl, b4⟩; have z4 := by_block z3 b4; have y4 := by_block y3 b4; have k4 := k3.trans (b4.mono k3.size)) | (refine wpList_store_row rfl 23 (.tmp 2) (.tmp 48) rfl (w.heap.size) #[.int .i64 0, .int .i32 0, .int .i64 0, .int .i64 0] rfl rfl _ _ z4 (by kernel_rfl) rfl (one4 _ _ _ _) ?_))
      (try simp only [Exit.inBlock, Exit.then])
      refine bodyPost_ret (v := .tuple #[.agg #[.int .i64 0, .int .i32 0, .int .i64 0, .int .i64 0], .int .i64 1]) ?_ rfl ⟨rfl, below_setRow k4 (Nat.le_refl _) _⟩
      exact results_key_tmp rfl _ _ w.heap.size _ _ _ _ rfl (setRow_heap _ _ _ _ _ _ z4) Tryd.underlying23 rfl (by kernel_rfl) _ rfl
set_option maxHeartbeats 4000000 in
set_option maxRecDepth 100000 in
theorem named_other (s : ByteArray) (hs : s.size ≤ 140737488351232) (hk : chk (cand s.data.toList) = true) (hn : nameL (cand s.data.toList) ≠ s.data.toList) (w : World) (hE : Env w) (hNm : NameTab w) (hH : HoldTab w) : Calls Tryd.prog 15 #[.string s] w fun e w' => e = .returned (.tuple #[kyv zk, .int .i64 1]) ∧ Below w.heap.size w w' := by
  have kb := kb_z w
  have Z := hz w
  have HEV : Hid (∀ W, Below w.heap.size w W → Env W ∧ NameTab W ∧ HoldTab W) := fun W h => ⟨hE.below h, hNm.below h, hH.below h⟩
  obtain ⟨_, _, tt, fr, h1⟩ := HEV.out _ kb
  have H1 : Hid ((w.alloc (.cells #[.int .i64 0, .int .i32 0, .int .i64 0, .int .i64 0] 23)).heap[0]? = some (.cells holdCells tt fr)) := h1
  clear h1 hE hNm hH
  obtain ⟨W0, hW0⟩ : ∃ W0, w.alloc (.cells #[.int .i64 0, .int .i32 0, .int .i64 0, .int .i64 0] 23) = W0 := ⟨_, rfl⟩
  have HW0 : Hid (w.alloc (.cells #[.int .i64 0, .int .i32 0, .int .i64 0, .int .i64 0] 23) = W0) := hW0
  rw [hW0] at kb Z
  clear hW0
  have HBK := fun W h1 h2 => bareKey_any (bs (offS s.data.toList)) (by rw [bs_sz]; have := bS_len s.data.toList 3; rw [size_l] at this; exact Nat.le_trans this hs) W h1 h2
  rw [bs_list] at HBK
  have HNM := fun W h1 h2 h3 => name_any (cand s.data.toList) hk W h1 h2 h3
  have hqq := str_beq (nameL (cand s.data.toList)) s
  rw [decide_eq_false hn] at hqq
  have hqn : ((bs (nameL (cand s.data.toList))).toList != s.toList) = true := by rw [bne, hqq]; rfl
  generalize bs (nameL (cand s.data.toList)) = tnm at *
  obtain ⟨kd, hkd⟩ : ∃ k0, bareK (offS s.data.toList) = k0 := ⟨_, rfl⟩
  have hcd : cand s.data.toList = ⟨kd.kind, kd.r, kd.n, heldS s.data.toList⟩ := by unfold cand; rw [hkd]
  rw [hkd] at HBK
  rw [hcd] at HNM
  clear hkd hcd hn hk
  obtain ⟨kk, rr, nn, hh⟩ := kd
  have HST : Hid (∀ i b p, (i = 0 ∧ b = 4 ∧ p = [67, 45] ∨ i = 1 ∧ b = 2 ∧ p = [77, 45] ∨ i = 2 ∧ b = 1 ∧ p = [83, 45]) → bS s.data.toList (i + 1) = off p (bS s.data.toList i) ∧ hS s.data.toList (i + 1) = hS s.data.toList i + has p (bS s.data.toList i) b ∧ (b = 4 ∧ hS s.data.toList i = 0 ∨ b = 2 ∧ (hS s.data.toList i = 0 ∨ hS s.data.toList i = 4) ∨ b = 1 ∧ (hS s.data.toList i = 0 ∨ hS s.data.toList i = 4 ∨ hS s.data.toList i = 2 ∨ hS s.data.toList i = 6))) := fun i b p h => S_succ _ i b p h
  unfold kyv at HBK HNM ⊢
  unfold zk
  simp only at HBK HNM ⊢
  have HF : Hid (bS s.data.toList 3 = offS s.data.toList ∧ hS s.data.toList 3 = heldS s.data.toList) := ⟨rfl, rfl⟩
  have HZ : Hid (s = bs (bS s.data.toList 0) ∧ (0 : Int) = hS s.data.toList 0) := ⟨rfl, rfl⟩
  generalize offS s.data.toList = oS at *
  generalize heldS s.data.toList = eS at *
  generalize bS s.data.toList = fb at *
  generalize hS s.data.toList = fh at *
  go_enter Tryd.func15, Tryd.ntmps15
  go_wp2_with (refine wpList_load_row rfl 57 (.global 0) rfl 0 rfl _ holdCells _ _ H1.out Tryd.underlying57 rfl (by kernel_rfl) ?_)
  rw [HW0.out]
  clear H1 HW0
  go_loopg [4, 5, 15] 3 (fun g v4 v5 v15 wr => ∃ i : Nat, i ≤ 3 ∧ 3 - i ≤ g ∧ v15 = .int .i64 (i : Int) ∧ v4 = .int .i64 (fh i) ∧ v5 = .string (bs (fb i)) ∧ Below W0.heap.size W0 wr)
  case atStart => exact ⟨0, by omega, by omega, rfl, by rw [← HZ.out.2], by rw [← HZ.out.1], Below.refl _ _⟩
  case round =>
    obtain ⟨i, hi, hg, rfl, rfl, rfl, hb⟩ := hrel
    have hsz2 := hb.size
    by_cases h3 : i < 3
    · have i3 : (i : Int) < 3 := by omega
      obtain ⟨b, p, hbl, hix⟩ := hold_idx i h3
      have hix := hix wr
      obtain ⟨s1, s2, s3⟩ := HST.out i b p hbl
      have hor := or_bit (fh i) b s3
      have hw : wrap64 ((i : Int) + 1) = (i : Int) + 1 := by unfold wrap64; omega
      have HC := Tryd.strings_CutPrefix (bs (fb i)) (bs p) (wr.alloc (.cells #[.int .i64 b, .string (bs p)] 56))
      rw [bs_list, bs_list] at HC
      rw [show (⟨(Lib.trimPrefix (fb i) p).toArray⟩ : ByteArray) = bs (off p (fb i)) from rfl] at HC
      cases hq : Lib.hasPrefix (fb i) p with
      | true =>
        rw [hq] at HC
        have e1 : bs (off p (fb i)) = bs (fb (i + 1)) := by rw [s1]
        have e2 : fh i + b = fh (i + 1) := by rw [s2]; unfold has; rw [hq]; rfl
        have HE : Hid (bs (off p (fb i)) = bs (fb (i + 1)) ∧ fh i + b = fh (i + 1)) := ⟨e1, e2⟩
        clear e1 e2 s1 s2 s3 hq hbl HBK HNM HF
        generalize bs (off p (fb i)) = tq at *
        generalize bs (fb i) = ta at *
        generalize fh i = hi' at *
        generalize bs p = tl at *
        go_wp2_with (go_at_call 28; refine HC.mono ?_; rintro e W1 ⟨rfl, hW1⟩; subst hW1)
        go_roundg (3 - (i + 1))
        case measure => omega
        case rel => exact ⟨i + 1, by omega, by omega, by go_num, by rw [← HE.out.2], by rw [← HE.out.1], hb.alloc hsz2 _⟩
      | false =>
        rw [hq] at HC
        have e1 : bs (fb i) = bs (fb (i + 1)) := by rw [s1]; unfold off; rw [hq]; rfl
        have e2 : fh i = fh (i + 1) := by rw [s2]; unfold has; rw [hq]; simp
        have HE : Hid (bs (fb i) = bs (fb (i + 1)) ∧ fh i = fh (i + 1)) := ⟨e1, e2⟩
        clear e1 e2 s1 s2 s3 hq hbl HBK HNM HF
        generalize bs (off p (fb i)) = tq at *
        generalize bs (fb i) = ta at *
        generalize fh i = hi' at *
        generalize bs p = tl at *
        go_wp2_with (go_at_call 28; refine HC.mono ?_; rintro e W1 ⟨rfl, hW1⟩; subst hW1)
        go_roundg (3 - (i + 1))
        case measure => omega
        case rel => exact ⟨i + 1, by omega, by omega, by go_num, by rw [← HE.out.2], by rw [← HE.out.1], hb.alloc hsz2 _⟩
    · have e3 : i = 3 := by omega
      subst e3
      have k0 := kb.trans (hb.mono kb.size)
      have zr := by_block Z hb
      obtain ⟨f1, f2⟩ := HF.out
      rw [f1, f2]
      have HB := HBK wr (HEV.out wr k0).1 (HEV.out wr k0).2.1
      clear HBK f1 f2 HF HST
      generalize bs oS = tq at *
      go_wp2_with (first | (go_at_call 29; refine HB.mono ?_; rintro e W2 ⟨rfl, b2⟩; have z2 := by_block zr b2; have k2 := k0.trans (b2.mono k0.size); have k3 := k2.alloc k2.size (.cells #[.int .i64 kk, .int .i32 rr, .int .i64 nn, .int .i64 eS] 23); have z3 := by_block z2 ((Below.refl _ _).alloc (Nat.le_refl _) (.cells #[.int .i64 kk, .int .i32 rr, .int .i64 nn, .int .i64 eS] 23)); have y3 := heap_alloc_new W2 (.cells #[.int .i64 kk, .int .i32 rr, .int .i64 nn, .int .i64 eS] 23); have HN := HNM _ (HEV.out _ k3).1.tab (HEV.out _ k3).2.1 (HEV.out _ k3).2.2) | (go_at_call 14; refine HN.mono ?_; rintro e W4 ⟨rfl, b4⟩; have z4 := by_block z3 b4; have y4 := by_block y3 b4; have k4 := k3.trans (b4.mono k3.size)) | (refine wpList_store_row rfl 23 (.tmp 2) (.tmp 48) rfl (w.heap.size) #[.int .i64 0, .int .i32 0, .int .i64 0, .int .i64 0] rfl rfl _ _ z4 (by kernel_rfl) rfl (one4 _ _ _ _) ?_))
      (try simp only [Exit.inBlock, Exit.then])
      refine bodyPost_ret (v := .tuple #[.agg #[.int .i64 0, .int .i32 0, .int .i64 0, .int .i64 0], .int .i64 1]) ?_ rfl ⟨rfl, below_setRow k4 (Nat.le_refl _) _⟩
      exact results_key_tmp rfl _ _ w.heap.size _ _ _ _ rfl (setRow_heap _ _ _ _ _ _ z4) Tryd.underlying23 rfl (by kernel_rfl) _ rfl
theorem named_any (s : ByteArray) (hs : s.size ≤ 140737488351232) (w : World) (hE : Env w) (hNm : NameTab w) (hH : HoldTab w) : Calls Tryd.prog 15 #[.string s] w fun e w' => e = .returned (.tuple #[kyv ((named s.data.toList).getD zk), .int .i64 (if (named s.data.toList).isSome then 0 else 1)]) ∧ Below w.heap.size w w' := by
  by_cases hk : chk (cand s.data.toList) = true
  · by_cases hn : nameL (cand s.data.toList) = s.data.toList
    · have e : named s.data.toList = some (cand s.data.toList) := by unfold named; rw [if_pos ⟨hk, hn⟩]
      rw [e]
      exact named_good s hs hk hn w hE hNm hH
    · have e : named s.data.toList = none := by unfold named; rw [if_neg (fun h => hn h.2)]
      rw [e]
      exact named_other s hs hk hn w hE hNm hH
  · have e : named s.data.toList = none := by unfold named; rw [if_neg (fun h => hk h.1)]
    rw [e]
    exact named_no s hs (by simpa using hk) w hE hNm hH
end Kys
end Go.Proofs.YtdmooeoklcjplaaDoor

/- slices.Equal of keys that read alike; Read of too many bytes. -/
namespace Go.Proofs.YtdmooeoklcjplaaDoor
open Go.ChangeShapes Go.WideShapes Go.ChangeAt Go.RowKit
namespace Kys
open Txt (wd bs dec)
def KAt (w : World) (b o : Nat) (ks : List Ky) : Prop := ∀ j, j < ks.length →
  w.cell? ⟨b, o + j * 4, none⟩ = some (.int .i64 (ks.getD j zk).kind) ∧ w.cell? ⟨b, o + j * 4 + 1, none⟩ = some (.int .i32 (ks.getD j zk).r) ∧
  w.cell? ⟨b, o + j * 4 + 2, none⟩ = some (.int .i64 (ks.getD j zk).n) ∧ w.cell? ⟨b, o + j * 4 + 3, none⟩ = some (.int .i64 (ks.getD j zk).held)
theorem KAt.below {w w' : World} {b o : Nat} {ks : List Ky} (h : KAt w b o ks) (hb : Below w.heap.size w w') : KAt w' b o ks := fun j hj => by
  obtain ⟨a, b1, c, d⟩ := h j hj
  have hl := Txt.lt_of_cell a
  exact ⟨by rw [hb.cell hl]; exact a, by rw [hb.cell hl]; exact b1, by rw [hb.cell hl]; exact c, by rw [hb.cell hl]; exact d⟩
def KSl (w : World) (v : Value) (ks : List Ky) : Prop := (ks = [] ∧ ∃ a c, v = .slice a 0 c) ∨ (ks ≠ [] ∧ ∃ b o c, v = .slice (some ⟨b, o, none⟩) ks.length c ∧ KAt w b o ks)
theorem KSl.below {w w' : World} {v : Value} {ks : List Ky} (h : KSl w v ks) (hb : Below w.heap.size w w') : KSl w' v ks := by
  rcases h with h | ⟨h0, b, o, c, hv, hC⟩
  · exact .inl h
  · exact .inr ⟨h0, b, o, c, hv, hC.below hb⟩
theorem flatK_get : ∀ (ks : List Ky) (j : Nat), j < ks.length → (flatK ks)[j * 4]? = some (.int .i64 (ks.getD j zk).kind) ∧ (flatK ks)[j * 4 + 1]? = some (.int .i32 (ks.getD j zk).r) ∧ (flatK ks)[j * 4 + 2]? = some (.int .i64 (ks.getD j zk).n) ∧ (flatK ks)[j * 4 + 3]? = some (.int .i64 (ks.getD j zk).held)
  | [], j, h => absurd h (Nat.not_lt_zero _)
  | k :: ks, 0, _ => ⟨rfl, rfl, rfl, rfl⟩
  | k :: ks, j + 1, h => by
    have ih := flatK_get ks j (by simpa using h)
    rw [show (j + 1) * 4 = j * 4 + 4 by omega]
    exact ih
theorem OwnK.sl {w : World} {base : Nat} {v : Value} {ks : List Ky} (h : OwnK w base v ks) : KSl w v ks := by
  obtain ⟨hl, h1 | ⟨g, cap, cur, hv, hg, hh, hn, hc, hs, ht⟩⟩ := h
  · exact .inl ⟨List.length_eq_zero_iff.1 h1.2, none, 0, h1.1⟩
  · by_cases h0 : ks = []
    · subst h0
      exact .inl ⟨rfl, _, _, hv⟩
    · refine .inr ⟨h0, g, 0, cap, hv, fun j hj => ?_⟩
      have key : ∀ i u, i < ks.length * 4 → (flatK ks)[i]? = some u → w.cell? ⟨g, i, none⟩ = some u := fun i u hi hu => by
        have : cur[i]? = some u := by
          rw [← ht, List.getElem?_take_of_lt hi] at hu
          simpa using hu
        unfold World.cell?
        rw [hh]
        exact this
      obtain ⟨a, b, c, d⟩ := flatK_get ks j hj
      simp only [Nat.zero_add]
      exact ⟨key _ _ (by omega) a, key _ _ (by omega) b, key _ _ (by omega) c, key _ _ (by omega) d⟩
theorem neq_key (r f b x : Int) (w : World) : (binOp .neq 23 (.agg #[.int .i64 r, .int .i32 f, .int .i64 b, .int .i64 x]) (.agg #[.int .i64 r, .int .i32 f, .int .i64 b, .int .i64 x])).run Tryd.prog w = .ok (.bool false) w := by
  go_simp
set_option maxHeartbeats 1000000 in
theorem equal_keys (b1 o1 c1 b2 o2 c2 : Nat) (ks : List Ky) (w : World) (h1 : KAt w b1 o1 ks) (h2 : KAt w b2 o2 ks) (hn : ks.length ≤ 1000000) :
    Calls Tryd.prog 13 #[.slice (some ⟨b1, o1, none⟩) ks.length c1, .slice (some ⟨b2, o2, none⟩) ks.length c2] w fun e w' => e = .returned (.bool true) ∧ Below w.heap.size w w' := by
  have H1 : Hid (KAt w b1 o1 ks) := h1
  have H2 : Hid (KAt w b2 o2 ks) := h2
  clear h1 h2
  generalize hl : ks.length = L at *
  have HL : Hid (ks.length = L) := hl
  clear hl
  have ne : ((L : Int) != (L : Int)) = false := by simp
  go_enter Tryd.func13, Tryd.ntmps13
  go_wp2_with fail
  go_loopg [13] L (fun g i wr => ∃ k : Nat, i = .int .i64 (k : Int) ∧ k ≤ L ∧ L - k ≤ g ∧ Below w.heap.size w wr)
  case atStart => exact ⟨0, rfl, by omega, by omega, Below.refl _ _⟩
  case round =>
    obtain ⟨k, rfl, hk, hg, hb⟩ := hrel
    by_cases hlt : k < L
    · have lt1 : ((k : Int) < (L : Int)) := by omega
      obtain ⟨p0, p1, p2, p3⟩ := H1.out.below hb k (by rw [HL.out]; exact hlt)
      obtain ⟨q0, q1, q2, q3⟩ := H2.out.below hb k (by rw [HL.out]; exact hlt)
      rcases hc : ks.getD k zk with ⟨r, f, bk, x⟩
      rw [hc] at p0 p1 p2 p3 q0 q1 q2 q3
      dsimp only at p0 p1 p2 p3 q0 q1 q2 q3
      clear hc
      have nq := neq_key r f bk x
      go_wp2_with fail
      go_region
      go_wp2_with fail
      go_roundg (L - (k + 1))
      case measure => omega
      case rel => exact ⟨k + 1, rfl, by omega, by omega, hb.drew⟩
    · have lt1 : ¬ ((k : Int) < (L : Int)) := by omega
      go_wp2_with fail
      go_ret
      exact ⟨rfl, hb⟩
set_option maxHeartbeats 1000000 in
theorem equal_empty (a1 a2 : Option Addr) (c1 c2 : Nat) (w : World) :
    Calls Tryd.prog 13 #[.slice a1 0 c1, .slice a2 0 c2] w fun e w' => e = .returned (.bool true) ∧ Below w.heap.size w w' := by
  go_enter Tryd.func13, Tryd.ntmps13
  go_wp2_with fail
  go_loopg [13] 1 (fun g i wr => i = .int .i64 0 ∧ wr = w)
  case atStart => exact ⟨rfl, rfl⟩
  case round =>
    obtain ⟨rfl, rfl⟩ := hrel
    go_wp2_with fail
    go_ret
    exact ⟨rfl, Below.refl _ _⟩
theorem equal_any (v1 v2 : Value) (ks : List Ky) (w : World) (h1 : KSl w v1 ks) (h2 : KSl w v2 ks) (hn : ks.length ≤ 1000000) :
    Calls Tryd.prog 13 #[v1, v2] w fun e w' => e = .returned (.bool true) ∧ Below w.heap.size w w' := by
  rcases h1 with ⟨rfl, a1, c1, rfl⟩ | ⟨h0, b1, o1, c1, rfl, hC1⟩
  · rcases h2 with ⟨_, a2, c2, rfl⟩ | ⟨h0, _⟩
    · exact equal_empty a1 a2 c1 c2 w
    · exact absurd rfl h0
  · rcases h2 with ⟨rfl, _⟩ | ⟨_, b2, o2, c2, rfl, hC2⟩
    · exact absurd rfl h0
    · exact equal_keys b1 o1 c1 b2 o2 c2 ks w hC1 hC2 hn
set_option maxHeartbeats 1000000 in
theorem read_many (s : ByteArray) (last : Bool) (hs : 4000 < s.size) (w : World) : Calls Tryd.prog 11 #[.string s, .bool last] w fun e w' => e = .returned (.tuple #[.slice none 0 0, .string ⟨#[]⟩, .int .i64 2]) ∧ Below w.heap.size w w' := by
  have i4 : (4000 : Int) < (s.size : Int) := by omega
  go_enter Tryd.func11, Tryd.ntmps11
  go_wp2_with fail
  go_ret3
  exact ⟨rfl, Below.refl _ _⟩
end Kys
end Go.Proofs.YtdmooeoklcjplaaDoor

/- The closed fact: an arrow with something held. -/
namespace Go.Proofs.YtdmooeoklcjplaaDoor
open Go.ChangeShapes Go.WideShapes Go.ChangeAt Go.RowKit
namespace Kys
open Txt (wd bs dec)
theorem rd_struck : rd [27, 91, 49, 59, 53, 65, 113, 27] false = ([⟨6, 0, 0, 4⟩, ⟨1, 113, 0, 0⟩], [27]) := by decide +kernel
theorem wr_struck : wr ⟨6, 0, 0, 4⟩ true = [27, 91, 49, 59, 53, 65] := by decide +kernel
theorem two_keys (W : World) (a b c d p q r z : Int) : KSl (W.alloc (.cells #[.int .i64 a, .int .i32 b, .int .i64 c, .int .i64 d, .int .i64 p, .int .i32 q, .int .i64 r, .int .i64 z] 23)) (.slice (some ⟨W.heap.size, 0, none⟩) 2 2) [⟨a, b, c, d⟩, ⟨p, q, r, z⟩] := by
  refine .inr ⟨by simp, W.heap.size, 0, 2, rfl, fun j hj => ?_⟩
  have hc : ∀ i, (W.alloc (.cells #[.int .i64 a, .int .i32 b, .int .i64 c, .int .i64 d, .int .i64 p, .int .i32 q, .int .i64 r, .int .i64 z] 23)).cell? ⟨W.heap.size, i, none⟩ = #[.int .i64 a, .int .i32 b, .int .i64 c, .int .i64 d, .int .i64 p, .int .i32 q, .int .i64 r, .int .i64 z][i]? := fun i => by
    unfold World.cell?
    rw [heap_alloc_new]
    rfl
  simp only [hc]
  have : j = 0 ∨ j = 1 := by simp at hj; omega
  rcases this with rfl | rfl <;> exact ⟨rfl, rfl, rfl, rfl⟩
set_option maxHeartbeats 4000000 in
set_option maxRecDepth 100000 in
theorem struck_any (w : World) (hE : Env w) : Calls Tryd.prog 8 #[] w fun e w' => e = .returned (.bool true) ∧ Below w.heap.size w w' := by
  have HW := write_6 0 0 4 true w hE.tab (by decide +kernel) (by decide) (by decide)
  rw [wr_struck] at HW
  have HRd := fun W (h : Env W) => read_any ⟨#[27, 91, 49, 59, 53, 65, 113, 27]⟩ false (by decide) W h
  rw [show (⟨#[27, 91, 49, 59, 53, 65, 113, 27]⟩ : ByteArray).data.toList = [27, 91, 49, 59, 53, 65, 113, 27] from rfl, rd_struck] at HRd
  simp only at HRd
  rw [show bs [27, 91, 49, 59, 53, 65] = ⟨#[27, 91, 49, 59, 53, 65]⟩ from rfl] at HW
  rw [show bs [27] = ⟨#[27]⟩ from rfl] at HRd
  have HEq := fun v1 v2 W h1 h2 => equal_any v1 v2 [⟨6, 0, 0, 4⟩, ⟨1, 113, 0, 0⟩] W h1 h2 (by simp)
  unfold kyv at HW
  simp only at HW
  go_enter Tryd.func8, Tryd.ntmps8
  go_wp2_with (first | (go_at_call 6; refine HW.mono ?_; rintro e W1 ⟨rfl, b1⟩) | (go_at_call 11; refine (HRd _ (hE.below b1)).mono ?_; rintro e W2 ⟨v, rfl, ho, b2⟩) | (go_at_call 13; refine (HEq _ _ _ (ho.sl.below ((Below.refl _ _).alloc (Nat.le_refl _) _)) (two_keys _ _ _ _ _ _ _ _ _)).mono ?_; rintro e W3 ⟨rfl, b3⟩))
  go_ret
  have k2 := b1.trans (b2.mono b1.size)
  have k3 := k2.alloc k2.size (.cells #[.int .i64 6, .int .i32 0, .int .i64 0, .int .i64 4, .int .i64 1, .int .i32 113, .int .i64 0, .int .i64 0] 23)
  exact ⟨rfl, k3.trans (b3.mono k3.size)⟩
end Kys
end Go.Proofs.YtdmooeoklcjplaaDoor

/- The walk of the law KeysName. (Written by gen_keysnamel.py.) -/
namespace Go.Proofs.YtdmooeoklcjplaaDoor
open Go.ChangeShapes Go.WideShapes Go.ChangeAt Go.RowKit Go.Maps
namespace Kys
open Txt (wd bs dec)
/-- All that the law's calls read lies there. -/
def AllT (w : World) : Prop := Env w ∧ NameTab w ∧ HoldTab w ∧ SpTab w
theorem AllT.below {w w' : World} (h : AllT w) (hb : Below w.heap.size w w') : AllT w' := ⟨h.1.below hb, h.2.1.below hb, h.2.2.1.below hb, h.2.2.2.below hb⟩
theorem none_ne (s : List UInt8) (h : named s = none) (y : Ky) (hy : chk y = true) : nameL y ≠ s := by
  intro e
  have := (named_name y hy).1
  rw [e, h] at this
  cases this
theorem str_ne {a : List UInt8} {s : ByteArray} (h : a ≠ s.data.toList) : ((bs a).toList == s.toList) = false := by
  rw [Lib.toList_data, Lib.toList_data]
  exact beq_eq_false_iff_ne.2 h
theorem wf_small (q f i : Nat) (h1 : q ≤ 16) (h2 : f ≤ 13) (h3 : i ≤ 8) : Wf ⟨(q : Int), 0, (f : Int), (i : Int)⟩ := by
  unfold Wf
  simp only
  omega
theorem rune_le (t : ByteArray) (pos : Nat) : (Utf8.decode t pos).1 ≤ 1114111 := by
  have h := Txt.dec_ok (t.data.toList.drop pos)
  rw [← Txt.decode_dec] at h
  unfold Txt.okRune at h
  omega
theorem wf_rune (r i : Nat) (h1 : r ≤ 1114111) (h3 : i ≤ 8) : Wf ⟨1, (r : Int), 0, (i : Int)⟩ := by
  unfold Wf
  simp only
  omega
/-- No key has this name: either a key can't be told, or its name is another. -/
def NoName (s : ByteArray) (a b c d : Int) : Prop :=
  (∀ W, Calls Tryd.prog 7 #[.agg #[.int .i64 a, .int .i32 b, .int .i64 c, .int .i64 d]] W fun e w' => e = .returned (.bool false) ∧ Below W.heap.size W w') ∨
  ((∀ W, Calls Tryd.prog 7 #[.agg #[.int .i64 a, .int .i32 b, .int .i64 c, .int .i64 d]] W fun e w' => e = .returned (.bool true) ∧ Below W.heap.size W w') ∧
    ∃ ty : ByteArray, (∀ W, AllT W → Calls Tryd.prog 16 #[.agg #[.int .i64 a, .int .i32 b, .int .i64 c, .int .i64 d]] W fun e w' => e = .returned (.string ty) ∧ Below W.heap.size W w') ∧ (ty.toList == s.toList) = false)
theorem no_name (s : ByteArray) (hn : named s.data.toList = none) (a b c d : Int) (hy : Wf ⟨a, b, c, d⟩) : NoName s a b c d := by
  have HI := fun W => isKey_any ⟨a, b, c, d⟩ W hy
  by_cases hk : chk ⟨a, b, c, d⟩ = true
  · rw [hk] at HI
    exact .inr ⟨HI, bs (nameL ⟨a, b, c, d⟩), fun W h => keyName_any ⟨a, b, c, d⟩ hk W h.2.2.2, str_ne (none_ne _ hn _ hk)⟩
  · rw [show chk ⟨a, b, c, d⟩ = false by simpa using hk] at HI
    exact .inl HI
theorem str_eq {a : List UInt8} {s : ByteArray} (h : a = s.data.toList) : bs a = s := by
  rw [h]
  rfl
set_option maxHeartbeats 4000000 in
set_option maxRecDepth 100000 in
theorem name_law_ff (k : Ky) (s : ByteArray) (hs : s.size ≤ 140737488351232) (w : World) (hE : AllT w) (hf : Wf k) (hk : chk k = false) (hn : named s.data.toList = none) : Calls Tryd.prog 5 #[kyv k, .string s] w fun e w' => e = .returned (.bool true) ∧ Below w.heap.size w w' := by
  have HEV : Hid (∀ W, Below w.heap.size w W → AllT W) := fun W h => hE.below h
  have HND := fun W (h : AllT W) => named_any s hs W h.1 h.2.1 h.2.2.1
  rw [hn] at HND
  simp only [Option.getD_none, Option.isSome_none, Bool.false_eq_true, if_false, zk] at HND
  have HNE : Hid (∀ a b c d, Wf ⟨a, b, c, d⟩ → NoName s a b c d) := fun a b c d hy => no_name s hn a b c d hy
  clear hn
  have HNm := fun W (h : AllT W) => name_no k hk W h.1.tab
  have HI := fun W => isKey_any k W hf
  rw [hk] at HI
  clear hE hk hf
  obtain ⟨kd, rr, nn, hh⟩ := k
  have kb : Below w.heap.size w (w.alloc (.cells #[.int .i64 kd, .int .i32 rr, .int .i64 nn, .int .i64 hh] 23)) := (Below.refl _ _).alloc (Nat.le_refl _) _
  unfold kyv at HNm HI HND ⊢
  simp only at HNm HI HND ⊢
  go_enter Tryd.func5, Tryd.ntmps5
  go_wp2_with (go_at_call 14; refine (HNm _ (HEV.out _ kb)).mono ?_; rintro e W1 ⟨rfl, b1⟩; have k1 := kb.trans (b1.mono kb.size); have y1 := held_block b1; clear HNm)
  refine (HND W1 (HEV.out _ k1)).mono ?_
  rintro e W2 ⟨rfl, b2⟩
  have k2 := k1.trans (b2.mono k1.size)
  have y2 := by_block y1 b2
  clear HND
  go_wp2_with fail
  have k3 := k2.alloc k2.size (.cells #[.int .i64 0, .int .i32 0, .int .i64 0, .int .i64 0] 23)
  have x3 := heap_alloc_new W2 (.cells #[.int .i64 0, .int .i32 0, .int .i64 0, .int .i64 0] 23)
  have y3 := by_block y2 ((Below.refl _ _).alloc (Nat.le_refl _) (.cells #[.int .i64 0, .int .i32 0, .int .i64 0, .int .i64 0] 23))
  have HS := struck_any _ (HEV.out _ k3).1
  refine HS.mono ?_
  rintro e W4 ⟨rfl, b4⟩
  have k4 := k3.trans (b4.mono k3.size)
  have y4 := by_block y3 b4
  have x4 := by_block x3 b4
  obtain ⟨⟨c0, c1, c2, c3⟩, _⟩ := four_cells y4
  generalize W2.heap.size = X at *
  clear HS k3 x3 y3 b4 b1 b2 k1 k2 y1 y2 kb
  go_wp2_with fail
  refine (HI W4).mono ?_
  rintro e W5 ⟨rfl, b5⟩
  have k5 := k4.trans (b5.mono k4.size)
  have y5 := by_block y4 b5
  have x5 := by_block x4 b5
  obtain ⟨⟨g0, g1, g2, g3⟩, _⟩ := four_cells x5
  clear HI c0 c1 c2 c3 x4 y4 b5 k4
  go_wp2_with fail
  clear y5 x5 g0 g1 g2 g3
  have HSZ : Hid (s.size ≤ 140737488351232) := hs
  clear hs
  go_loopg [62] 8 (fun g v wr => ∃ i : Nat, i ≤ 8 ∧ 8 - i ≤ g ∧ v = .int .i64 (i : Int) ∧ Below w.heap.size w wr)
  case atStart => exact ⟨0, by omega, by omega, rfl, k5⟩
  case round =>
    obtain ⟨i, hi, hg, rfl, kr⟩ := hrel
    clear k5
    by_cases h8 : i = 8
    · subst h8
      go_wp2_with fail
      go_ret
      exact ⟨rfl, kr⟩
    · have hi8 : (i : Int) < 8 := by omega
      go_wp2_with fail
      go_loopg [10] 14 (fun g v wr => ∃ q : Nat, 2 ≤ q ∧ q ≤ 16 ∧ 16 - q ≤ g ∧ v = .int .i64 (q : Int) ∧ Below w.heap.size w wr)
      case atStart => exact ⟨2, by omega, by omega, by omega, rfl, kr⟩
      case round =>
        obtain ⟨q, q2, q16, hg2, rfl, kq⟩ := hrel
        clear kr
        by_cases h16 : q = 16
        · have hq16 : (15 : Int) < (q : Int) := by omega
          clear h16
          have hcat : ¬ 9223372036854775807 < s.size + 1 := by have := HSZ.out; omega
          have hwi : wrap64 ((i : Int) + 1) = (i : Int) + 1 := by unfold wrap64; omega
          go_wp2_with fail
          have it0 : (wr.iter (s ++ ⟨#[32]⟩) 0).heap[wr.heap.size]? = some (.stringIter (s ++ ⟨#[32]⟩) 0) := World.iter_heap wr _ 0
          have kb0 : Below w.heap.size w (wr.iter (s ++ ⟨#[32]⟩) 0) := kq.alloc kq.size _
          have hIT : w.heap.size ≤ wr.heap.size := kq.size
          generalize wr.iter (s ++ ⟨#[32]⟩) 0 = V0 at *
          generalize wr.heap.size = IT at *
          have hts : (s ++ ⟨#[32]⟩ : ByteArray).size ≤ 281474976710656 := by rw [ByteArray.size_append]; show s.size + 1 ≤ _; have := HSZ.out; omega
          generalize (s ++ ⟨#[32]⟩ : ByteArray) = t at *
          clear kq
          go_loopw [14] (fun _ wv => ∃ pos : Nat, wv.heap[IT]? = some (.stringIter t pos) ∧ Below w.heap.size w wv ∧ pos ≤ t.size) (fun _ wv => t.size - wv.iterPos IT)
          case atStart => exact ⟨0, it0, kb0, Nat.zero_le _⟩
          case round =>
            obtain ⟨pos, hit, kv, hps⟩ := hrel
            clear it0 kb0
            have hsz : IT < wr.heap.size := (Array.getElem?_eq_some_iff.1 hit).1
            by_cases hp : pos < t.size
            · have hnx : ∀ ty, (Instr.next (.pointer (some ⟨IT, 0, none⟩)) true ty).run Tryd.prog wr = _ := fun ty => Lib.run_next_any_at wr IT t pos ty hit hp
              have hwd := Txt.width_pos t pos hp
              have hfit := Txt.decode_fits t pos hp
              have hrn := rune_le t pos
              have hit2 := Lib.iterAt_heap wr IT t pos (pos + (Utf8.decode t pos).2) hit
              have kv2 := Lib.below_iterAt kv (k := IT) hIT t (pos + (Utf8.decode t pos).2)
              have hsz2 : IT < (wr.iterAt IT t (pos + (Utf8.decode t pos).2)).heap.size := by rw [Lib.iterAt_size]; exact hsz
              have HIP : Hid (wr.iterPos IT = pos) := by simp only [Hid, World.iterPos, hit]
              clear hit
              generalize Utf8.decode t pos = d at *
              have ka := kv2.alloc kv2.size (.cells #[.int .i64 1, .int .i32 (d.1 : Int), .int .i64 0, .int .i64 (i : Int)] 23)
              have hit3 := by_block hit2 ((Below.refl _ _).alloc (Nat.le_refl _) (.cells #[.int .i64 1, .int .i32 (d.1 : Int), .int .i64 0, .int .i64 (i : Int)] 23))
              rcases HNE.out 1 (d.1 : Int) 0 (i : Int) (wf_rune d.1 i hrn hi) with HIy | ⟨HIy, ty, HKy, hne⟩
              · go_wp2_with fail
                refine (HIy _).mono ?_
                rintro e V1 ⟨rfl, b1⟩
                have ka1 := ka.trans (b1.mono ka.size)
                have hit4 := by_block hit3 b1
                clear HIy
                go_wp2_with fail
                go_roundw
                case rel => exact ⟨pos + d.2, hit4, ka1, by omega⟩
                case measure =>
                  rw [HIP.out]
                  simp only [World.iterPos, hit4]
                  omega
              · go_wp2_with fail
                refine (HIy _).mono ?_
                rintro e V1 ⟨rfl, b1⟩
                have z1 := held_block b1
                obtain ⟨⟨c0, c1, c2, c3⟩, _⟩ := four_cells z1
                have ka1 := ka.trans (b1.mono ka.size)
                have hit4 := by_block hit3 b1
                clear HIy
                go_wp2_with fail
                refine (HKy _ (HEV.out _ ka1)).mono ?_
                rintro e V2 ⟨rfl, b2⟩
                have ka2 := ka1.trans (b2.mono ka1.size)
                have hit5 := by_block hit4 b2
                clear HKy c0 c1 c2 c3
                go_wp2_with fail
                go_roundw
                case rel => exact ⟨pos + d.2, hit5, ka2, by omega⟩
                case measure =>
                  rw [HIP.out]
                  simp only [World.iterPos, hit5]
                  omega
            · have hnx : ∀ ty, (Instr.next (.pointer (some ⟨IT, 0, none⟩)) true ty).run Tryd.prog wr = _ := fun ty => Lib.run_next_end_at wr IT t pos ty hit hp
              go_wp2_with fail
              go_roundg (8 - (i + 1))
              case measure => omega
              case rel => exact ⟨i + 1, by omega, by omega, by go_num, kv⟩
        · have hq15 : ¬ (15 : Int) < (q : Int) := by omega
          go_wp2_with fail
          go_loopg [69] 13 (fun g v wr => ∃ f : Nat, f ≤ 13 ∧ 13 - f ≤ g ∧ v = .int .i64 (f : Int) ∧ Below w.heap.size w wr)
          case atStart => exact ⟨0, by omega, by omega, rfl, kq⟩
          case round =>
            obtain ⟨f, f13, hg3, rfl, kf⟩ := hrel
            clear kq
            by_cases h13 : f = 13
            · subst h13
              have hwq : wrap64 ((q : Int) + 1) = (q : Int) + 1 := by unfold wrap64; omega
              go_wp2_with fail
              go_roundg (16 - (q + 1))
              case measure => omega
              case rel => exact ⟨q + 1, by omega, by omega, by omega, by go_num, kf⟩
            · have hf13 : (f : Int) < 13 := by omega
              have hwf : wrap64 ((f : Int) + 1) = (f : Int) + 1 := by unfold wrap64; omega
              have ka := kf.alloc kf.size (.cells #[.int .i64 (q : Int), .int .i32 0, .int .i64 (f : Int), .int .i64 (i : Int)] 23)
              rcases HNE.out (q : Int) 0 (f : Int) (i : Int) (wf_small q f i q16 f13 hi) with HIy | ⟨HIy, ty, HKy, hne⟩
              · go_wp2_with fail
                refine (HIy _).mono ?_
                rintro e V1 ⟨rfl, b1⟩
                have ka1 := ka.trans (b1.mono ka.size)
                clear HIy
                go_wp2_with fail
                go_roundg (13 - (f + 1))
                case measure => omega
                case rel => exact ⟨f + 1, by omega, by omega, by go_num, ka1⟩
              · go_wp2_with fail
                refine (HIy _).mono ?_
                rintro e V1 ⟨rfl, b1⟩
                have z1 := held_block b1
                obtain ⟨⟨c0, c1, c2, c3⟩, _⟩ := four_cells z1
                have ka1 := ka.trans (b1.mono ka.size)
                clear HIy
                go_wp2_with fail
                refine (HKy _ (HEV.out _ ka1)).mono ?_
                rintro e V2 ⟨rfl, b2⟩
                have ka2 := ka1.trans (b2.mono ka1.size)
                clear HKy c0 c1 c2 c3
                go_wp2_with fail
                go_roundg (13 - (f + 1))
                case measure => omega
                case rel => exact ⟨f + 1, by omega, by omega, by go_num, ka2⟩
end Kys
end Go.Proofs.YtdmooeoklcjplaaDoor

/- What the row of KeysName lists besides: the library's table of blanks. -/
namespace Go.Proofs.YtdmooeoklcjplaaDoor
open Go.ChangeShapes Go.WideShapes Go.ChangeAt Go.RowKit
namespace Kys
set_option maxRecDepth 100000 in
theorem sp_of_reads {w : World} (h : Lib.VarReads Tryd.prog w "strings.asciiSpace" Rows.laid_strings_asciiSpace) : SpTab w := by
  obtain ⟨g, t, cs, fuel, p, hg, hty, hvar, hd⟩ := h
  obtain rfl := Option.some.inj ((show Tryd.prog.globalNamed "strings.asciiSpace" = some 2 by kernel_rfl).symm.trans hg)
  obtain rfl := Option.some.inj ((show (Tryd.prog.globals[2]?).map (fun x => x.type) = some 80 by kernel_rfl).symm.trans hty)
  have hd2 : DataW.trod _ Tryd.prog w _ _ _ fuel 80 cs.toList = some (Lib.tabData .u8 Lib.asciiSpaceTab, p) := hd.trans (by congr 2)
  have h := Lib.cells_of_tab Tryd.underlying80 Tryd.underlying5 (by kernel_rfl) (by kernel_rfl) hd2
  unfold SpTab Lib.TabIs
  rw [hvar, ← h]
end Kys
end Go.Proofs.YtdmooeoklcjplaaDoor
