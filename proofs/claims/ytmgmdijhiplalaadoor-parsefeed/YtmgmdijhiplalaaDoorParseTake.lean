/- One byte. (Written by gen_parsetake.py.) -/
import Derived.Test.YtmgmdijhiplalaaDoorParseCmd3
namespace Go.Proofs.YtmgmdijhiplalaaDoor
open Go.ChangeShapes Go.WideShapes Go.ChangeAt Go.RowKit
namespace Prs

set_option maxHeartbeats 1000000 in
set_option maxRecDepth 100000 in
theorem acts_any (w : World) : Calls Tryd.prog 41 #[] w fun e w' => e = .returned (.agg #[.func (.func 64) #[] #[], .func (.func 65) #[] #[], .func (.func 66) #[] #[], .func (.func 67) #[] #[], .func (.func 68) #[] #[], .func (.func 69) #[] #[]]) ∧ Below w.heap.size w w' := by
  go_enter Tryd.func41, Tryd.ntmps41
  go_wp2_with (refine wpList_store_row rfl 75 (.tmp 0) _ rfl w.heap.size #[.func (.func 64) #[] #[], .func (.func 65) #[] #[], .func (.func 66) #[] #[], .func (.func 67) #[] #[], .func (.func 68) #[] #[], .func (.func 69) #[] #[]] rfl rfl _ _ (heap_alloc_new w _) (by kernel_rfl) rfl (by simp [Value.oneCell']) ?_)
  (try simp only [Exit.inBlock, Exit.then])
  refine bodyPost_ret (v := .agg #[.func (.func 64) #[] #[], .func (.func 65) #[] #[], .func (.func 66) #[] #[], .func (.func 67) #[] #[], .func (.func 68) #[] #[], .func (.func 69) #[] #[]]) ?_ rfl ⟨rfl, below_setRow ((Below.refl _ _).alloc (Nat.le_refl _) _) (Nat.le_refl _) _⟩
  exact results_cell_row rfl _ _ w.heap.size _ _ _ _ rfl (setRow_heap _ _ _ _ _ _ (heap_alloc_new w _)) Tryd.underlying75 rfl (by kernel_rfl)
theorem und_acts : Tryd.prog.underlying 75 = some (.array 6 74) := by kernel_rfl
theorem idx0 (w : World) : (Instr.index 75 (.agg #[.func (.func 64) #[] #[], .func (.func 65) #[] #[], .func (.func 66) #[] #[], .func (.func 67) #[] #[], .func (.func 68) #[] #[], .func (.func 69) #[] #[]]) (.int .i64 0)).run Tryd.prog w = .ok (.func (.func 64) #[] #[]) w := by
  simp [Instr.index, run_underlying und_acts, asIntOf, go_sem]
theorem idx1 (w : World) : (Instr.index 75 (.agg #[.func (.func 64) #[] #[], .func (.func 65) #[] #[], .func (.func 66) #[] #[], .func (.func 67) #[] #[], .func (.func 68) #[] #[], .func (.func 69) #[] #[]]) (.int .i64 1)).run Tryd.prog w = .ok (.func (.func 65) #[] #[]) w := by
  simp [Instr.index, run_underlying und_acts, asIntOf, go_sem]
theorem idx2 (w : World) : (Instr.index 75 (.agg #[.func (.func 64) #[] #[], .func (.func 65) #[] #[], .func (.func 66) #[] #[], .func (.func 67) #[] #[], .func (.func 68) #[] #[], .func (.func 69) #[] #[]]) (.int .i64 2)).run Tryd.prog w = .ok (.func (.func 66) #[] #[]) w := by
  simp [Instr.index, run_underlying und_acts, asIntOf, go_sem]
theorem idx3 (w : World) : (Instr.index 75 (.agg #[.func (.func 64) #[] #[], .func (.func 65) #[] #[], .func (.func 66) #[] #[], .func (.func 67) #[] #[], .func (.func 68) #[] #[], .func (.func 69) #[] #[]]) (.int .i64 3)).run Tryd.prog w = .ok (.func (.func 67) #[] #[]) w := by
  simp [Instr.index, run_underlying und_acts, asIntOf, go_sem]
theorem idx4 (w : World) : (Instr.index 75 (.agg #[.func (.func 64) #[] #[], .func (.func 65) #[] #[], .func (.func 66) #[] #[], .func (.func 67) #[] #[], .func (.func 68) #[] #[], .func (.func 69) #[] #[]]) (.int .i64 4)).run Tryd.prog w = .ok (.func (.func 68) #[] #[]) w := by
  simp [Instr.index, run_underlying und_acts, asIntOf, go_sem]
theorem idx5 (w : World) : (Instr.index 75 (.agg #[.func (.func 64) #[] #[], .func (.func 65) #[] #[], .func (.func 66) #[] #[], .func (.func 67) #[] #[], .func (.func 68) #[] #[], .func (.func 69) #[] #[]]) (.int .i64 5)).run Tryd.prog w = .ok (.func (.func 69) #[] #[]) w := by
  simp [Instr.index, run_underlying und_acts, asIntOf, go_sem]
/-- What a reader keeps to. -/
def Fit (s : St) : Prop := 0 ≤ s.at' ∧ s.at' ≤ 5 ∧ (s.late = true → s.at' = 4) ∧ s.ps.length ≤ 16 ∧ ∀ y, y ∈ s.ps → y ≤ 9999
set_option maxHeartbeats 8000000 in
set_option maxRecDepth 100000 in
theorem take_any (x : UInt8) {w0 : World} {R T : Nat} {s : St} {es : List Ev} {W : World} (hT : Tabs w0) (h : RdE w0 R T s es W) (hn : es.length + s.left.size ≤ 1000000) (hF : Fit s) :
    Calls Tryd.prog 19 #[.pointer (some ⟨R, 0, none⟩), .int .u8 (x.toNat : Int)] W fun e W' => e = .returned (.tuple #[]) ∧ RdE w0 R T (take s x).1 (es ++ (take s x).2) W' := by
  obtain ⟨N, pv, tv, eqs, h⟩ := h
  obtain ⟨f0, f5, fl, h16, hlo⟩ := hF
  obtain ⟨c0, c1, c2, c3, c4, c5, c6, c7, cf⟩ := h.cells
  have HL : Hid (∀ y, y ∈ s.ps → y ≤ 9999) := hlo
  have HT : Hid (Tabs w0) := hT
  have HF : Hid (s.late = true → s.at' = 4) := fl
  have HR : Hid (Rd w0 R T s es W N pv tv eqs) := h
  have HE : Hid (take s x = if (woken s x).at' ≠ 4 ∧ isCtl x = true then control (woken s x) x else acts (woken s x) x) := rfl
  generalize take s x = res at HE ⊢
  clear hlo hT fl
  by_cases wk : s.late = true ∧ x.toNat ≠ 92
  · have ew : woken s x = bare 1 := if_pos wk
    have wl : s.late = true := wk.1
    have y92 : ¬ (x.toNat : Int) = 92 := by omega
    have b92 : ((x.toNat : Int) == 92) = false := by rw [beq_eq_false_iff_ne]; exact y92
    have HX := enter_any 1 h
    clear h
    cases hc : isCtl x with
    | true =>
      go_enter Tryd.func19, Tryd.ntmps19
      go_wp2_with fail
      refine HX.mono ?_
      rintro e W1 ⟨rfl, -, h1⟩
      obtain ⟨d0, d1, d2, d3, d4, d5, d6, d7, df⟩ := h1.cells
      have HC := isControl_any x W1
      rw [hc] at HC
      have HO := control_any x ⟨_, _, _, _, h1⟩ (by show es.length + 0 ≤ _; omega)
      clear h1
      change W1.cell? ⟨R, 0, none⟩ = some (.int .i64 1) at d0
      go_wp2_with fail
      refine HC.mono ?_
      rintro e w1 ⟨rfl, hw1⟩
      rw [hw1]
      clear hw1 w1
      go_wp2_with fail
      refine HO.mono ?_
      rintro e W2 ⟨rfl, h2⟩
      go_wp2_with fail
      refine bodyPost_ret (v := .tuple #[]) (results_none rfl _ _ _) rfl ?_
      rw [HE.out, ew, if_pos ⟨by decide, hc⟩]
      exact ⟨rfl, h2⟩
    | false =>
      go_enter Tryd.func19, Tryd.ntmps19
      go_wp2_with fail
      refine HX.mono ?_
      rintro e W1 ⟨rfl, -, h1⟩
      obtain ⟨d0, d1, d2, d3, d4, d5, d6, d7, df⟩ := h1.cells
      have HC := isControl_any x W1
      rw [hc] at HC
      have HS : Hid (Rd w0 R T (bare 1) es W1.drew N (.slice none 0 0) tv eqs) := h1.below ((Below.refl _ _).drew)
      clear h1
      change W1.cell? ⟨R, 0, none⟩ = some (.int .i64 1) at d0
      have hix := idx1
      go_wp2_with fail
      refine HC.mono ?_
      rintro e w1 ⟨rfl, hw1⟩
      rw [hw1]
      clear hw1 w1
      go_wp2_with fail
      go_region_with (first
        | (go_at_call 41; refine (acts_any _).mono ?_; rintro e Wa ⟨rfl, ba⟩; have hra := (HS.out).below ba; obtain ⟨g0, g1, g2, g3, g4, g5, g6, g7, gf⟩ := hra.cells; have g0' : Wa.cell? ⟨R, 0, none⟩ = some (.int .i64 1) := g0; clear g0; have HRA : Hid (Rd w0 R T (bare 1) es Wa _ _ _ _) := hra; clear hra)
        | (go_at_call 65; refine (inEscape_any x ⟨_, _, _, _, HRA.out⟩ (by omega)).mono ?_; rintro e Wb ⟨rfl, hrb⟩))
      all_goals go_wp2_with fail
      all_goals go_end0
      all_goals rw [HE.out, ew, if_neg (by rw [hc]; simp), show acts (bare 1) x = inEscape x from rfl]
      all_goals exact ⟨rfl, hrb⟩
  · have ew : woken s x = s := if_neg wk
    rw [ew] at HE
    cases hl : s.late with
    | true =>
      have x92 : x.toNat = 92 := by
        rcases Nat.decEq x.toNat 92 with q | q
        · exact absurd ⟨hl, q⟩ wk
        · exact q
      have b92 : ((x.toNat : Int) == 92) = true := by rw [beq_iff_eq]; omega
      have nb92 : ((x.toNat : Int) != 92) = false := by simp [x92]
      clear x92 wk
      have a4 : s.at' = 4 := HF.out hl
      have A4 : Hid (s.at' = 4) := a4
      have HS : Hid (Rd w0 R T s es W.drew N pv tv eqs) := h.below ((Below.refl _ _).drew)
      clear h
      have hix := idx4
      rw [a4] at c0
      go_enter Tryd.func19, Tryd.ntmps19
      go_wp2_with fail
      go_region_with (first
        | (go_at_call 41; refine (acts_any _).mono ?_; rintro e Wa ⟨rfl, ba⟩; have hra := (HS.out).below ba; obtain ⟨g0, g1, g2, g3, g4, g5, g6, g7, gf⟩ := hra.cells; have g0' : Wa.cell? ⟨R, 0, none⟩ = some (.int .i64 4) := (by rw [g0, A4.out]); clear g0; have HRA : Hid (Rd w0 R T s es Wa _ _ _ _) := hra; clear hra)
        | (go_at_call 68; refine (inSystem_any x ⟨_, _, _, _, HRA.out⟩ (by omega)).mono ?_; rintro e Wb ⟨rfl, hrb⟩))
      all_goals go_wp2_with fail
      all_goals go_end0
      all_goals rw [HE.out, if_neg (fun q => q.1 A4.out), show acts s x = inSystem s x from by unfold acts; rw [if_neg (by rw [A4.out]; decide)]; rw [if_neg (by rw [A4.out]; decide)]; rw [if_neg (by rw [A4.out]; decide)]; rw [if_neg (by rw [A4.out]; decide)]; rw [if_pos A4.out]]
      all_goals exact ⟨rfl, hrb⟩
    | false =>
      clear wk
      by_cases a4 : s.at' = 4
      · have A4 : Hid (s.at' = 4) := a4
        have HS : Hid (Rd w0 R T s es W.drew N pv tv eqs) := h.below ((Below.refl _ _).drew)
        clear h
        have hix := idx4
        rw [a4] at c0
        go_enter Tryd.func19, Tryd.ntmps19
        go_wp2_with fail
        go_region_with (first
          | (go_at_call 41; refine (acts_any _).mono ?_; rintro e Wa ⟨rfl, ba⟩; have hra := (HS.out).below ba; obtain ⟨g0, g1, g2, g3, g4, g5, g6, g7, gf⟩ := hra.cells; have g0' : Wa.cell? ⟨R, 0, none⟩ = some (.int .i64 4) := (by rw [g0, A4.out]); clear g0; have HRA : Hid (Rd w0 R T s es Wa _ _ _ _) := hra; clear hra)
          | (go_at_call 68; refine (inSystem_any x ⟨_, _, _, _, HRA.out⟩ (by omega)).mono ?_; rintro e Wb ⟨rfl, hrb⟩))
        all_goals go_wp2_with fail
        all_goals go_end0
        all_goals rw [HE.out, if_neg (fun q => q.1 A4.out), show acts s x = inSystem s x from by unfold acts; rw [if_neg (by rw [A4.out]; decide)]; rw [if_neg (by rw [A4.out]; decide)]; rw [if_neg (by rw [A4.out]; decide)]; rw [if_neg (by rw [A4.out]; decide)]; rw [if_pos A4.out]]
        all_goals exact ⟨rfl, hrb⟩
      · have n4 : (s.at' == 4) = false := by rw [beq_eq_false_iff_ne]; exact a4
        cases hc : isCtl x with
        | true =>
          have HC := isControl_any x W
          rw [hc] at HC
          have HO := control_any x ⟨_, _, _, _, h⟩ hn
          clear h
          go_enter Tryd.func19, Tryd.ntmps19
          go_wp2_with fail
          refine HC.mono ?_
          rintro e w1 ⟨rfl, hw1⟩
          rw [hw1]
          clear hw1 w1
          go_wp2_with fail
          refine HO.mono ?_
          rintro e W2 ⟨rfl, h2⟩
          go_wp2_with fail
          refine bodyPost_ret (v := .tuple #[]) (results_none rfl _ _ _) rfl ?_
          rw [HE.out, if_pos ⟨a4, hc⟩]
          exact ⟨rfl, h2⟩
        | false =>
          by_cases a0 : s.at' = 0
          · have A0 : Hid (s.at' = 0) := a0
            have HS : Hid (Rd w0 R T s es W.drew N pv tv eqs) := h.below ((Below.refl _ _).drew)
            clear h
            have hix := idx0
            rw [a0] at c0
            have HC := isControl_any x W
            rw [hc] at HC
            go_enter Tryd.func19, Tryd.ntmps19
            go_wp2_with fail
            refine HC.mono ?_
            rintro e w1 ⟨rfl, hw1⟩
            rw [hw1]
            clear hw1 w1
            go_wp2_with fail
            go_region_with (first
              | (go_at_call 41; refine (acts_any _).mono ?_; rintro e Wa ⟨rfl, ba⟩; have hra := (HS.out).below ba; obtain ⟨g0, g1, g2, g3, g4, g5, g6, g7, gf⟩ := hra.cells; have g0' : Wa.cell? ⟨R, 0, none⟩ = some (.int .i64 0) := (by rw [g0, A0.out]); clear g0; have HRA : Hid (Rd w0 R T s es Wa _ _ _ _) := hra; clear hra)
              | (go_at_call 64; refine (inGround_any x HT.out ⟨_, _, _, _, HRA.out⟩ hn).mono ?_; rintro e Wb ⟨rfl, hrb⟩))
            all_goals go_wp2_with fail
            all_goals go_end0
            all_goals rw [HE.out, if_neg (by rw [hc]; simp), show acts s x = inGround s x from by unfold acts; rw [if_pos A0.out]]
            all_goals exact ⟨rfl, hrb⟩
          by_cases a1 : s.at' = 1
          · have A1 : Hid (s.at' = 1) := a1
            have HS : Hid (Rd w0 R T s es W.drew N pv tv eqs) := h.below ((Below.refl _ _).drew)
            clear h
            have hix := idx1
            rw [a1] at c0
            have HC := isControl_any x W
            rw [hc] at HC
            go_enter Tryd.func19, Tryd.ntmps19
            go_wp2_with fail
            refine HC.mono ?_
            rintro e w1 ⟨rfl, hw1⟩
            rw [hw1]
            clear hw1 w1
            go_wp2_with fail
            go_region_with (first
              | (go_at_call 41; refine (acts_any _).mono ?_; rintro e Wa ⟨rfl, ba⟩; have hra := (HS.out).below ba; obtain ⟨g0, g1, g2, g3, g4, g5, g6, g7, gf⟩ := hra.cells; have g0' : Wa.cell? ⟨R, 0, none⟩ = some (.int .i64 1) := (by rw [g0, A1.out]); clear g0; have HRA : Hid (Rd w0 R T s es Wa _ _ _ _) := hra; clear hra)
              | (go_at_call 65; refine (inEscape_any x ⟨_, _, _, _, HRA.out⟩ (by omega)).mono ?_; rintro e Wb ⟨rfl, hrb⟩))
            all_goals go_wp2_with fail
            all_goals go_end0
            all_goals rw [HE.out, if_neg (by rw [hc]; simp), show acts s x = inEscape x from by unfold acts; rw [if_neg (by rw [A1.out]; decide)]; rw [if_pos A1.out]]
            all_goals exact ⟨rfl, hrb⟩
          by_cases a2 : s.at' = 2
          · have A2 : Hid (s.at' = 2) := a2
            have HS : Hid (Rd w0 R T s es W.drew N pv tv eqs) := h.below ((Below.refl _ _).drew)
            clear h
            have hix := idx2
            rw [a2] at c0
            have HC := isControl_any x W
            rw [hc] at HC
            go_enter Tryd.func19, Tryd.ntmps19
            go_wp2_with fail
            refine HC.mono ?_
            rintro e w1 ⟨rfl, hw1⟩
            rw [hw1]
            clear hw1 w1
            go_wp2_with fail
            go_region_with (first
              | (go_at_call 41; refine (acts_any _).mono ?_; rintro e Wa ⟨rfl, ba⟩; have hra := (HS.out).below ba; obtain ⟨g0, g1, g2, g3, g4, g5, g6, g7, gf⟩ := hra.cells; have g0' : Wa.cell? ⟨R, 0, none⟩ = some (.int .i64 2) := (by rw [g0, A2.out]); clear g0; have HRA : Hid (Rd w0 R T s es Wa _ _ _ _) := hra; clear hra)
              | (go_at_call 66; refine (inMiddle_any x ⟨_, _, _, _, HRA.out⟩ (by omega)).mono ?_; rintro e Wb ⟨rfl, hrb⟩))
            all_goals go_wp2_with fail
            all_goals go_end0
            all_goals rw [HE.out, if_neg (by rw [hc]; simp), show acts s x = inMiddle s x from by unfold acts; rw [if_neg (by rw [A2.out]; decide)]; rw [if_neg (by rw [A2.out]; decide)]; rw [if_pos A2.out]]
            all_goals exact ⟨rfl, hrb⟩
          by_cases a3 : s.at' = 3
          · have A3 : Hid (s.at' = 3) := a3
            have HS : Hid (Rd w0 R T s es W.drew N pv tv eqs) := h.below ((Below.refl _ _).drew)
            clear h
            have hix := idx3
            rw [a3] at c0
            have HC := isControl_any x W
            rw [hc] at HC
            go_enter Tryd.func19, Tryd.ntmps19
            go_wp2_with fail
            refine HC.mono ?_
            rintro e w1 ⟨rfl, hw1⟩
            rw [hw1]
            clear hw1 w1
            go_wp2_with fail
            go_region_with (first
              | (go_at_call 41; refine (acts_any _).mono ?_; rintro e Wa ⟨rfl, ba⟩; have hra := (HS.out).below ba; obtain ⟨g0, g1, g2, g3, g4, g5, g6, g7, gf⟩ := hra.cells; have g0' : Wa.cell? ⟨R, 0, none⟩ = some (.int .i64 3) := (by rw [g0, A3.out]); clear g0; have HRA : Hid (Rd w0 R T s es Wa _ _ _ _) := hra; clear hra)
              | (go_at_call 67; refine (inCommand_any x ⟨_, _, _, _, HRA.out⟩ (by omega) h16 HL.out).mono ?_; rintro e Wb ⟨rfl, hrb⟩))
            all_goals go_wp2_with fail
            all_goals go_end0
            all_goals rw [HE.out, if_neg (by rw [hc]; simp), show acts s x = inCommand s x from by unfold acts; rw [if_neg (by rw [A3.out]; decide)]; rw [if_neg (by rw [A3.out]; decide)]; rw [if_neg (by rw [A3.out]; decide)]; rw [if_pos A3.out]]
            all_goals exact ⟨rfl, hrb⟩
          have a5 : s.at' = 5 := by omega
          have A5 : Hid (s.at' = 5) := a5
          have HS : Hid (Rd w0 R T s es W.drew N pv tv eqs) := h.below ((Below.refl _ _).drew)
          clear h
          have hix := idx5
          rw [a5] at c0
          have HC := isControl_any x W
          rw [hc] at HC
          go_enter Tryd.func19, Tryd.ntmps19
          go_wp2_with fail
          refine HC.mono ?_
          rintro e w1 ⟨rfl, hw1⟩
          rw [hw1]
          clear hw1 w1
          go_wp2_with fail
          go_region_with (first
            | (go_at_call 41; refine (acts_any _).mono ?_; rintro e Wa ⟨rfl, ba⟩; have hra := (HS.out).below ba; obtain ⟨g0, g1, g2, g3, g4, g5, g6, g7, gf⟩ := hra.cells; have g0' : Wa.cell? ⟨R, 0, none⟩ = some (.int .i64 5) := (by rw [g0, A5.out]); clear g0; have HRA : Hid (Rd w0 R T s es Wa _ _ _ _) := hra; clear hra)
            | (go_at_call 69; refine (inSkip_any x ⟨_, _, _, _, HRA.out⟩).mono ?_; rintro e Wb ⟨rfl, hrb⟩))
          all_goals go_wp2_with fail
          all_goals go_end0
          all_goals rw [HE.out, if_neg (by rw [hc]; simp), show acts s x = inSkip s x from by unfold acts; rw [if_neg (by rw [A5.out]; decide)]; rw [if_neg (by rw [A5.out]; decide)]; rw [if_neg (by rw [A5.out]; decide)]; rw [if_neg (by rw [A5.out]; decide)]; rw [if_neg (by rw [A5.out]; decide)]]
          all_goals exact ⟨rfl, hrb⟩
end Prs
end Go.Proofs.YtmgmdijhiplalaaDoor
