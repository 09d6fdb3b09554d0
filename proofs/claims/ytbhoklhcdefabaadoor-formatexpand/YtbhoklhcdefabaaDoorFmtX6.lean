/- The reference's expander: an item with a cut. (Written by gen_fmtx6.py.) -/
import Derived.Test.YtbhoklhcdefabaaDoorFmtX4
import Derived.Test.YtbhoklhcdefabaaDoorFmtCutL
namespace Go.Proofs.YtbhoklhcdefabaaDoor
open Go.ChangeShapes Go.WideShapes Go.ChangeAt Go.RowKit Go.Maps Go.Sort
namespace Fmt
open Txt (bs cutB)
theorem num_succ (t : ByteArray) (p q : Nat) (hpq : p ≤ q) (h : q < t.size) : num t p (q + 1) = num t p q * 10 + (((t[q]'h).toNat : Int) - 48) := by
  unfold num
  have hl : q - p < (t.data.toList.drop p).length := by
    have : t.data.toList.length = t.size := Array.length_toList
    rw [List.length_drop]
    omega
  have hg : (t.data.toList.drop p)[q - p] = t[q]'h := by
    rw [List.getElem_drop]
    simp only [show p + (q - p) = q by omega]
    rfl
  rw [show q + 1 - p = (q - p) + 1 by omega, List.take_succ_eq_append_getElem hl, List.foldl_append, hg]
  rfl
theorem run_end {t : ByteArray} {f : UInt8 → Bool} {n q : Nat} (h : ¬ q < t.size) : run f t n q = q := by
  cases n with
  | zero => rfl
  | succ n => rw [run, dif_neg h]
theorem num_self (t : ByteArray) (p : Nat) : num t p p = 0 := by
  unfold num
  rw [Nat.sub_self]
  rfl
theorem cut_none (n : Int) : cutB [] n = [] := by
  unfold Txt.cutB
  simp
theorem cutS_bs (v : List UInt8) (n : Int) : Txt.cutS ⟨v.toArray⟩ n = cutB v n := by
  unfold Txt.cutS Txt.cutB
  rw [Txt.runes_rn]
theorem ba_empty {z : ByteArray} (h : z.size ≤ 0) : z = bs [] := by
  obtain ⟨a⟩ := z
  have h1 : a.size = 0 := Nat.le_zero.1 h
  rw [Array.eq_empty_of_size_eq_zero h1]
  rfl
theorem u8_sub {c : UInt8} (h1 : 48 ≤ c.toNat) (h2 : c.toNat ≤ 57) : IntKind.u8.wrap ((c.toNat : Int) - 48) = (c.toNat : Int) - 48 := by
  exact IntWalk.u8_in _ ⟨by omega, by omega⟩
theorem pow_le {k : Nat} (h : k ≤ 2) : ((10 : Int) ^ k) ≤ 100 := by
  match k, h with
  | 0, _ => decide
  | 1, _ => decide
  | 2, _ => decide
set_option maxHeartbeats 8000000 in
set_option maxRecDepth 100000 in
theorem item_cut (w0 : World) (X : Nat) (t : ByteArray) (iv : Value) (j d : Nat) (I : List (ByteArray × ByteArray)) (w : World) (E : Env w0 X iv I) (hb : Below w0.heap.size w0 w) (h : ExAt w X t iv j (-1)) (hj : j ≤ t.size) (hs : t.size ≤ 4000) (h63 : nx t j 63 = false) (h61 : nx t j 61 = true) :
    Calls Tryd.prog 20 #[.pointer (some ⟨X, 0, none⟩), .int .i64 d] w fun e w' => PostX X t iv (4000 * (t.size - j)) w (closeR t (ctR t I (j + 1))) e w' := by
  have HEB : Hid (∀ W, But X w W → Below w0.heap.size w0 W) := fun W h => E.but hb h
  have HX : Hid (ExAt w X t iv j (-1)) := h
  obtain ⟨⟨c0, c1, _, _⟩, _⟩ := h.cells
  have ij : (j : Int) ≤ (t.size : Int) := Int.ofNat_le.2 hj
  have ij0 : (0 : Int) ≤ (j : Int) := Int.natCast_nonneg _
  have HP63 := fun W => Tryd.strings_HasPrefix (t.extract j t.size) ⟨#[63]⟩ W
  rw [extract_drop, show Lib.hasPrefix (t.data.toList.drop j) (⟨#[63]⟩ : ByteArray).data.toList = nx t j 63 from nexts_one t j 63] at HP63
  have HP61 := fun W => Tryd.strings_HasPrefix (t.extract j t.size) ⟨#[61]⟩ W
  rw [extract_drop, show Lib.hasPrefix (t.data.toList.drop j) (⟨#[61]⟩ : ByteArray).data.toList = nx t j 61 from nexts_one t j 61] at HP61
  clear h hb
  rw [h63] at HP63
  rw [h61] at HP61
  have hj1 := nx_lt h61
  have hw1 : wrap64 ((j : Int) + 1) = ((j + 1 : Nat) : Int) := w64_s (by omega) (by omega)
  obtain ⟨RR, hRR⟩ : ∃ RR, run isD t 3 (j + 1) = RR := ⟨_, rfl⟩
  have HRR0 : Hid (run isD t 3 (j + 1) = RR) := hRR
  clear h63 h61
  unfold ctR
  rw [hRR]
  by_cases hr0 : RR = j + 1
  · rw [if_pos hr0]
    show Calls _ _ _ _ fun e w' => PostX X t iv (4000 * (t.size - j)) w (.bad (j + 1)) e w'
    clear hRR
    go_enter Tryd.func20, Tryd.ntmps20
    go_wp2_with fail
    go_quiet (fail)
    have rV : ExAt (w.drewN nq) X t iv j (-1) := HX.out
    have bV : But X w (w.drewN nq) := ⟨rfl, rfl, rfl, Nat.le_refl _, fun _ _ _ => rfl⟩
    generalize w.drewN nq = V at *
    obtain ⟨⟨c0, c1, c2, c3⟩, hf⟩ := rV.cells
    have f1 := hf 1
    have r1 := ex_at rV (j + 1)
    have b1 := bV.setCell (i := 1) (.int .i64 ((j + 1 : Nat) : Int))
    clear c0 c2 c3 rV bV
    go_wp2_with fail
    refine (HP63 _).mono ?_
    rintro e W1 ⟨rfl, hw1'⟩
    obtain rfl := hw1'.symm
    go_wp2_with fail
    refine (HP61 _).mono ?_
    rintro e W1 ⟨rfl, hw1'⟩
    obtain rfl := hw1'.symm
    have HR1 : Hid (ExAt (V.setCell ⟨X, 1, none⟩ (.int .i64 ((j + 1 : Nat) : Int))) X t iv (j + 1) (-1) ∧ But X w (V.setCell ⟨X, 1, none⟩ (.int .i64 ((j + 1 : Nat) : Int)))) := ⟨r1, b1⟩
    obtain ⟨⟨_, y1, _, _⟩, _⟩ := r1.cells
    clear r1 b1 hf
    go_wp2_with fail
    clear c1 f1 y1 HP63 HP61
    go_loopg [11] (t.size + 1) (fun gg u11 wr => ∃ q : Nat, ExAt wr X t iv q (-1) ∧ But X w wr ∧ j + 1 ≤ q ∧ q - (j + 1) ≤ 3 ∧ q ≤ t.size ∧ t.size - q < gg ∧ run isD t (3 - (q - (j + 1))) q = RR ∧ u11 = .int .i64 (num t (j + 1) q) ∧ 0 ≤ num t (j + 1) q ∧ num t (j + 1) q < 10 ^ (q - (j + 1)))
    case atStart => exact ⟨j + 1, HR1.out.1, HR1.out.2, Nat.le_refl _, by omega, hj1, by clear hw1; omega, by rw [Nat.sub_self]; exact HRR0.out, by rw [num_self], by rw [num_self]; exact Int.le_refl _, by rw [num_self, Nat.sub_self]; decide⟩
    case round =>
      obtain ⟨q, hrr, hbt, hpq, hqm, hqs, hg, he, rfl, hn0, hn1⟩ := hrel
      obtain ⟨⟨c0, c1, c2, c3⟩, hf⟩ := hrr.cells
      have g0 := fun d os => cell_regrown c0 d os
      have g1 := fun d os => cell_regrown c1 d os
      have HRR : Hid (ExAt wr X t iv q (-1)) := hrr
      have HBT : Hid (But X w wr) := hbt
      have HE : Hid (run isD t (3 - (q - (j + 1))) q = RR) := he
      have HN01 : Hid (0 ≤ num t (j + 1) q ∧ num t (j + 1) q < 10 ^ (q - (j + 1))) := ⟨hn0, hn1⟩
      have hwf : IntKind.i64.wrap (((j + 1 : Nat) : Int) + 3) = ((j + 1 : Nat) : Int) + 3 := i64_s (by clear hw1; omega) (by clear hw1; omega)
      have hwf2 : IntKind.i64.wrap ((j : Int) + 1 + 3) = (j : Int) + 1 + 3 := i64_s (by clear hw1 hwf; omega) (by clear hw1 hwf; omega)
      clear hrr hbt HR1 he hn0 hn1
      have iq0 : (0 : Int) ≤ (q : Int) := Int.natCast_nonneg _
      by_cases hlt : q < t.size
      · have iq : (q : Int) < (t.size : Int) := Int.ofNat_lt.2 hlt
        have iqd : decide ((q : Int) < (t.size : Int)) = true := decide_eq_true iq
        have iqe : decide (q < t.size) = true := decide_eq_true hlt
        by_cases hlm : q - (j + 1) < 3
        · have im : (q : Int) < ((j + 1 : Nat) : Int) + 3 := by clear hw1 hwf hwf2; omega
          have imd : decide ((q : Int) < ((j + 1 : Nat) : Int) + 3) = true := decide_eq_true im
          have im2 : (q : Int) < (j : Int) + 1 + 3 := by clear hw1 hwf hwf2; omega
          have im2d : decide ((q : Int) < (j : Int) + 1 + 3) = true := decide_eq_true im2
          have hstep : run isD t (3 - (q - (j + 1))) q = if isD (t[q]'hlt) then run isD t (3 - (q + 1 - (j + 1))) (q + 1) else q := by
            rw [show 3 - (q - (j + 1)) = (3 - (q + 1 - (j + 1))) + 1 by clear hw1 hwf hwf2; omega, run, dif_pos hlt]
          by_cases k1 : 48 ≤ (t[q]'hlt).toNat
          · have k1i : (48 : Int) ≤ ((t[q]'hlt).toNat : Int) := Int.ofNat_le.2 k1
            have k1d : decide ((48 : Int) ≤ ((t[q]'hlt).toNat : Int)) = true := decide_eq_true k1i
            have k1e : decide (48 ≤ (t[q]'hlt).toNat) = true := decide_eq_true k1
            by_cases k2 : (t[q]'hlt).toNat ≤ 57
            · have k2i : ((t[q]'hlt).toNat : Int) ≤ 57 := Int.ofNat_le.2 k2
              have k2d : decide (((t[q]'hlt).toNat : Int) ≤ 57) = true := decide_eq_true k2i
              have k2e : decide ((t[q]'hlt).toNat ≤ 57) = true := decide_eq_true k2
              have hfc : isD (t[q]'hlt) = true := by unfold isD; rw [k1e, k2e]; rfl
              rw [hfc] at hstep
              have HE2 : Hid (run isD t (3 - (q + 1 - (j + 1))) (q + 1) = RR) := by
                show _ = _
                rw [← HE.out, hstep]
                rfl
              have hpw := pow_le (k := q - (j + 1)) (by clear hw1 hwf hwf2; omega)
              have HNX : Hid (num t (j + 1) (q + 1) = num t (j + 1) q * 10 + (((t[q]'hlt).toNat : Int) - 48)) := num_succ t (j + 1) q hpq hlt
              have hnn := HN01.out
              have HNB : Hid (0 ≤ num t (j + 1) (q + 1) ∧ num t (j + 1) (q + 1) < 10 ^ (q + 1 - (j + 1))) := by
                show _ ∧ _
                rw [HNX.out, show q + 1 - (j + 1) = (q - (j + 1)) + 1 by clear hw1 hwf hwf2; omega, Int.pow_succ]
                clear hw1 hwf hwf2
                omega
              have hn100 : num t (j + 1) q < 100 := by clear hw1 hwf hwf2; omega
              have hn00 : 0 ≤ num t (j + 1) q := hnn.1
              obtain ⟨n9, hn9⟩ : ∃ n9, num t (j + 1) (q + 1) = n9 := ⟨_, rfl⟩
              rw [hn9] at HNX HNB
              have HN9 : Hid (num t (j + 1) (q + 1) = n9) := hn9
              clear hn9
              generalize num t (j + 1) q = n8 at *
              have hu8 := u8_sub k1 k2
              clear hstep hfc HE hnn hpw HN01
              generalize hcc : (t[q]'hlt).toNat = cc at *
              have hm1 : IntKind.i64.wrap (n8 * 10) = n8 * 10 := i64_s (by clear hw1 hwf hwf2 hu8; omega) (by clear hw1 hwf hwf2 hu8; omega)
              have hm2 : IntKind.i64.wrap ((cc : Int) - 48) = (cc : Int) - 48 := i64_s (by clear hw1 hwf hwf2 hu8 hm1; omega) (by clear hw1 hwf hwf2 hu8 hm1; omega)
              have hm3 : IntKind.i64.wrap (n8 * 10 + ((cc : Int) - 48)) = n8 * 10 + ((cc : Int) - 48) := i64_s (by clear hw1 hwf hwf2 hu8 hm1 hm2; omega) (by clear hw1 hwf hwf2 hu8 hm1 hm2; omega)
              have hm4 : wrap64 (n8 * 10) = n8 * 10 := w64_s (by clear hw1 hwf hwf2 hu8 hm1 hm2 hm3; omega) (by clear hw1 hwf hwf2 hu8 hm1 hm2 hm3; omega)
              have hm5 : wrap64 (n8 * 10 + ((cc : Int) - 48)) = n8 * 10 + ((cc : Int) - 48) := w64_s (by clear hw1 hwf hwf2 hu8 hm1 hm2 hm3 hm4; omega) (by clear hw1 hwf hwf2 hu8 hm1 hm2 hm3 hm4; omega)
              have hwq : wrap64 ((q : Int) + 1) = ((q + 1 : Nat) : Int) := by clear hw1 hwf hwf2 hu8 hm1 hm2 hm3 hm4 hm5; unfold wrap64; omega
              subst hcc
              go_wp2_with fail
              go_quiet (fail)
              have rV : ExAt (wr.drewN nq) X t iv q (-1) := HRR.out
              have bV : But X w (wr.drewN nq) := ⟨HBT.out.os, HBT.out.tape, HBT.out.output, HBT.out.size, HBT.out.block⟩
              clear g0 g1 c0 c1 c2 c3 hf HRR HBT
              generalize wr.drewN nq = V at *
              obtain ⟨⟨c0, c1, c2, c3⟩, hf⟩ := rV.cells
              have f1 := hf 1
              go_wp2_with fail
              go_quiet (fail)
              have rU : ExAt (V.drewN nq) X t iv q (-1) := rV
              have bU : But X w (V.drewN nq) := ⟨bV.os, bV.tape, bV.output, bV.size, bV.block⟩
              clear c0 c1 c2 c3 hf f1 rV bV
              generalize V.drewN nq = U at *
              obtain ⟨⟨c0, c1, c2, c3⟩, hf⟩ := rU.cells
              have f1 := hf 1
              have rU2 := ex_at rU (q + 1)
              have bU2 := bU.setCell (i := 1) (.int .i64 ((q + 1 : Nat) : Int))
              clear hw1 hwf hwf2 hu8 hm1 hm2 hm3 hm4 hm5 iqd iqe imd im2d k1d k1e k2d k2e im im2 k1i k2i
              go_wp2_with fail
              clear hwq
              go_roundg (t.size - q)
              case measure => omega
              case rel =>
                refine ⟨q + 1, rU2, bU2, by omega, by omega, by omega, by omega, HE2.out, ?_, ?_, ?_⟩
                · rw [HN9.out, HNX.out]
                · rw [HN9.out]
                  exact HNB.out.1
                · rw [HN9.out]
                  exact HNB.out.2
            · have hfc : isD (t[q]'hlt) = false := by
                unfold isD
                rw [decide_eq_false k2, Bool.and_false]
              have k2i : ¬ ((t[q]'hlt).toNat : Int) ≤ 57 := by clear hw1 hwf hwf2; omega
              have k2d : decide (((t[q]'hlt).toNat : Int) ≤ 57) = false := decide_eq_false k2i
              have k2e : decide ((t[q]'hlt).toNat ≤ 57) = false := decide_eq_false k2
              rw [hfc, if_neg (by decide)] at hstep
              have HQ : Hid (q = j + 1) := by
                show q = j + 1
                rw [← hr0, ← HE.out, hstep]
              clear hstep HE HN01
              go_wp2_with fail
              refine wp_region_quiet_below (by kernel_rfl) (by kernel_rfl) ?_
              repeat (first | go_big_quiet_skip | (go_big_quiet_want; go_big_quiet_op; go_big_quiet_on) | quiet_step (fail))
              refine wpQuiet_nil ?_
              intro _ hw'
              obtain ⟨⟨dq, os⟩, hw''⟩ := hw'
              subst hw''
              have kR := below_regrown wr dq os
              have rV := HRR.out.below kR
              have bV := HBT.out.trans (But.of_below kR)
              clear g0 g1 c0 c1 c2 c3 hf kR HRR HBT
              generalize grow (redrawn wr dq) os = V at *
              obtain rfl := HQ.out
              have HF := fail_any X t iv (j + 1) (j + 1) _ rV
              obtain ⟨⟨c0, c1, c2, c3⟩, hf⟩ := rV.cells
              have f1 := hf 1
              go_wp2_with fail
              refine HF.mono ?_
              rintro e W ⟨rfl, r, b⟩
              go_wp2_with fail
              go_ret
              exact ⟨_, rfl, Nat.zero_le _, r, bV.trans b⟩
          · have hfc : isD (t[q]'hlt) = false := by
              unfold isD
              rw [decide_eq_false k1, Bool.false_and]
            have k1i : ¬ (48 : Int) ≤ ((t[q]'hlt).toNat : Int) := by clear hw1 hwf hwf2; omega
            have k1d : decide ((48 : Int) ≤ ((t[q]'hlt).toNat : Int)) = false := decide_eq_false k1i
            have k1e : decide (48 ≤ (t[q]'hlt).toNat) = false := decide_eq_false k1
            rw [hfc, if_neg (by decide)] at hstep
            have HQ : Hid (q = j + 1) := by
              show q = j + 1
              rw [← hr0, ← HE.out, hstep]
            clear hstep HE HN01
            go_wp2_with fail
            refine wp_region_quiet_below (by kernel_rfl) (by kernel_rfl) ?_
            repeat (first | go_big_quiet_skip | (go_big_quiet_want; go_big_quiet_op; go_big_quiet_on) | quiet_step (fail))
            refine wpQuiet_nil ?_
            intro _ hw'
            obtain ⟨⟨dq, os⟩, hw''⟩ := hw'
            subst hw''
            have kR := below_regrown wr dq os
            have rV := HRR.out.below kR
            have bV := HBT.out.trans (But.of_below kR)
            clear g0 g1 c0 c1 c2 c3 hf kR HRR HBT
            generalize grow (redrawn wr dq) os = V at *
            obtain rfl := HQ.out
            have HF := fail_any X t iv (j + 1) (j + 1) _ rV
            obtain ⟨⟨c0, c1, c2, c3⟩, hf⟩ := rV.cells
            have f1 := hf 1
            go_wp2_with fail
            refine HF.mono ?_
            rintro e W ⟨rfl, r, b⟩
            go_wp2_with fail
            go_ret
            exact ⟨_, rfl, Nat.zero_le _, r, bV.trans b⟩
        · exfalso
          have h3 := HE.out
          rw [show 3 - (q - (j + 1)) = 0 by clear hw1 hwf hwf2; omega] at h3
          have h4 : q = RR := h3
          clear hw1 hwf hwf2
          omega
      · have hstep : run isD t (3 - (q - (j + 1))) q = q := run_end hlt
        have iq : ¬ (q : Int) < (t.size : Int) := by clear hw1 hwf hwf2; omega
        have iqd : decide ((q : Int) < (t.size : Int)) = false := decide_eq_false iq
        have iqe : decide (q < t.size) = false := decide_eq_false hlt
        have HQ : Hid (q = j + 1) := by
          show q = j + 1
          rw [← hr0, ← HE.out, hstep]
        clear hstep HE HN01
        go_wp2_with fail
        refine wp_region_quiet_below (by kernel_rfl) (by kernel_rfl) ?_
        repeat (first | go_big_quiet_skip | (go_big_quiet_want; go_big_quiet_op; go_big_quiet_on) | quiet_step (fail))
        refine wpQuiet_nil ?_
        intro _ hw'
        obtain ⟨⟨dq, os⟩, hw''⟩ := hw'
        subst hw''
        have kR := below_regrown wr dq os
        have rV := HRR.out.below kR
        have bV := HBT.out.trans (But.of_below kR)
        clear g0 g1 c0 c1 c2 c3 hf kR HRR HBT
        generalize grow (redrawn wr dq) os = V at *
        obtain rfl := HQ.out
        have HF := fail_any X t iv (j + 1) (j + 1) _ rV
        obtain ⟨⟨c0, c1, c2, c3⟩, hf⟩ := rV.cells
        have f1 := hf 1
        go_wp2_with fail
        refine HF.mono ?_
        rintro e W ⟨rfl, r, b⟩
        go_wp2_with fail
        go_ret
        exact ⟨_, rfl, Nat.zero_le _, r, bV.trans b⟩
  · rw [if_neg hr0]
    have hRs : RR ≤ t.size := by rw [← hRR]; exact run_le isD t 3 (j + 1) hj1
    have HW58 := fun W h => want_any X t iv RR ⟨#[58]⟩ W h hRs hs (by decide)
    rw [nexts_one t RR 58, show RR + (⟨#[58]⟩ : ByteArray).size = RR + 1 from rfl] at HW58
    have iRn : ¬ (RR : Int) < 0 := Int.not_lt.2 (Int.natCast_nonneg _)
    have iRnd : decide ((RR : Int) < 0) = false := decide_eq_false iRn
    have hRj : j + 1 ≤ RR := by rw [← hRR]; exact run_ge isD t 3 (j + 1)
    clear hRR
    cases hx : nx t RR 58
    · rw [hx] at HW58
      simp only [Bool.false_eq_true, if_false] at HW58 ⊢
      show Calls _ _ _ _ fun e w' => PostX X t iv (4000 * (t.size - j)) w (.bad RR) e w'
      clear hx
      go_enter Tryd.func20, Tryd.ntmps20
      go_wp2_with fail
      go_quiet (fail)
      have rV : ExAt (w.drewN nq) X t iv j (-1) := HX.out
      have bV : But X w (w.drewN nq) := ⟨rfl, rfl, rfl, Nat.le_refl _, fun _ _ _ => rfl⟩
      generalize w.drewN nq = V at *
      obtain ⟨⟨c0, c1, c2, c3⟩, hf⟩ := rV.cells
      have f1 := hf 1
      have r1 := ex_at rV (j + 1)
      have b1 := bV.setCell (i := 1) (.int .i64 ((j + 1 : Nat) : Int))
      clear c0 c2 c3 rV bV
      go_wp2_with fail
      refine (HP63 _).mono ?_
      rintro e W1 ⟨rfl, hw1'⟩
      obtain rfl := hw1'.symm
      go_wp2_with fail
      refine (HP61 _).mono ?_
      rintro e W1 ⟨rfl, hw1'⟩
      obtain rfl := hw1'.symm
      have HR1 : Hid (ExAt (V.setCell ⟨X, 1, none⟩ (.int .i64 ((j + 1 : Nat) : Int))) X t iv (j + 1) (-1) ∧ But X w (V.setCell ⟨X, 1, none⟩ (.int .i64 ((j + 1 : Nat) : Int)))) := ⟨r1, b1⟩
      obtain ⟨⟨_, y1, _, _⟩, _⟩ := r1.cells
      clear r1 b1 hf
      go_wp2_with fail
      clear c1 f1 y1 HP63 HP61
      go_loopg [11] (t.size + 1) (fun gg u11 wr => ∃ q : Nat, ExAt wr X t iv q (-1) ∧ But X w wr ∧ j + 1 ≤ q ∧ q - (j + 1) ≤ 3 ∧ q ≤ t.size ∧ t.size - q < gg ∧ run isD t (3 - (q - (j + 1))) q = RR ∧ u11 = .int .i64 (num t (j + 1) q) ∧ 0 ≤ num t (j + 1) q ∧ num t (j + 1) q < 10 ^ (q - (j + 1)))
      case atStart => exact ⟨j + 1, HR1.out.1, HR1.out.2, Nat.le_refl _, by omega, hj1, by clear hw1; omega, by rw [Nat.sub_self]; exact HRR0.out, by rw [num_self], by rw [num_self]; exact Int.le_refl _, by rw [num_self, Nat.sub_self]; decide⟩
      case round =>
        obtain ⟨q, hrr, hbt, hpq, hqm, hqs, hg, he, rfl, hn0, hn1⟩ := hrel
        obtain ⟨⟨c0, c1, c2, c3⟩, hf⟩ := hrr.cells
        have g0 := fun d os => cell_regrown c0 d os
        have g1 := fun d os => cell_regrown c1 d os
        have HRR : Hid (ExAt wr X t iv q (-1)) := hrr
        have HBT : Hid (But X w wr) := hbt
        have HE : Hid (run isD t (3 - (q - (j + 1))) q = RR) := he
        have HN01 : Hid (0 ≤ num t (j + 1) q ∧ num t (j + 1) q < 10 ^ (q - (j + 1))) := ⟨hn0, hn1⟩
        have hwf : IntKind.i64.wrap (((j + 1 : Nat) : Int) + 3) = ((j + 1 : Nat) : Int) + 3 := i64_s (by clear hw1; omega) (by clear hw1; omega)
        have hwf2 : IntKind.i64.wrap ((j : Int) + 1 + 3) = (j : Int) + 1 + 3 := i64_s (by clear hw1 hwf; omega) (by clear hw1 hwf; omega)
        clear hrr hbt HR1 he hn0 hn1
        have iq0 : (0 : Int) ≤ (q : Int) := Int.natCast_nonneg _
        by_cases hlt : q < t.size
        · have iq : (q : Int) < (t.size : Int) := Int.ofNat_lt.2 hlt
          have iqd : decide ((q : Int) < (t.size : Int)) = true := decide_eq_true iq
          have iqe : decide (q < t.size) = true := decide_eq_true hlt
          by_cases hlm : q - (j + 1) < 3
          · have im : (q : Int) < ((j + 1 : Nat) : Int) + 3 := by clear hw1 hwf hwf2; omega
            have imd : decide ((q : Int) < ((j + 1 : Nat) : Int) + 3) = true := decide_eq_true im
            have im2 : (q : Int) < (j : Int) + 1 + 3 := by clear hw1 hwf hwf2; omega
            have im2d : decide ((q : Int) < (j : Int) + 1 + 3) = true := decide_eq_true im2
            have hstep : run isD t (3 - (q - (j + 1))) q = if isD (t[q]'hlt) then run isD t (3 - (q + 1 - (j + 1))) (q + 1) else q := by
              rw [show 3 - (q - (j + 1)) = (3 - (q + 1 - (j + 1))) + 1 by clear hw1 hwf hwf2; omega, run, dif_pos hlt]
            by_cases k1 : 48 ≤ (t[q]'hlt).toNat
            · have k1i : (48 : Int) ≤ ((t[q]'hlt).toNat : Int) := Int.ofNat_le.2 k1
              have k1d : decide ((48 : Int) ≤ ((t[q]'hlt).toNat : Int)) = true := decide_eq_true k1i
              have k1e : decide (48 ≤ (t[q]'hlt).toNat) = true := decide_eq_true k1
              by_cases k2 : (t[q]'hlt).toNat ≤ 57
              · have k2i : ((t[q]'hlt).toNat : Int) ≤ 57 := Int.ofNat_le.2 k2
                have k2d : decide (((t[q]'hlt).toNat : Int) ≤ 57) = true := decide_eq_true k2i
                have k2e : decide ((t[q]'hlt).toNat ≤ 57) = true := decide_eq_true k2
                have hfc : isD (t[q]'hlt) = true := by unfold isD; rw [k1e, k2e]; rfl
                rw [hfc] at hstep
                have HE2 : Hid (run isD t (3 - (q + 1 - (j + 1))) (q + 1) = RR) := by
                  show _ = _
                  rw [← HE.out, hstep]
                  rfl
                have hpw := pow_le (k := q - (j + 1)) (by clear hw1 hwf hwf2; omega)
                have HNX : Hid (num t (j + 1) (q + 1) = num t (j + 1) q * 10 + (((t[q]'hlt).toNat : Int) - 48)) := num_succ t (j + 1) q hpq hlt
                have hnn := HN01.out
                have HNB : Hid (0 ≤ num t (j + 1) (q + 1) ∧ num t (j + 1) (q + 1) < 10 ^ (q + 1 - (j + 1))) := by
                  show _ ∧ _
                  rw [HNX.out, show q + 1 - (j + 1) = (q - (j + 1)) + 1 by clear hw1 hwf hwf2; omega, Int.pow_succ]
                  clear hw1 hwf hwf2
                  omega
                have hn100 : num t (j + 1) q < 100 := by clear hw1 hwf hwf2; omega
                have hn00 : 0 ≤ num t (j + 1) q := hnn.1
                obtain ⟨n9, hn9⟩ : ∃ n9, num t (j + 1) (q + 1) = n9 := ⟨_, rfl⟩
                rw [hn9] at HNX HNB
                have HN9 : Hid (num t (j + 1) (q + 1) = n9) := hn9
                clear hn9
                generalize num t (j + 1) q = n8 at *
                have hu8 := u8_sub k1 k2
                clear hstep hfc HE hnn hpw HN01
                generalize hcc : (t[q]'hlt).toNat = cc at *
                have hm1 : IntKind.i64.wrap (n8 * 10) = n8 * 10 := i64_s (by clear hw1 hwf hwf2 hu8; omega) (by clear hw1 hwf hwf2 hu8; omega)
                have hm2 : IntKind.i64.wrap ((cc : Int) - 48) = (cc : Int) - 48 := i64_s (by clear hw1 hwf hwf2 hu8 hm1; omega) (by clear hw1 hwf hwf2 hu8 hm1; omega)
                have hm3 : IntKind.i64.wrap (n8 * 10 + ((cc : Int) - 48)) = n8 * 10 + ((cc : Int) - 48) := i64_s (by clear hw1 hwf hwf2 hu8 hm1 hm2; omega) (by clear hw1 hwf hwf2 hu8 hm1 hm2; omega)
                have hm4 : wrap64 (n8 * 10) = n8 * 10 := w64_s (by clear hw1 hwf hwf2 hu8 hm1 hm2 hm3; omega) (by clear hw1 hwf hwf2 hu8 hm1 hm2 hm3; omega)
                have hm5 : wrap64 (n8 * 10 + ((cc : Int) - 48)) = n8 * 10 + ((cc : Int) - 48) := w64_s (by clear hw1 hwf hwf2 hu8 hm1 hm2 hm3 hm4; omega) (by clear hw1 hwf hwf2 hu8 hm1 hm2 hm3 hm4; omega)
                have hwq : wrap64 ((q : Int) + 1) = ((q + 1 : Nat) : Int) := by clear hw1 hwf hwf2 hu8 hm1 hm2 hm3 hm4 hm5; unfold wrap64; omega
                subst hcc
                go_wp2_with fail
                go_quiet (fail)
                have rV : ExAt (wr.drewN nq) X t iv q (-1) := HRR.out
                have bV : But X w (wr.drewN nq) := ⟨HBT.out.os, HBT.out.tape, HBT.out.output, HBT.out.size, HBT.out.block⟩
                clear g0 g1 c0 c1 c2 c3 hf HRR HBT
                generalize wr.drewN nq = V at *
                obtain ⟨⟨c0, c1, c2, c3⟩, hf⟩ := rV.cells
                have f1 := hf 1
                go_wp2_with fail
                go_quiet (fail)
                have rU : ExAt (V.drewN nq) X t iv q (-1) := rV
                have bU : But X w (V.drewN nq) := ⟨bV.os, bV.tape, bV.output, bV.size, bV.block⟩
                clear c0 c1 c2 c3 hf f1 rV bV
                generalize V.drewN nq = U at *
                obtain ⟨⟨c0, c1, c2, c3⟩, hf⟩ := rU.cells
                have f1 := hf 1
                have rU2 := ex_at rU (q + 1)
                have bU2 := bU.setCell (i := 1) (.int .i64 ((q + 1 : Nat) : Int))
                clear hw1 hwf hwf2 hu8 hm1 hm2 hm3 hm4 hm5 iqd iqe imd im2d k1d k1e k2d k2e im im2 k1i k2i
                go_wp2_with fail
                clear hwq
                go_roundg (t.size - q)
                case measure => omega
                case rel =>
                  refine ⟨q + 1, rU2, bU2, by omega, by omega, by omega, by omega, HE2.out, ?_, ?_, ?_⟩
                  · rw [HN9.out, HNX.out]
                  · rw [HN9.out]
                    exact HNB.out.1
                  · rw [HN9.out]
                    exact HNB.out.2
              · have hfc : isD (t[q]'hlt) = false := by
                  unfold isD
                  rw [decide_eq_false k2, Bool.and_false]
                have k2i : ¬ ((t[q]'hlt).toNat : Int) ≤ 57 := by clear hw1 hwf hwf2; omega
                have k2d : decide (((t[q]'hlt).toNat : Int) ≤ 57) = false := decide_eq_false k2i
                have k2e : decide ((t[q]'hlt).toNat ≤ 57) = false := decide_eq_false k2
                rw [hfc, if_neg (by decide)] at hstep
                have HQ : Hid (q = RR) := by
                  show q = RR
                  rw [← HE.out, hstep]
                clear hstep HE HN01
                go_wp2_with fail
                refine wp_region_quiet_below (by kernel_rfl) (by kernel_rfl) ?_
                repeat (first | go_big_quiet_skip | (go_big_quiet_want; go_big_quiet_op; go_big_quiet_on) | quiet_step (fail))
                refine wpQuiet_nil ?_
                intro _ hw'
                obtain ⟨⟨dq, os⟩, hw''⟩ := hw'
                subst hw''
                have kR := below_regrown wr dq os
                have rV := HRR.out.below kR
                have bV := HBT.out.trans (But.of_below kR)
                clear g0 g1 c0 c1 c2 c3 hf kR HRR HBT
                generalize grow (redrawn wr dq) os = V at *
                obtain rfl := HQ.out
                obtain ⟨⟨c0, c1, c2, c3⟩, hf⟩ := rV.cells
                have f1 := hf 1
                have iRa : ¬ (q : Int) = (j : Int) + 1 := by clear hw1 hwf hwf2; omega
                have iRb : ((q : Int) == (j : Int) + 1) = false := beq_eq_false_iff_ne.2 iRa
                have iRc : decide ((q : Int) = (j : Int) + 1) = false := decide_eq_false iRa
                clear hw1 hwf hwf2
                try clear k2i k2d k2e
                try clear k1i k1d k1e
                try clear im imd im2 im2d
                try clear iq iqd iqe
                go_wp2_with fail
                refine (HW58 _ rV).mono ?_
                rintro e W2 ⟨rfl, r2, b2⟩
                obtain ⟨⟨_, _, y2, _⟩, _⟩ := r2.cells
                go_wp2_with fail
                go_ret
                exact ⟨_, rfl, Nat.zero_le _, r2, bV.trans b2⟩
            · have hfc : isD (t[q]'hlt) = false := by
                unfold isD
                rw [decide_eq_false k1, Bool.false_and]
              have k1i : ¬ (48 : Int) ≤ ((t[q]'hlt).toNat : Int) := by clear hw1 hwf hwf2; omega
              have k1d : decide ((48 : Int) ≤ ((t[q]'hlt).toNat : Int)) = false := decide_eq_false k1i
              have k1e : decide (48 ≤ (t[q]'hlt).toNat) = false := decide_eq_false k1
              rw [hfc, if_neg (by decide)] at hstep
              have HQ : Hid (q = RR) := by
                show q = RR
                rw [← HE.out, hstep]
              clear hstep HE HN01
              go_wp2_with fail
              refine wp_region_quiet_below (by kernel_rfl) (by kernel_rfl) ?_
              repeat (first | go_big_quiet_skip | (go_big_quiet_want; go_big_quiet_op; go_big_quiet_on) | quiet_step (fail))
              refine wpQuiet_nil ?_
              intro _ hw'
              obtain ⟨⟨dq, os⟩, hw''⟩ := hw'
              subst hw''
              have kR := below_regrown wr dq os
              have rV := HRR.out.below kR
              have bV := HBT.out.trans (But.of_below kR)
              clear g0 g1 c0 c1 c2 c3 hf kR HRR HBT
              generalize grow (redrawn wr dq) os = V at *
              obtain rfl := HQ.out
              obtain ⟨⟨c0, c1, c2, c3⟩, hf⟩ := rV.cells
              have f1 := hf 1
              have iRa : ¬ (q : Int) = (j : Int) + 1 := by clear hw1 hwf hwf2; omega
              have iRb : ((q : Int) == (j : Int) + 1) = false := beq_eq_false_iff_ne.2 iRa
              have iRc : decide ((q : Int) = (j : Int) + 1) = false := decide_eq_false iRa
              clear hw1 hwf hwf2
              try clear k2i k2d k2e
              try clear k1i k1d k1e
              try clear im imd im2 im2d
              try clear iq iqd iqe
              go_wp2_with fail
              refine (HW58 _ rV).mono ?_
              rintro e W2 ⟨rfl, r2, b2⟩
              obtain ⟨⟨_, _, y2, _⟩, _⟩ := r2.cells
              go_wp2_with fail
              go_ret
              exact ⟨_, rfl, Nat.zero_le _, r2, bV.trans b2⟩
          · have hstep : run isD t (3 - (q - (j + 1))) q = q := by
              rw [show 3 - (q - (j + 1)) = 0 by clear hw1 hwf hwf2; omega]
              rfl
            have im : ¬ (q : Int) < ((j + 1 : Nat) : Int) + 3 := by clear hw1 hwf hwf2; omega
            have imd : decide ((q : Int) < ((j + 1 : Nat) : Int) + 3) = false := decide_eq_false im
            have im2 : ¬ (q : Int) < (j : Int) + 1 + 3 := by clear hw1 hwf hwf2; omega
            have im2d : decide ((q : Int) < (j : Int) + 1 + 3) = false := decide_eq_false im2
            have HQ : Hid (q = RR) := by
              show q = RR
              rw [← HE.out, hstep]
            clear hstep HE HN01
            go_wp2_with fail
            refine wp_region_quiet_below (by kernel_rfl) (by kernel_rfl) ?_
            repeat (first | go_big_quiet_skip | (go_big_quiet_want; go_big_quiet_op; go_big_quiet_on) | quiet_step (fail))
            refine wpQuiet_nil ?_
            intro _ hw'
            obtain ⟨⟨dq, os⟩, hw''⟩ := hw'
            subst hw''
            have kR := below_regrown wr dq os
            have rV := HRR.out.below kR
            have bV := HBT.out.trans (But.of_below kR)
            clear g0 g1 c0 c1 c2 c3 hf kR HRR HBT
            generalize grow (redrawn wr dq) os = V at *
            obtain rfl := HQ.out
            obtain ⟨⟨c0, c1, c2, c3⟩, hf⟩ := rV.cells
            have f1 := hf 1
            have iRa : ¬ (q : Int) = (j : Int) + 1 := by clear hw1 hwf hwf2; omega
            have iRb : ((q : Int) == (j : Int) + 1) = false := beq_eq_false_iff_ne.2 iRa
            have iRc : decide ((q : Int) = (j : Int) + 1) = false := decide_eq_false iRa
            clear hw1 hwf hwf2
            try clear k2i k2d k2e
            try clear k1i k1d k1e
            try clear im imd im2 im2d
            try clear iq iqd iqe
            go_wp2_with fail
            refine (HW58 _ rV).mono ?_
            rintro e W2 ⟨rfl, r2, b2⟩
            obtain ⟨⟨_, _, y2, _⟩, _⟩ := r2.cells
            go_wp2_with fail
            go_ret
            exact ⟨_, rfl, Nat.zero_le _, r2, bV.trans b2⟩
        · have hstep : run isD t (3 - (q - (j + 1))) q = q := run_end hlt
          have iq : ¬ (q : Int) < (t.size : Int) := by clear hw1 hwf hwf2; omega
          have iqd : decide ((q : Int) < (t.size : Int)) = false := decide_eq_false iq
          have iqe : decide (q < t.size) = false := decide_eq_false hlt
          have HQ : Hid (q = RR) := by
            show q = RR
            rw [← HE.out, hstep]
          clear hstep HE HN01
          go_wp2_with fail
          refine wp_region_quiet_below (by kernel_rfl) (by kernel_rfl) ?_
          repeat (first | go_big_quiet_skip | (go_big_quiet_want; go_big_quiet_op; go_big_quiet_on) | quiet_step (fail))
          refine wpQuiet_nil ?_
          intro _ hw'
          obtain ⟨⟨dq, os⟩, hw''⟩ := hw'
          subst hw''
          have kR := below_regrown wr dq os
          have rV := HRR.out.below kR
          have bV := HBT.out.trans (But.of_below kR)
          clear g0 g1 c0 c1 c2 c3 hf kR HRR HBT
          generalize grow (redrawn wr dq) os = V at *
          obtain rfl := HQ.out
          obtain ⟨⟨c0, c1, c2, c3⟩, hf⟩ := rV.cells
          have f1 := hf 1
          have iRa : ¬ (q : Int) = (j : Int) + 1 := by clear hw1 hwf hwf2; omega
          have iRb : ((q : Int) == (j : Int) + 1) = false := beq_eq_false_iff_ne.2 iRa
          have iRc : decide ((q : Int) = (j : Int) + 1) = false := decide_eq_false iRa
          clear hw1 hwf hwf2
          try clear k2i k2d k2e
          try clear k1i k1d k1e
          try clear im imd im2 im2d
          try clear iq iqd iqe
          go_wp2_with fail
          refine (HW58 _ rV).mono ?_
          rintro e W2 ⟨rfl, r2, b2⟩
          obtain ⟨⟨_, _, y2, _⟩, _⟩ := r2.cells
          go_wp2_with fail
          go_ret
          exact ⟨_, rfl, Nat.zero_le _, r2, bV.trans b2⟩
    · rw [hx] at HW58
      simp only [if_true] at HW58 ⊢
      have hR1 := nx_lt hx
      have HV := fun W hW h => valueX_any w0 X t iv (RR + 1) I W E hW h hR1 hs
      have HK := vaR_keeps E.sz (RR + 1) hR1
      clear hx
      cases hv : vaR t I (RR + 1) with
      | bad p =>
        rw [hv] at HV
        have HCU := fun V => cutOf_l [] (num t (j + 1) RR) V (Nat.zero_le _)
        simp only [cut_none] at HCU
        have ip : ¬ (p : Int) < 0 := Int.not_lt.2 (Int.natCast_nonneg _)
        have ipd : decide ((p : Int) < 0) = false := decide_eq_false ip
        show Calls _ _ _ _ fun e w' => PostX X t iv (4000 * (t.size - j)) w (.bad p) e w'
        clear HK hv
        go_enter Tryd.func20, Tryd.ntmps20
        go_wp2_with fail
        go_quiet (fail)
        have rV : ExAt (w.drewN nq) X t iv j (-1) := HX.out
        have bV : But X w (w.drewN nq) := ⟨rfl, rfl, rfl, Nat.le_refl _, fun _ _ _ => rfl⟩
        generalize w.drewN nq = V at *
        obtain ⟨⟨c0, c1, c2, c3⟩, hf⟩ := rV.cells
        have f1 := hf 1
        have r1 := ex_at rV (j + 1)
        have b1 := bV.setCell (i := 1) (.int .i64 ((j + 1 : Nat) : Int))
        clear c0 c2 c3 rV bV
        go_wp2_with fail
        refine (HP63 _).mono ?_
        rintro e W1 ⟨rfl, hw1'⟩
        obtain rfl := hw1'.symm
        go_wp2_with fail
        refine (HP61 _).mono ?_
        rintro e W1 ⟨rfl, hw1'⟩
        obtain rfl := hw1'.symm
        have HR1 : Hid (ExAt (V.setCell ⟨X, 1, none⟩ (.int .i64 ((j + 1 : Nat) : Int))) X t iv (j + 1) (-1) ∧ But X w (V.setCell ⟨X, 1, none⟩ (.int .i64 ((j + 1 : Nat) : Int)))) := ⟨r1, b1⟩
        obtain ⟨⟨_, y1, _, _⟩, _⟩ := r1.cells
        clear r1 b1 hf
        go_wp2_with fail
        clear c1 f1 y1 HP63 HP61
        go_loopg [11] (t.size + 1) (fun gg u11 wr => ∃ q : Nat, ExAt wr X t iv q (-1) ∧ But X w wr ∧ j + 1 ≤ q ∧ q - (j + 1) ≤ 3 ∧ q ≤ t.size ∧ t.size - q < gg ∧ run isD t (3 - (q - (j + 1))) q = RR ∧ u11 = .int .i64 (num t (j + 1) q) ∧ 0 ≤ num t (j + 1) q ∧ num t (j + 1) q < 10 ^ (q - (j + 1)))
        case atStart => exact ⟨j + 1, HR1.out.1, HR1.out.2, Nat.le_refl _, by omega, hj1, by clear hw1; omega, by rw [Nat.sub_self]; exact HRR0.out, by rw [num_self], by rw [num_self]; exact Int.le_refl _, by rw [num_self, Nat.sub_self]; decide⟩
        case round =>
          obtain ⟨q, hrr, hbt, hpq, hqm, hqs, hg, he, rfl, hn0, hn1⟩ := hrel
          obtain ⟨⟨c0, c1, c2, c3⟩, hf⟩ := hrr.cells
          have g0 := fun d os => cell_regrown c0 d os
          have g1 := fun d os => cell_regrown c1 d os
          have HRR : Hid (ExAt wr X t iv q (-1)) := hrr
          have HBT : Hid (But X w wr) := hbt
          have HE : Hid (run isD t (3 - (q - (j + 1))) q = RR) := he
          have HN01 : Hid (0 ≤ num t (j + 1) q ∧ num t (j + 1) q < 10 ^ (q - (j + 1))) := ⟨hn0, hn1⟩
          have hwf : IntKind.i64.wrap (((j + 1 : Nat) : Int) + 3) = ((j + 1 : Nat) : Int) + 3 := i64_s (by clear hw1; omega) (by clear hw1; omega)
          have hwf2 : IntKind.i64.wrap ((j : Int) + 1 + 3) = (j : Int) + 1 + 3 := i64_s (by clear hw1 hwf; omega) (by clear hw1 hwf; omega)
          clear hrr hbt HR1 he hn0 hn1
          have iq0 : (0 : Int) ≤ (q : Int) := Int.natCast_nonneg _
          by_cases hlt : q < t.size
          · have iq : (q : Int) < (t.size : Int) := Int.ofNat_lt.2 hlt
            have iqd : decide ((q : Int) < (t.size : Int)) = true := decide_eq_true iq
            have iqe : decide (q < t.size) = true := decide_eq_true hlt
            by_cases hlm : q - (j + 1) < 3
            · have im : (q : Int) < ((j + 1 : Nat) : Int) + 3 := by clear hw1 hwf hwf2; omega
              have imd : decide ((q : Int) < ((j + 1 : Nat) : Int) + 3) = true := decide_eq_true im
              have im2 : (q : Int) < (j : Int) + 1 + 3 := by clear hw1 hwf hwf2; omega
              have im2d : decide ((q : Int) < (j : Int) + 1 + 3) = true := decide_eq_true im2
              have hstep : run isD t (3 - (q - (j + 1))) q = if isD (t[q]'hlt) then run isD t (3 - (q + 1 - (j + 1))) (q + 1) else q := by
                rw [show 3 - (q - (j + 1)) = (3 - (q + 1 - (j + 1))) + 1 by clear hw1 hwf hwf2; omega, run, dif_pos hlt]
              by_cases k1 : 48 ≤ (t[q]'hlt).toNat
              · have k1i : (48 : Int) ≤ ((t[q]'hlt).toNat : Int) := Int.ofNat_le.2 k1
                have k1d : decide ((48 : Int) ≤ ((t[q]'hlt).toNat : Int)) = true := decide_eq_true k1i
                have k1e : decide (48 ≤ (t[q]'hlt).toNat) = true := decide_eq_true k1
                by_cases k2 : (t[q]'hlt).toNat ≤ 57
                · have k2i : ((t[q]'hlt).toNat : Int) ≤ 57 := Int.ofNat_le.2 k2
                  have k2d : decide (((t[q]'hlt).toNat : Int) ≤ 57) = true := decide_eq_true k2i
                  have k2e : decide ((t[q]'hlt).toNat ≤ 57) = true := decide_eq_true k2
                  have hfc : isD (t[q]'hlt) = true := by unfold isD; rw [k1e, k2e]; rfl
                  rw [hfc] at hstep
                  have HE2 : Hid (run isD t (3 - (q + 1 - (j + 1))) (q + 1) = RR) := by
                    show _ = _
                    rw [← HE.out, hstep]
                    rfl
                  have hpw := pow_le (k := q - (j + 1)) (by clear hw1 hwf hwf2; omega)
                  have HNX : Hid (num t (j + 1) (q + 1) = num t (j + 1) q * 10 + (((t[q]'hlt).toNat : Int) - 48)) := num_succ t (j + 1) q hpq hlt
                  have hnn := HN01.out
                  have HNB : Hid (0 ≤ num t (j + 1) (q + 1) ∧ num t (j + 1) (q + 1) < 10 ^ (q + 1 - (j + 1))) := by
                    show _ ∧ _
                    rw [HNX.out, show q + 1 - (j + 1) = (q - (j + 1)) + 1 by clear hw1 hwf hwf2; omega, Int.pow_succ]
                    clear hw1 hwf hwf2
                    omega
                  have hn100 : num t (j + 1) q < 100 := by clear hw1 hwf hwf2; omega
                  have hn00 : 0 ≤ num t (j + 1) q := hnn.1
                  obtain ⟨n9, hn9⟩ : ∃ n9, num t (j + 1) (q + 1) = n9 := ⟨_, rfl⟩
                  rw [hn9] at HNX HNB
                  have HN9 : Hid (num t (j + 1) (q + 1) = n9) := hn9
                  clear hn9
                  generalize num t (j + 1) q = n8 at *
                  have hu8 := u8_sub k1 k2
                  clear hstep hfc HE hnn hpw HN01
                  generalize hcc : (t[q]'hlt).toNat = cc at *
                  have hm1 : IntKind.i64.wrap (n8 * 10) = n8 * 10 := i64_s (by clear hw1 hwf hwf2 hu8; omega) (by clear hw1 hwf hwf2 hu8; omega)
                  have hm2 : IntKind.i64.wrap ((cc : Int) - 48) = (cc : Int) - 48 := i64_s (by clear hw1 hwf hwf2 hu8 hm1; omega) (by clear hw1 hwf hwf2 hu8 hm1; omega)
                  have hm3 : IntKind.i64.wrap (n8 * 10 + ((cc : Int) - 48)) = n8 * 10 + ((cc : Int) - 48) := i64_s (by clear hw1 hwf hwf2 hu8 hm1 hm2; omega) (by clear hw1 hwf hwf2 hu8 hm1 hm2; omega)
                  have hm4 : wrap64 (n8 * 10) = n8 * 10 := w64_s (by clear hw1 hwf hwf2 hu8 hm1 hm2 hm3; omega) (by clear hw1 hwf hwf2 hu8 hm1 hm2 hm3; omega)
                  have hm5 : wrap64 (n8 * 10 + ((cc : Int) - 48)) = n8 * 10 + ((cc : Int) - 48) := w64_s (by clear hw1 hwf hwf2 hu8 hm1 hm2 hm3 hm4; omega) (by clear hw1 hwf hwf2 hu8 hm1 hm2 hm3 hm4; omega)
                  have hwq : wrap64 ((q : Int) + 1) = ((q + 1 : Nat) : Int) := by clear hw1 hwf hwf2 hu8 hm1 hm2 hm3 hm4 hm5; unfold wrap64; omega
                  subst hcc
                  go_wp2_with fail
                  go_quiet (fail)
                  have rV : ExAt (wr.drewN nq) X t iv q (-1) := HRR.out
                  have bV : But X w (wr.drewN nq) := ⟨HBT.out.os, HBT.out.tape, HBT.out.output, HBT.out.size, HBT.out.block⟩
                  clear g0 g1 c0 c1 c2 c3 hf HRR HBT
                  generalize wr.drewN nq = V at *
                  obtain ⟨⟨c0, c1, c2, c3⟩, hf⟩ := rV.cells
                  have f1 := hf 1
                  go_wp2_with fail
                  go_quiet (fail)
                  have rU : ExAt (V.drewN nq) X t iv q (-1) := rV
                  have bU : But X w (V.drewN nq) := ⟨bV.os, bV.tape, bV.output, bV.size, bV.block⟩
                  clear c0 c1 c2 c3 hf f1 rV bV
                  generalize V.drewN nq = U at *
                  obtain ⟨⟨c0, c1, c2, c3⟩, hf⟩ := rU.cells
                  have f1 := hf 1
                  have rU2 := ex_at rU (q + 1)
                  have bU2 := bU.setCell (i := 1) (.int .i64 ((q + 1 : Nat) : Int))
                  clear hw1 hwf hwf2 hu8 hm1 hm2 hm3 hm4 hm5 iqd iqe imd im2d k1d k1e k2d k2e im im2 k1i k2i
                  go_wp2_with fail
                  clear hwq
                  go_roundg (t.size - q)
                  case measure => omega
                  case rel =>
                    refine ⟨q + 1, rU2, bU2, by omega, by omega, by omega, by omega, HE2.out, ?_, ?_, ?_⟩
                    · rw [HN9.out, HNX.out]
                    · rw [HN9.out]
                      exact HNB.out.1
                    · rw [HN9.out]
                      exact HNB.out.2
                · have hfc : isD (t[q]'hlt) = false := by
                    unfold isD
                    rw [decide_eq_false k2, Bool.and_false]
                  have k2i : ¬ ((t[q]'hlt).toNat : Int) ≤ 57 := by clear hw1 hwf hwf2; omega
                  have k2d : decide (((t[q]'hlt).toNat : Int) ≤ 57) = false := decide_eq_false k2i
                  have k2e : decide ((t[q]'hlt).toNat ≤ 57) = false := decide_eq_false k2
                  rw [hfc, if_neg (by decide)] at hstep
                  have HQ : Hid (q = RR) := by
                    show q = RR
                    rw [← HE.out, hstep]
                  clear hstep HE HN01
                  go_wp2_with fail
                  refine wp_region_quiet_below (by kernel_rfl) (by kernel_rfl) ?_
                  repeat (first | go_big_quiet_skip | (go_big_quiet_want; go_big_quiet_op; go_big_quiet_on) | quiet_step (fail))
                  refine wpQuiet_nil ?_
                  intro _ hw'
                  obtain ⟨⟨dq, os⟩, hw''⟩ := hw'
                  subst hw''
                  have kR := below_regrown wr dq os
                  have rV := HRR.out.below kR
                  have bV := HBT.out.trans (But.of_below kR)
                  clear g0 g1 c0 c1 c2 c3 hf kR HRR HBT
                  generalize grow (redrawn wr dq) os = V at *
                  obtain rfl := HQ.out
                  obtain ⟨⟨c0, c1, c2, c3⟩, hf⟩ := rV.cells
                  have f1 := hf 1
                  have iRa : ¬ (q : Int) = (j : Int) + 1 := by clear hw1 hwf hwf2; omega
                  have iRb : ((q : Int) == (j : Int) + 1) = false := beq_eq_false_iff_ne.2 iRa
                  have iRc : decide ((q : Int) = (j : Int) + 1) = false := decide_eq_false iRa
                  clear hw1 hwf hwf2
                  try clear k2i k2d k2e
                  try clear k1i k1d k1e
                  try clear im imd im2 im2d
                  try clear iq iqd iqe
                  go_wp2_with fail
                  refine (HW58 _ rV).mono ?_
                  rintro e W2 ⟨rfl, r2, b2⟩
                  have b3 := bV.trans b2
                  obtain ⟨⟨_, _, y2, _⟩, _⟩ := r2.cells
                  go_wp2_with fail
                  refine (HV _ (HEB.out _ b3) r2).mono ?_
                  rintro e W3 ⟨z, rfl, hz, r3, b4⟩
                  obtain rfl := ba_empty hz
                  have b5 := b3.trans b4
                  go_wp2_with fail
                  refine (HCU _).mono ?_
                  rintro e W4 ⟨rfl, k4⟩
                  have r4 := r3.below k4
                  have b6 := b5.trans (But.of_below k4)
                  obtain ⟨⟨_, _, z2, _⟩, _⟩ := r4.cells
                  go_wp2_with fail
                  go_ret
                  exact ⟨_, rfl, Nat.zero_le _, r4, b6⟩
              · have hfc : isD (t[q]'hlt) = false := by
                  unfold isD
                  rw [decide_eq_false k1, Bool.false_and]
                have k1i : ¬ (48 : Int) ≤ ((t[q]'hlt).toNat : Int) := by clear hw1 hwf hwf2; omega
                have k1d : decide ((48 : Int) ≤ ((t[q]'hlt).toNat : Int)) = false := decide_eq_false k1i
                have k1e : decide (48 ≤ (t[q]'hlt).toNat) = false := decide_eq_false k1
                rw [hfc, if_neg (by decide)] at hstep
                have HQ : Hid (q = RR) := by
                  show q = RR
                  rw [← HE.out, hstep]
                clear hstep HE HN01
                go_wp2_with fail
                refine wp_region_quiet_below (by kernel_rfl) (by kernel_rfl) ?_
                repeat (first | go_big_quiet_skip | (go_big_quiet_want; go_big_quiet_op; go_big_quiet_on) | quiet_step (fail))
                refine wpQuiet_nil ?_
                intro _ hw'
                obtain ⟨⟨dq, os⟩, hw''⟩ := hw'
                subst hw''
                have kR := below_regrown wr dq os
                have rV := HRR.out.below kR
                have bV := HBT.out.trans (But.of_below kR)
                clear g0 g1 c0 c1 c2 c3 hf kR HRR HBT
                generalize grow (redrawn wr dq) os = V at *
                obtain rfl := HQ.out
                obtain ⟨⟨c0, c1, c2, c3⟩, hf⟩ := rV.cells
                have f1 := hf 1
                have iRa : ¬ (q : Int) = (j : Int) + 1 := by clear hw1 hwf hwf2; omega
                have iRb : ((q : Int) == (j : Int) + 1) = false := beq_eq_false_iff_ne.2 iRa
                have iRc : decide ((q : Int) = (j : Int) + 1) = false := decide_eq_false iRa
                clear hw1 hwf hwf2
                try clear k2i k2d k2e
                try clear k1i k1d k1e
                try clear im imd im2 im2d
                try clear iq iqd iqe
                go_wp2_with fail
                refine (HW58 _ rV).mono ?_
                rintro e W2 ⟨rfl, r2, b2⟩
                have b3 := bV.trans b2
                obtain ⟨⟨_, _, y2, _⟩, _⟩ := r2.cells
                go_wp2_with fail
                refine (HV _ (HEB.out _ b3) r2).mono ?_
                rintro e W3 ⟨z, rfl, hz, r3, b4⟩
                obtain rfl := ba_empty hz
                have b5 := b3.trans b4
                go_wp2_with fail
                refine (HCU _).mono ?_
                rintro e W4 ⟨rfl, k4⟩
                have r4 := r3.below k4
                have b6 := b5.trans (But.of_below k4)
                obtain ⟨⟨_, _, z2, _⟩, _⟩ := r4.cells
                go_wp2_with fail
                go_ret
                exact ⟨_, rfl, Nat.zero_le _, r4, b6⟩
            · have hstep : run isD t (3 - (q - (j + 1))) q = q := by
                rw [show 3 - (q - (j + 1)) = 0 by clear hw1 hwf hwf2; omega]
                rfl
              have im : ¬ (q : Int) < ((j + 1 : Nat) : Int) + 3 := by clear hw1 hwf hwf2; omega
              have imd : decide ((q : Int) < ((j + 1 : Nat) : Int) + 3) = false := decide_eq_false im
              have im2 : ¬ (q : Int) < (j : Int) + 1 + 3 := by clear hw1 hwf hwf2; omega
              have im2d : decide ((q : Int) < (j : Int) + 1 + 3) = false := decide_eq_false im2
              have HQ : Hid (q = RR) := by
                show q = RR
                rw [← HE.out, hstep]
              clear hstep HE HN01
              go_wp2_with fail
              refine wp_region_quiet_below (by kernel_rfl) (by kernel_rfl) ?_
              repeat (first | go_big_quiet_skip | (go_big_quiet_want; go_big_quiet_op; go_big_quiet_on) | quiet_step (fail))
              refine wpQuiet_nil ?_
              intro _ hw'
              obtain ⟨⟨dq, os⟩, hw''⟩ := hw'
              subst hw''
              have kR := below_regrown wr dq os
              have rV := HRR.out.below kR
              have bV := HBT.out.trans (But.of_below kR)
              clear g0 g1 c0 c1 c2 c3 hf kR HRR HBT
              generalize grow (redrawn wr dq) os = V at *
              obtain rfl := HQ.out
              obtain ⟨⟨c0, c1, c2, c3⟩, hf⟩ := rV.cells
              have f1 := hf 1
              have iRa : ¬ (q : Int) = (j : Int) + 1 := by clear hw1 hwf hwf2; omega
              have iRb : ((q : Int) == (j : Int) + 1) = false := beq_eq_false_iff_ne.2 iRa
              have iRc : decide ((q : Int) = (j : Int) + 1) = false := decide_eq_false iRa
              clear hw1 hwf hwf2
              try clear k2i k2d k2e
              try clear k1i k1d k1e
              try clear im imd im2 im2d
              try clear iq iqd iqe
              go_wp2_with fail
              refine (HW58 _ rV).mono ?_
              rintro e W2 ⟨rfl, r2, b2⟩
              have b3 := bV.trans b2
              obtain ⟨⟨_, _, y2, _⟩, _⟩ := r2.cells
              go_wp2_with fail
              refine (HV _ (HEB.out _ b3) r2).mono ?_
              rintro e W3 ⟨z, rfl, hz, r3, b4⟩
              obtain rfl := ba_empty hz
              have b5 := b3.trans b4
              go_wp2_with fail
              refine (HCU _).mono ?_
              rintro e W4 ⟨rfl, k4⟩
              have r4 := r3.below k4
              have b6 := b5.trans (But.of_below k4)
              obtain ⟨⟨_, _, z2, _⟩, _⟩ := r4.cells
              go_wp2_with fail
              go_ret
              exact ⟨_, rfl, Nat.zero_le _, r4, b6⟩
          · have hstep : run isD t (3 - (q - (j + 1))) q = q := run_end hlt
            have iq : ¬ (q : Int) < (t.size : Int) := by clear hw1 hwf hwf2; omega
            have iqd : decide ((q : Int) < (t.size : Int)) = false := decide_eq_false iq
            have iqe : decide (q < t.size) = false := decide_eq_false hlt
            exfalso
            have h3 := HE.out
            rw [hstep] at h3
            clear hw1 hwf hwf2
            omega
      | ok o p =>
        rw [hv] at HV
        obtain ⟨a1, hq, a3⟩ := HK o p hv
        have HCU : ∀ V, Calls Tryd.prog 9 #[.string ⟨o.toArray⟩, .int .i64 (num t (j + 1) RR)] V fun e w' => e = .returned (.string (bs (cutB o (num t (j + 1) RR)))) ∧ Below V.heap.size V w' := fun V => cutOf_l o (num t (j + 1) RR) V (by omega)
        have hbd : (bs (cutB o (num t (j + 1) RR))).size ≤ 4000 * (t.size - j) := by
          rw [Txt.bs_size]
          unfold Txt.cutB
          rw [List.length_take]
          omega
        have HWT := fun W h => want_any X t iv p ⟨#[125]⟩ W h hq hs (by decide)
        rw [nexts_one t p 125, show p + (⟨#[125]⟩ : ByteArray).size = p + 1 from rfl] at HWT
        show Calls _ _ _ _ fun e w' => PostX X t iv (4000 * (t.size - j)) w (if nx t p 125 then .ok (Txt.cutS ⟨o.toArray⟩ (num t (j + 1) RR)) (p + 1) else .bad p) e w'
        rw [cutS_bs]
        have HVh : Hid _ := HV
        have HCUh : Hid _ := HCU
        have HBDh : Hid _ := hbd
        clear HK hv a1 a3 HV HCU hbd
        cases hy : nx t p 125
        · rw [hy] at HWT
          simp only [Bool.false_eq_true, if_false] at HWT ⊢
          have HWTh : Hid _ := HWT
          clear hy HWT
          go_enter Tryd.func20, Tryd.ntmps20
          go_wp2_with fail
          go_quiet (fail)
          have rV : ExAt (w.drewN nq) X t iv j (-1) := HX.out
          have bV : But X w (w.drewN nq) := ⟨rfl, rfl, rfl, Nat.le_refl _, fun _ _ _ => rfl⟩
          generalize w.drewN nq = V at *
          obtain ⟨⟨c0, c1, c2, c3⟩, hf⟩ := rV.cells
          have f1 := hf 1
          have r1 := ex_at rV (j + 1)
          have b1 := bV.setCell (i := 1) (.int .i64 ((j + 1 : Nat) : Int))
          clear c0 c2 c3 rV bV
          go_wp2_with fail
          refine (HP63 _).mono ?_
          rintro e W1 ⟨rfl, hw1'⟩
          obtain rfl := hw1'.symm
          go_wp2_with fail
          refine (HP61 _).mono ?_
          rintro e W1 ⟨rfl, hw1'⟩
          obtain rfl := hw1'.symm
          have HR1 : Hid (ExAt (V.setCell ⟨X, 1, none⟩ (.int .i64 ((j + 1 : Nat) : Int))) X t iv (j + 1) (-1) ∧ But X w (V.setCell ⟨X, 1, none⟩ (.int .i64 ((j + 1 : Nat) : Int)))) := ⟨r1, b1⟩
          obtain ⟨⟨_, y1, _, _⟩, _⟩ := r1.cells
          clear r1 b1 hf
          go_wp2_with fail
          clear c1 f1 y1 HP63 HP61
          go_loopg [11] (t.size + 1) (fun gg u11 wr => ∃ q : Nat, ExAt wr X t iv q (-1) ∧ But X w wr ∧ j + 1 ≤ q ∧ q - (j + 1) ≤ 3 ∧ q ≤ t.size ∧ t.size - q < gg ∧ run isD t (3 - (q - (j + 1))) q = RR ∧ u11 = .int .i64 (num t (j + 1) q) ∧ 0 ≤ num t (j + 1) q ∧ num t (j + 1) q < 10 ^ (q - (j + 1)))
          case atStart => exact ⟨j + 1, HR1.out.1, HR1.out.2, Nat.le_refl _, by omega, hj1, by clear hw1; omega, by rw [Nat.sub_self]; exact HRR0.out, by rw [num_self], by rw [num_self]; exact Int.le_refl _, by rw [num_self, Nat.sub_self]; decide⟩
          case round =>
            obtain ⟨q, hrr, hbt, hpq, hqm, hqs, hg, he, rfl, hn0, hn1⟩ := hrel
            obtain ⟨⟨c0, c1, c2, c3⟩, hf⟩ := hrr.cells
            have g0 := fun d os => cell_regrown c0 d os
            have g1 := fun d os => cell_regrown c1 d os
            have HRR : Hid (ExAt wr X t iv q (-1)) := hrr
            have HBT : Hid (But X w wr) := hbt
            have HE : Hid (run isD t (3 - (q - (j + 1))) q = RR) := he
            have HN01 : Hid (0 ≤ num t (j + 1) q ∧ num t (j + 1) q < 10 ^ (q - (j + 1))) := ⟨hn0, hn1⟩
            have hwf : IntKind.i64.wrap (((j + 1 : Nat) : Int) + 3) = ((j + 1 : Nat) : Int) + 3 := i64_s (by clear hw1; omega) (by clear hw1; omega)
            have hwf2 : IntKind.i64.wrap ((j : Int) + 1 + 3) = (j : Int) + 1 + 3 := i64_s (by clear hw1 hwf; omega) (by clear hw1 hwf; omega)
            clear hrr hbt HR1 he hn0 hn1
            have iq0 : (0 : Int) ≤ (q : Int) := Int.natCast_nonneg _
            by_cases hlt : q < t.size
            · have iq : (q : Int) < (t.size : Int) := Int.ofNat_lt.2 hlt
              have iqd : decide ((q : Int) < (t.size : Int)) = true := decide_eq_true iq
              have iqe : decide (q < t.size) = true := decide_eq_true hlt
              by_cases hlm : q - (j + 1) < 3
              · have im : (q : Int) < ((j + 1 : Nat) : Int) + 3 := by clear hw1 hwf hwf2; omega
                have imd : decide ((q : Int) < ((j + 1 : Nat) : Int) + 3) = true := decide_eq_true im
                have im2 : (q : Int) < (j : Int) + 1 + 3 := by clear hw1 hwf hwf2; omega
                have im2d : decide ((q : Int) < (j : Int) + 1 + 3) = true := decide_eq_true im2
                have hstep : run isD t (3 - (q - (j + 1))) q = if isD (t[q]'hlt) then run isD t (3 - (q + 1 - (j + 1))) (q + 1) else q := by
                  rw [show 3 - (q - (j + 1)) = (3 - (q + 1 - (j + 1))) + 1 by clear hw1 hwf hwf2; omega, run, dif_pos hlt]
                by_cases k1 : 48 ≤ (t[q]'hlt).toNat
                · have k1i : (48 : Int) ≤ ((t[q]'hlt).toNat : Int) := Int.ofNat_le.2 k1
                  have k1d : decide ((48 : Int) ≤ ((t[q]'hlt).toNat : Int)) = true := decide_eq_true k1i
                  have k1e : decide (48 ≤ (t[q]'hlt).toNat) = true := decide_eq_true k1
                  by_cases k2 : (t[q]'hlt).toNat ≤ 57
                  · have k2i : ((t[q]'hlt).toNat : Int) ≤ 57 := Int.ofNat_le.2 k2
                    have k2d : decide (((t[q]'hlt).toNat : Int) ≤ 57) = true := decide_eq_true k2i
                    have k2e : decide ((t[q]'hlt).toNat ≤ 57) = true := decide_eq_true k2
                    have hfc : isD (t[q]'hlt) = true := by unfold isD; rw [k1e, k2e]; rfl
                    rw [hfc] at hstep
                    have HE2 : Hid (run isD t (3 - (q + 1 - (j + 1))) (q + 1) = RR) := by
                      show _ = _
                      rw [← HE.out, hstep]
                      rfl
                    have hpw := pow_le (k := q - (j + 1)) (by clear hw1 hwf hwf2; omega)
                    have HNX : Hid (num t (j + 1) (q + 1) = num t (j + 1) q * 10 + (((t[q]'hlt).toNat : Int) - 48)) := num_succ t (j + 1) q hpq hlt
                    have hnn := HN01.out
                    have HNB : Hid (0 ≤ num t (j + 1) (q + 1) ∧ num t (j + 1) (q + 1) < 10 ^ (q + 1 - (j + 1))) := by
                      show _ ∧ _
                      rw [HNX.out, show q + 1 - (j + 1) = (q - (j + 1)) + 1 by clear hw1 hwf hwf2; omega, Int.pow_succ]
                      clear hw1 hwf hwf2
                      omega
                    have hn100 : num t (j + 1) q < 100 := by clear hw1 hwf hwf2; omega
                    have hn00 : 0 ≤ num t (j + 1) q := hnn.1
                    obtain ⟨n9, hn9⟩ : ∃ n9, num t (j + 1) (q + 1) = n9 := ⟨_, rfl⟩
                    rw [hn9] at HNX HNB
                    have HN9 : Hid (num t (j + 1) (q + 1) = n9) := hn9
                    clear hn9
                    generalize num t (j + 1) q = n8 at *
                    have hu8 := u8_sub k1 k2
                    clear hstep hfc HE hnn hpw HN01
                    generalize hcc : (t[q]'hlt).toNat = cc at *
                    have hm1 : IntKind.i64.wrap (n8 * 10) = n8 * 10 := i64_s (by clear hw1 hwf hwf2 hu8; omega) (by clear hw1 hwf hwf2 hu8; omega)
                    have hm2 : IntKind.i64.wrap ((cc : Int) - 48) = (cc : Int) - 48 := i64_s (by clear hw1 hwf hwf2 hu8 hm1; omega) (by clear hw1 hwf hwf2 hu8 hm1; omega)
                    have hm3 : IntKind.i64.wrap (n8 * 10 + ((cc : Int) - 48)) = n8 * 10 + ((cc : Int) - 48) := i64_s (by clear hw1 hwf hwf2 hu8 hm1 hm2; omega) (by clear hw1 hwf hwf2 hu8 hm1 hm2; omega)
                    have hm4 : wrap64 (n8 * 10) = n8 * 10 := w64_s (by clear hw1 hwf hwf2 hu8 hm1 hm2 hm3; omega) (by clear hw1 hwf hwf2 hu8 hm1 hm2 hm3; omega)
                    have hm5 : wrap64 (n8 * 10 + ((cc : Int) - 48)) = n8 * 10 + ((cc : Int) - 48) := w64_s (by clear hw1 hwf hwf2 hu8 hm1 hm2 hm3 hm4; omega) (by clear hw1 hwf hwf2 hu8 hm1 hm2 hm3 hm4; omega)
                    have hwq : wrap64 ((q : Int) + 1) = ((q + 1 : Nat) : Int) := by clear hw1 hwf hwf2 hu8 hm1 hm2 hm3 hm4 hm5; unfold wrap64; omega
                    subst hcc
                    go_wp2_with fail
                    go_quiet (fail)
                    have rV : ExAt (wr.drewN nq) X t iv q (-1) := HRR.out
                    have bV : But X w (wr.drewN nq) := ⟨HBT.out.os, HBT.out.tape, HBT.out.output, HBT.out.size, HBT.out.block⟩
                    clear g0 g1 c0 c1 c2 c3 hf HRR HBT
                    generalize wr.drewN nq = V at *
                    obtain ⟨⟨c0, c1, c2, c3⟩, hf⟩ := rV.cells
                    have f1 := hf 1
                    go_wp2_with fail
                    go_quiet (fail)
                    have rU : ExAt (V.drewN nq) X t iv q (-1) := rV
                    have bU : But X w (V.drewN nq) := ⟨bV.os, bV.tape, bV.output, bV.size, bV.block⟩
                    clear c0 c1 c2 c3 hf f1 rV bV
                    generalize V.drewN nq = U at *
                    obtain ⟨⟨c0, c1, c2, c3⟩, hf⟩ := rU.cells
                    have f1 := hf 1
                    have rU2 := ex_at rU (q + 1)
                    have bU2 := bU.setCell (i := 1) (.int .i64 ((q + 1 : Nat) : Int))
                    clear hw1 hwf hwf2 hu8 hm1 hm2 hm3 hm4 hm5 iqd iqe imd im2d k1d k1e k2d k2e im im2 k1i k2i
                    go_wp2_with fail
                    clear hwq
                    go_roundg (t.size - q)
                    case measure => omega
                    case rel =>
                      refine ⟨q + 1, rU2, bU2, by omega, by omega, by omega, by omega, HE2.out, ?_, ?_, ?_⟩
                      · rw [HN9.out, HNX.out]
                      · rw [HN9.out]
                        exact HNB.out.1
                      · rw [HN9.out]
                        exact HNB.out.2
                  · have hfc : isD (t[q]'hlt) = false := by
                      unfold isD
                      rw [decide_eq_false k2, Bool.and_false]
                    have k2i : ¬ ((t[q]'hlt).toNat : Int) ≤ 57 := by clear hw1 hwf hwf2; omega
                    have k2d : decide (((t[q]'hlt).toNat : Int) ≤ 57) = false := decide_eq_false k2i
                    have k2e : decide ((t[q]'hlt).toNat ≤ 57) = false := decide_eq_false k2
                    rw [hfc, if_neg (by decide)] at hstep
                    have HQ : Hid (q = RR) := by
                      show q = RR
                      rw [← HE.out, hstep]
                    clear hstep HE HN01
                    go_wp2_with fail
                    refine wp_region_quiet_below (by kernel_rfl) (by kernel_rfl) ?_
                    repeat (first | go_big_quiet_skip | (go_big_quiet_want; go_big_quiet_op; go_big_quiet_on) | quiet_step (fail))
                    refine wpQuiet_nil ?_
                    intro _ hw'
                    obtain ⟨⟨dq, os⟩, hw''⟩ := hw'
                    subst hw''
                    have kR := below_regrown wr dq os
                    have rV := HRR.out.below kR
                    have bV := HBT.out.trans (But.of_below kR)
                    clear g0 g1 c0 c1 c2 c3 hf kR HRR HBT
                    generalize grow (redrawn wr dq) os = V at *
                    obtain rfl := HQ.out
                    obtain ⟨⟨c0, c1, c2, c3⟩, hf⟩ := rV.cells
                    have f1 := hf 1
                    have HV := HVh.out
                    have HCU := HCUh.out
                    have HWT := HWTh.out
                    clear HVh HCUh HWTh
                    have iRa : ¬ (q : Int) = (j : Int) + 1 := by clear hw1 hwf hwf2; omega
                    have iRb : ((q : Int) == (j : Int) + 1) = false := beq_eq_false_iff_ne.2 iRa
                    have iRc : decide ((q : Int) = (j : Int) + 1) = false := decide_eq_false iRa
                    clear hw1 hwf hwf2
                    try clear k2i k2d k2e
                    try clear k1i k1d k1e
                    try clear im imd im2 im2d
                    try clear iq iqd iqe
                    go_wp2_with fail
                    refine (HW58 _ rV).mono ?_
                    rintro e W2 ⟨rfl, r2, b2⟩
                    have b3 := bV.trans b2
                    obtain ⟨⟨_, _, y2, _⟩, _⟩ := r2.cells
                    go_wp2_with fail
                    refine (HV _ (HEB.out _ b3) r2).mono ?_
                    rintro e W3 ⟨rfl, r3, b4⟩
                    have b5 := b3.trans b4
                    go_wp2_with fail
                    refine (HCU _).mono ?_
                    rintro e W4 ⟨rfl, k4⟩
                    have r4 := r3.below k4
                    have b6 := b5.trans (But.of_below k4)
                    obtain ⟨⟨_, _, z2, _⟩, _⟩ := r4.cells
                    go_wp2_with fail
                    refine (HWT _ r4).mono ?_
                    rintro e W5 ⟨rfl, r5, b7⟩
                    have b8 := b6.trans b7
                    go_wp2_with fail
                    go_ret
                    exact ⟨_, rfl, HBDh.out, r5, b8⟩
                · have hfc : isD (t[q]'hlt) = false := by
                    unfold isD
                    rw [decide_eq_false k1, Bool.false_and]
                  have k1i : ¬ (48 : Int) ≤ ((t[q]'hlt).toNat : Int) := by clear hw1 hwf hwf2; omega
                  have k1d : decide ((48 : Int) ≤ ((t[q]'hlt).toNat : Int)) = false := decide_eq_false k1i
                  have k1e : decide (48 ≤ (t[q]'hlt).toNat) = false := decide_eq_false k1
                  rw [hfc, if_neg (by decide)] at hstep
                  have HQ : Hid (q = RR) := by
                    show q = RR
                    rw [← HE.out, hstep]
                  clear hstep HE HN01
                  go_wp2_with fail
                  refine wp_region_quiet_below (by kernel_rfl) (by kernel_rfl) ?_
                  repeat (first | go_big_quiet_skip | (go_big_quiet_want; go_big_quiet_op; go_big_quiet_on) | quiet_step (fail))
                  refine wpQuiet_nil ?_
                  intro _ hw'
                  obtain ⟨⟨dq, os⟩, hw''⟩ := hw'
                  subst hw''
                  have kR := below_regrown wr dq os
                  have rV := HRR.out.below kR
                  have bV := HBT.out.trans (But.of_below kR)
                  clear g0 g1 c0 c1 c2 c3 hf kR HRR HBT
                  generalize grow (redrawn wr dq) os = V at *
                  obtain rfl := HQ.out
                  obtain ⟨⟨c0, c1, c2, c3⟩, hf⟩ := rV.cells
                  have f1 := hf 1
                  have HV := HVh.out
                  have HCU := HCUh.out
                  have HWT := HWTh.out
                  clear HVh HCUh HWTh
                  have iRa : ¬ (q : Int) = (j : Int) + 1 := by clear hw1 hwf hwf2; omega
                  have iRb : ((q : Int) == (j : Int) + 1) = false := beq_eq_false_iff_ne.2 iRa
                  have iRc : decide ((q : Int) = (j : Int) + 1) = false := decide_eq_false iRa
                  clear hw1 hwf hwf2
                  try clear k2i k2d k2e
                  try clear k1i k1d k1e
                  try clear im imd im2 im2d
                  try clear iq iqd iqe
                  go_wp2_with fail
                  refine (HW58 _ rV).mono ?_
                  rintro e W2 ⟨rfl, r2, b2⟩
                  have b3 := bV.trans b2
                  obtain ⟨⟨_, _, y2, _⟩, _⟩ := r2.cells
                  go_wp2_with fail
                  refine (HV _ (HEB.out _ b3) r2).mono ?_
                  rintro e W3 ⟨rfl, r3, b4⟩
                  have b5 := b3.trans b4
                  go_wp2_with fail
                  refine (HCU _).mono ?_
                  rintro e W4 ⟨rfl, k4⟩
                  have r4 := r3.below k4
                  have b6 := b5.trans (But.of_below k4)
                  obtain ⟨⟨_, _, z2, _⟩, _⟩ := r4.cells
                  go_wp2_with fail
                  refine (HWT _ r4).mono ?_
                  rintro e W5 ⟨rfl, r5, b7⟩
                  have b8 := b6.trans b7
                  go_wp2_with fail
                  go_ret
                  exact ⟨_, rfl, HBDh.out, r5, b8⟩
              · have hstep : run isD t (3 - (q - (j + 1))) q = q := by
                  rw [show 3 - (q - (j + 1)) = 0 by clear hw1 hwf hwf2; omega]
                  rfl
                have im : ¬ (q : Int) < ((j + 1 : Nat) : Int) + 3 := by clear hw1 hwf hwf2; omega
                have imd : decide ((q : Int) < ((j + 1 : Nat) : Int) + 3) = false := decide_eq_false im
                have im2 : ¬ (q : Int) < (j : Int) + 1 + 3 := by clear hw1 hwf hwf2; omega
                have im2d : decide ((q : Int) < (j : Int) + 1 + 3) = false := decide_eq_false im2
                have HQ : Hid (q = RR) := by
                  show q = RR
                  rw [← HE.out, hstep]
                clear hstep HE HN01
                go_wp2_with fail
                refine wp_region_quiet_below (by kernel_rfl) (by kernel_rfl) ?_
                repeat (first | go_big_quiet_skip | (go_big_quiet_want; go_big_quiet_op; go_big_quiet_on) | quiet_step (fail))
                refine wpQuiet_nil ?_
                intro _ hw'
                obtain ⟨⟨dq, os⟩, hw''⟩ := hw'
                subst hw''
                have kR := below_regrown wr dq os
                have rV := HRR.out.below kR
                have bV := HBT.out.trans (But.of_below kR)
                clear g0 g1 c0 c1 c2 c3 hf kR HRR HBT
                generalize grow (redrawn wr dq) os = V at *
                obtain rfl := HQ.out
                obtain ⟨⟨c0, c1, c2, c3⟩, hf⟩ := rV.cells
                have f1 := hf 1
                have HV := HVh.out
                have HCU := HCUh.out
                have HWT := HWTh.out
                clear HVh HCUh HWTh
                have iRa : ¬ (q : Int) = (j : Int) + 1 := by clear hw1 hwf hwf2; omega
                have iRb : ((q : Int) == (j : Int) + 1) = false := beq_eq_false_iff_ne.2 iRa
                have iRc : decide ((q : Int) = (j : Int) + 1) = false := decide_eq_false iRa
                clear hw1 hwf hwf2
                try clear k2i k2d k2e
                try clear k1i k1d k1e
                try clear im imd im2 im2d
                try clear iq iqd iqe
                go_wp2_with fail
                refine (HW58 _ rV).mono ?_
                rintro e W2 ⟨rfl, r2, b2⟩
                have b3 := bV.trans b2
                obtain ⟨⟨_, _, y2, _⟩, _⟩ := r2.cells
                go_wp2_with fail
                refine (HV _ (HEB.out _ b3) r2).mono ?_
                rintro e W3 ⟨rfl, r3, b4⟩
                have b5 := b3.trans b4
                go_wp2_with fail
                refine (HCU _).mono ?_
                rintro e W4 ⟨rfl, k4⟩
                have r4 := r3.below k4
                have b6 := b5.trans (But.of_below k4)
                obtain ⟨⟨_, _, z2, _⟩, _⟩ := r4.cells
                go_wp2_with fail
                refine (HWT _ r4).mono ?_
                rintro e W5 ⟨rfl, r5, b7⟩
                have b8 := b6.trans b7
                go_wp2_with fail
                go_ret
                exact ⟨_, rfl, HBDh.out, r5, b8⟩
            · have hstep : run isD t (3 - (q - (j + 1))) q = q := run_end hlt
              have iq : ¬ (q : Int) < (t.size : Int) := by clear hw1 hwf hwf2; omega
              have iqd : decide ((q : Int) < (t.size : Int)) = false := decide_eq_false iq
              have iqe : decide (q < t.size) = false := decide_eq_false hlt
              exfalso
              have h3 := HE.out
              rw [hstep] at h3
              clear hw1 hwf hwf2
              omega
        · rw [hy] at HWT
          simp only [if_true] at HWT ⊢
          have HWTh : Hid _ := HWT
          clear hy HWT
          go_enter Tryd.func20, Tryd.ntmps20
          go_wp2_with fail
          go_quiet (fail)
          have rV : ExAt (w.drewN nq) X t iv j (-1) := HX.out
          have bV : But X w (w.drewN nq) := ⟨rfl, rfl, rfl, Nat.le_refl _, fun _ _ _ => rfl⟩
          generalize w.drewN nq = V at *
          obtain ⟨⟨c0, c1, c2, c3⟩, hf⟩ := rV.cells
          have f1 := hf 1
          have r1 := ex_at rV (j + 1)
          have b1 := bV.setCell (i := 1) (.int .i64 ((j + 1 : Nat) : Int))
          clear c0 c2 c3 rV bV
          go_wp2_with fail
          refine (HP63 _).mono ?_
          rintro e W1 ⟨rfl, hw1'⟩
          obtain rfl := hw1'.symm
          go_wp2_with fail
          refine (HP61 _).mono ?_
          rintro e W1 ⟨rfl, hw1'⟩
          obtain rfl := hw1'.symm
          have HR1 : Hid (ExAt (V.setCell ⟨X, 1, none⟩ (.int .i64 ((j + 1 : Nat) : Int))) X t iv (j + 1) (-1) ∧ But X w (V.setCell ⟨X, 1, none⟩ (.int .i64 ((j + 1 : Nat) : Int)))) := ⟨r1, b1⟩
          obtain ⟨⟨_, y1, _, _⟩, _⟩ := r1.cells
          clear r1 b1 hf
          go_wp2_with fail
          clear c1 f1 y1 HP63 HP61
          go_loopg [11] (t.size + 1) (fun gg u11 wr => ∃ q : Nat, ExAt wr X t iv q (-1) ∧ But X w wr ∧ j + 1 ≤ q ∧ q - (j + 1) ≤ 3 ∧ q ≤ t.size ∧ t.size - q < gg ∧ run isD t (3 - (q - (j + 1))) q = RR ∧ u11 = .int .i64 (num t (j + 1) q) ∧ 0 ≤ num t (j + 1) q ∧ num t (j + 1) q < 10 ^ (q - (j + 1)))
          case atStart => exact ⟨j + 1, HR1.out.1, HR1.out.2, Nat.le_refl _, by omega, hj1, by clear hw1; omega, by rw [Nat.sub_self]; exact HRR0.out, by rw [num_self], by rw [num_self]; exact Int.le_refl _, by rw [num_self, Nat.sub_self]; decide⟩
          case round =>
            obtain ⟨q, hrr, hbt, hpq, hqm, hqs, hg, he, rfl, hn0, hn1⟩ := hrel
            obtain ⟨⟨c0, c1, c2, c3⟩, hf⟩ := hrr.cells
            have g0 := fun d os => cell_regrown c0 d os
            have g1 := fun d os => cell_regrown c1 d os
            have HRR : Hid (ExAt wr X t iv q (-1)) := hrr
            have HBT : Hid (But X w wr) := hbt
            have HE : Hid (run isD t (3 - (q - (j + 1))) q = RR) := he
            have HN01 : Hid (0 ≤ num t (j + 1) q ∧ num t (j + 1) q < 10 ^ (q - (j + 1))) := ⟨hn0, hn1⟩
            have hwf : IntKind.i64.wrap (((j + 1 : Nat) : Int) + 3) = ((j + 1 : Nat) : Int) + 3 := i64_s (by clear hw1; omega) (by clear hw1; omega)
            have hwf2 : IntKind.i64.wrap ((j : Int) + 1 + 3) = (j : Int) + 1 + 3 := i64_s (by clear hw1 hwf; omega) (by clear hw1 hwf; omega)
            clear hrr hbt HR1 he hn0 hn1
            have iq0 : (0 : Int) ≤ (q : Int) := Int.natCast_nonneg _
            by_cases hlt : q < t.size
            · have iq : (q : Int) < (t.size : Int) := Int.ofNat_lt.2 hlt
              have iqd : decide ((q : Int) < (t.size : Int)) = true := decide_eq_true iq
              have iqe : decide (q < t.size) = true := decide_eq_true hlt
              by_cases hlm : q - (j + 1) < 3
              · have im : (q : Int) < ((j + 1 : Nat) : Int) + 3 := by clear hw1 hwf hwf2; omega
                have imd : decide ((q : Int) < ((j + 1 : Nat) : Int) + 3) = true := decide_eq_true im
                have im2 : (q : Int) < (j : Int) + 1 + 3 := by clear hw1 hwf hwf2; omega
                have im2d : decide ((q : Int) < (j : Int) + 1 + 3) = true := decide_eq_true im2
                have hstep : run isD t (3 - (q - (j + 1))) q = if isD (t[q]'hlt) then run isD t (3 - (q + 1 - (j + 1))) (q + 1) else q := by
                  rw [show 3 - (q - (j + 1)) = (3 - (q + 1 - (j + 1))) + 1 by clear hw1 hwf hwf2; omega, run, dif_pos hlt]
                by_cases k1 : 48 ≤ (t[q]'hlt).toNat
                · have k1i : (48 : Int) ≤ ((t[q]'hlt).toNat : Int) := Int.ofNat_le.2 k1
                  have k1d : decide ((48 : Int) ≤ ((t[q]'hlt).toNat : Int)) = true := decide_eq_true k1i
                  have k1e : decide (48 ≤ (t[q]'hlt).toNat) = true := decide_eq_true k1
                  by_cases k2 : (t[q]'hlt).toNat ≤ 57
                  · have k2i : ((t[q]'hlt).toNat : Int) ≤ 57 := Int.ofNat_le.2 k2
                    have k2d : decide (((t[q]'hlt).toNat : Int) ≤ 57) = true := decide_eq_true k2i
                    have k2e : decide ((t[q]'hlt).toNat ≤ 57) = true := decide_eq_true k2
                    have hfc : isD (t[q]'hlt) = true := by unfold isD; rw [k1e, k2e]; rfl
                    rw [hfc] at hstep
                    have HE2 : Hid (run isD t (3 - (q + 1 - (j + 1))) (q + 1) = RR) := by
                      show _ = _
                      rw [← HE.out, hstep]
                      rfl
                    have hpw := pow_le (k := q - (j + 1)) (by clear hw1 hwf hwf2; omega)
                    have HNX : Hid (num t (j + 1) (q + 1) = num t (j + 1) q * 10 + (((t[q]'hlt).toNat : Int) - 48)) := num_succ t (j + 1) q hpq hlt
                    have hnn := HN01.out
                    have HNB : Hid (0 ≤ num t (j + 1) (q + 1) ∧ num t (j + 1) (q + 1) < 10 ^ (q + 1 - (j + 1))) := by
                      show _ ∧ _
                      rw [HNX.out, show q + 1 - (j + 1) = (q - (j + 1)) + 1 by clear hw1 hwf hwf2; omega, Int.pow_succ]
                      clear hw1 hwf hwf2
                      omega
                    have hn100 : num t (j + 1) q < 100 := by clear hw1 hwf hwf2; omega
                    have hn00 : 0 ≤ num t (j + 1) q := hnn.1
                    obtain ⟨n9, hn9⟩ : ∃ n9, num t (j + 1) (q + 1) = n9 := ⟨_, rfl⟩
                    rw [hn9] at HNX HNB
                    have HN9 : Hid (num t (j + 1) (q + 1) = n9) := hn9
                    clear hn9
                    generalize num t (j + 1) q = n8 at *
                    have hu8 := u8_sub k1 k2
                    clear hstep hfc HE hnn hpw HN01
                    generalize hcc : (t[q]'hlt).toNat = cc at *
                    have hm1 : IntKind.i64.wrap (n8 * 10) = n8 * 10 := i64_s (by clear hw1 hwf hwf2 hu8; omega) (by clear hw1 hwf hwf2 hu8; omega)
                    have hm2 : IntKind.i64.wrap ((cc : Int) - 48) = (cc : Int) - 48 := i64_s (by clear hw1 hwf hwf2 hu8 hm1; omega) (by clear hw1 hwf hwf2 hu8 hm1; omega)
                    have hm3 : IntKind.i64.wrap (n8 * 10 + ((cc : Int) - 48)) = n8 * 10 + ((cc : Int) - 48) := i64_s (by clear hw1 hwf hwf2 hu8 hm1 hm2; omega) (by clear hw1 hwf hwf2 hu8 hm1 hm2; omega)
                    have hm4 : wrap64 (n8 * 10) = n8 * 10 := w64_s (by clear hw1 hwf hwf2 hu8 hm1 hm2 hm3; omega) (by clear hw1 hwf hwf2 hu8 hm1 hm2 hm3; omega)
                    have hm5 : wrap64 (n8 * 10 + ((cc : Int) - 48)) = n8 * 10 + ((cc : Int) - 48) := w64_s (by clear hw1 hwf hwf2 hu8 hm1 hm2 hm3 hm4; omega) (by clear hw1 hwf hwf2 hu8 hm1 hm2 hm3 hm4; omega)
                    have hwq : wrap64 ((q : Int) + 1) = ((q + 1 : Nat) : Int) := by clear hw1 hwf hwf2 hu8 hm1 hm2 hm3 hm4 hm5; unfold wrap64; omega
                    subst hcc
                    go_wp2_with fail
                    go_quiet (fail)
                    have rV : ExAt (wr.drewN nq) X t iv q (-1) := HRR.out
                    have bV : But X w (wr.drewN nq) := ⟨HBT.out.os, HBT.out.tape, HBT.out.output, HBT.out.size, HBT.out.block⟩
                    clear g0 g1 c0 c1 c2 c3 hf HRR HBT
                    generalize wr.drewN nq = V at *
                    obtain ⟨⟨c0, c1, c2, c3⟩, hf⟩ := rV.cells
                    have f1 := hf 1
                    go_wp2_with fail
                    go_quiet (fail)
                    have rU : ExAt (V.drewN nq) X t iv q (-1) := rV
                    have bU : But X w (V.drewN nq) := ⟨bV.os, bV.tape, bV.output, bV.size, bV.block⟩
                    clear c0 c1 c2 c3 hf f1 rV bV
                    generalize V.drewN nq = U at *
                    obtain ⟨⟨c0, c1, c2, c3⟩, hf⟩ := rU.cells
                    have f1 := hf 1
                    have rU2 := ex_at rU (q + 1)
                    have bU2 := bU.setCell (i := 1) (.int .i64 ((q + 1 : Nat) : Int))
                    clear hw1 hwf hwf2 hu8 hm1 hm2 hm3 hm4 hm5 iqd iqe imd im2d k1d k1e k2d k2e im im2 k1i k2i
                    go_wp2_with fail
                    clear hwq
                    go_roundg (t.size - q)
                    case measure => omega
                    case rel =>
                      refine ⟨q + 1, rU2, bU2, by omega, by omega, by omega, by omega, HE2.out, ?_, ?_, ?_⟩
                      · rw [HN9.out, HNX.out]
                      · rw [HN9.out]
                        exact HNB.out.1
                      · rw [HN9.out]
                        exact HNB.out.2
                  · have hfc : isD (t[q]'hlt) = false := by
                      unfold isD
                      rw [decide_eq_false k2, Bool.and_false]
                    have k2i : ¬ ((t[q]'hlt).toNat : Int) ≤ 57 := by clear hw1 hwf hwf2; omega
                    have k2d : decide (((t[q]'hlt).toNat : Int) ≤ 57) = false := decide_eq_false k2i
                    have k2e : decide ((t[q]'hlt).toNat ≤ 57) = false := decide_eq_false k2
                    rw [hfc, if_neg (by decide)] at hstep
                    have HQ : Hid (q = RR) := by
                      show q = RR
                      rw [← HE.out, hstep]
                    clear hstep HE HN01
                    go_wp2_with fail
                    refine wp_region_quiet_below (by kernel_rfl) (by kernel_rfl) ?_
                    repeat (first | go_big_quiet_skip | (go_big_quiet_want; go_big_quiet_op; go_big_quiet_on) | quiet_step (fail))
                    refine wpQuiet_nil ?_
                    intro _ hw'
                    obtain ⟨⟨dq, os⟩, hw''⟩ := hw'
                    subst hw''
                    have kR := below_regrown wr dq os
                    have rV := HRR.out.below kR
                    have bV := HBT.out.trans (But.of_below kR)
                    clear g0 g1 c0 c1 c2 c3 hf kR HRR HBT
                    generalize grow (redrawn wr dq) os = V at *
                    obtain rfl := HQ.out
                    obtain ⟨⟨c0, c1, c2, c3⟩, hf⟩ := rV.cells
                    have f1 := hf 1
                    have HV := HVh.out
                    have HCU := HCUh.out
                    have HWT := HWTh.out
                    clear HVh HCUh HWTh
                    have iRa : ¬ (q : Int) = (j : Int) + 1 := by clear hw1 hwf hwf2; omega
                    have iRb : ((q : Int) == (j : Int) + 1) = false := beq_eq_false_iff_ne.2 iRa
                    have iRc : decide ((q : Int) = (j : Int) + 1) = false := decide_eq_false iRa
                    clear hw1 hwf hwf2
                    try clear k2i k2d k2e
                    try clear k1i k1d k1e
                    try clear im imd im2 im2d
                    try clear iq iqd iqe
                    go_wp2_with fail
                    refine (HW58 _ rV).mono ?_
                    rintro e W2 ⟨rfl, r2, b2⟩
                    have b3 := bV.trans b2
                    obtain ⟨⟨_, _, y2, _⟩, _⟩ := r2.cells
                    go_wp2_with fail
                    refine (HV _ (HEB.out _ b3) r2).mono ?_
                    rintro e W3 ⟨rfl, r3, b4⟩
                    have b5 := b3.trans b4
                    go_wp2_with fail
                    refine (HCU _).mono ?_
                    rintro e W4 ⟨rfl, k4⟩
                    have r4 := r3.below k4
                    have b6 := b5.trans (But.of_below k4)
                    obtain ⟨⟨_, _, z2, _⟩, _⟩ := r4.cells
                    go_wp2_with fail
                    refine (HWT _ r4).mono ?_
                    rintro e W5 ⟨rfl, r5, b7⟩
                    have b8 := b6.trans b7
                    go_wp2_with fail
                    go_ret
                    exact ⟨rfl, r5, b8⟩
                · have hfc : isD (t[q]'hlt) = false := by
                    unfold isD
                    rw [decide_eq_false k1, Bool.false_and]
                  have k1i : ¬ (48 : Int) ≤ ((t[q]'hlt).toNat : Int) := by clear hw1 hwf hwf2; omega
                  have k1d : decide ((48 : Int) ≤ ((t[q]'hlt).toNat : Int)) = false := decide_eq_false k1i
                  have k1e : decide (48 ≤ (t[q]'hlt).toNat) = false := decide_eq_false k1
                  rw [hfc, if_neg (by decide)] at hstep
                  have HQ : Hid (q = RR) := by
                    show q = RR
                    rw [← HE.out, hstep]
                  clear hstep HE HN01
                  go_wp2_with fail
                  refine wp_region_quiet_below (by kernel_rfl) (by kernel_rfl) ?_
                  repeat (first | go_big_quiet_skip | (go_big_quiet_want; go_big_quiet_op; go_big_quiet_on) | quiet_step (fail))
                  refine wpQuiet_nil ?_
                  intro _ hw'
                  obtain ⟨⟨dq, os⟩, hw''⟩ := hw'
                  subst hw''
                  have kR := below_regrown wr dq os
                  have rV := HRR.out.below kR
                  have bV := HBT.out.trans (But.of_below kR)
                  clear g0 g1 c0 c1 c2 c3 hf kR HRR HBT
                  generalize grow (redrawn wr dq) os = V at *
                  obtain rfl := HQ.out
                  obtain ⟨⟨c0, c1, c2, c3⟩, hf⟩ := rV.cells
                  have f1 := hf 1
                  have HV := HVh.out
                  have HCU := HCUh.out
                  have HWT := HWTh.out
                  clear HVh HCUh HWTh
                  have iRa : ¬ (q : Int) = (j : Int) + 1 := by clear hw1 hwf hwf2; omega
                  have iRb : ((q : Int) == (j : Int) + 1) = false := beq_eq_false_iff_ne.2 iRa
                  have iRc : decide ((q : Int) = (j : Int) + 1) = false := decide_eq_false iRa
                  clear hw1 hwf hwf2
                  try clear k2i k2d k2e
                  try clear k1i k1d k1e
                  try clear im imd im2 im2d
                  try clear iq iqd iqe
                  go_wp2_with fail
                  refine (HW58 _ rV).mono ?_
                  rintro e W2 ⟨rfl, r2, b2⟩
                  have b3 := bV.trans b2
                  obtain ⟨⟨_, _, y2, _⟩, _⟩ := r2.cells
                  go_wp2_with fail
                  refine (HV _ (HEB.out _ b3) r2).mono ?_
                  rintro e W3 ⟨rfl, r3, b4⟩
                  have b5 := b3.trans b4
                  go_wp2_with fail
                  refine (HCU _).mono ?_
                  rintro e W4 ⟨rfl, k4⟩
                  have r4 := r3.below k4
                  have b6 := b5.trans (But.of_below k4)
                  obtain ⟨⟨_, _, z2, _⟩, _⟩ := r4.cells
                  go_wp2_with fail
                  refine (HWT _ r4).mono ?_
                  rintro e W5 ⟨rfl, r5, b7⟩
                  have b8 := b6.trans b7
                  go_wp2_with fail
                  go_ret
                  exact ⟨rfl, r5, b8⟩
              · have hstep : run isD t (3 - (q - (j + 1))) q = q := by
                  rw [show 3 - (q - (j + 1)) = 0 by clear hw1 hwf hwf2; omega]
                  rfl
                have im : ¬ (q : Int) < ((j + 1 : Nat) : Int) + 3 := by clear hw1 hwf hwf2; omega
                have imd : decide ((q : Int) < ((j + 1 : Nat) : Int) + 3) = false := decide_eq_false im
                have im2 : ¬ (q : Int) < (j : Int) + 1 + 3 := by clear hw1 hwf hwf2; omega
                have im2d : decide ((q : Int) < (j : Int) + 1 + 3) = false := decide_eq_false im2
                have HQ : Hid (q = RR) := by
                  show q = RR
                  rw [← HE.out, hstep]
                clear hstep HE HN01
                go_wp2_with fail
                refine wp_region_quiet_below (by kernel_rfl) (by kernel_rfl) ?_
                repeat (first | go_big_quiet_skip | (go_big_quiet_want; go_big_quiet_op; go_big_quiet_on) | quiet_step (fail))
                refine wpQuiet_nil ?_
                intro _ hw'
                obtain ⟨⟨dq, os⟩, hw''⟩ := hw'
                subst hw''
                have kR := below_regrown wr dq os
                have rV := HRR.out.below kR
                have bV := HBT.out.trans (But.of_below kR)
                clear g0 g1 c0 c1 c2 c3 hf kR HRR HBT
                generalize grow (redrawn wr dq) os = V at *
                obtain rfl := HQ.out
                obtain ⟨⟨c0, c1, c2, c3⟩, hf⟩ := rV.cells
                have f1 := hf 1
                have HV := HVh.out
                have HCU := HCUh.out
                have HWT := HWTh.out
                clear HVh HCUh HWTh
                have iRa : ¬ (q : Int) = (j : Int) + 1 := by clear hw1 hwf hwf2; omega
                have iRb : ((q : Int) == (j : Int) + 1) = false := beq_eq_false_iff_ne.2 iRa
                have iRc : decide ((q : Int) = (j : Int) + 1) = false := decide_eq_false iRa
                clear hw1 hwf hwf2
                try clear k2i k2d k2e
                try clear k1i k1d k1e
                try clear im imd im2 im2d
                try clear iq iqd iqe
                go_wp2_with fail
                refine (HW58 _ rV).mono ?_
                rintro e W2 ⟨rfl, r2, b2⟩
                have b3 := bV.trans b2
                obtain ⟨⟨_, _, y2, _⟩, _⟩ := r2.cells
                go_wp2_with fail
                refine (HV _ (HEB.out _ b3) r2).mono ?_
                rintro e W3 ⟨rfl, r3, b4⟩
                have b5 := b3.trans b4
                go_wp2_with fail
                refine (HCU _).mono ?_
                rintro e W4 ⟨rfl, k4⟩
                have r4 := r3.below k4
                have b6 := b5.trans (But.of_below k4)
                obtain ⟨⟨_, _, z2, _⟩, _⟩ := r4.cells
                go_wp2_with fail
                refine (HWT _ r4).mono ?_
                rintro e W5 ⟨rfl, r5, b7⟩
                have b8 := b6.trans b7
                go_wp2_with fail
                go_ret
                exact ⟨rfl, r5, b8⟩
            · have hstep : run isD t (3 - (q - (j + 1))) q = q := run_end hlt
              have iq : ¬ (q : Int) < (t.size : Int) := by clear hw1 hwf hwf2; omega
              have iqd : decide ((q : Int) < (t.size : Int)) = false := decide_eq_false iq
              have iqe : decide (q < t.size) = false := decide_eq_false hlt
              exfalso
              have h3 := HE.out
              rw [hstep] at h3
              clear hw1 hwf hwf2
              omega

end Fmt
end Go.Proofs.YtbhoklhcdefabaaDoor
