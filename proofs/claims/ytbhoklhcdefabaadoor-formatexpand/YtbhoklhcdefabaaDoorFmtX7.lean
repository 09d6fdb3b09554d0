/- The reference's expander: any item; a text. (Written by gen_fmtx7.py.) -/
import Derived.Test.YtbhoklhcdefabaaDoorFmtX6
import Derived.Test.YtbhoklhcdefabaaDoorFmtX5
import Derived.Test.YtbhoklhcdefabaaDoorFmtBytes
namespace Go.Proofs.YtbhoklhcdefabaaDoor
open Go.ChangeShapes Go.WideShapes Go.ChangeAt Go.RowKit Go.Maps Go.Sort
namespace Fmt
open Txt (bs cutB)
theorem nx_not {t : ByteArray} {j : Nat} {a b : UInt8} (hab : a ≠ b) (h : nx t j a = true) : nx t j b = false := by
  unfold nx at h ⊢
  split at h
  · rename_i hj
    rw [dif_pos hj, eq_of_beq h]
    exact beq_eq_false_iff_ne.2 hab
  · simp at h
theorem itemX_any (w0 : World) (X : Nat) (t : ByteArray) (iv : Value) (j d : Nat) (I : List (ByteArray × ByteArray)) (w : World) (E : Env w0 X iv I) (hb : Below w0.heap.size w0 w) (h : ExAt w X t iv j (-1)) (hj : j ≤ t.size) (hs : t.size ≤ 4000) (g : Nat) (hd : d ≤ 8) (hg : t.size - j < g + 1) (HTX : TextOk w0 X t iv I g) :
    Calls Tryd.prog 20 #[.pointer (some ⟨X, 0, none⟩), .int .i64 d] w fun e w' => PostX X t iv (4000 * (t.size - j)) w (closeR t (inR (tx t I g) t I d j)) e w' := by
  unfold inR
  cases h61 : nx t j 61
  · cases h63 : nx t j 63
    · simpa only [Bool.false_eq_true, if_false] using item_val w0 X t iv j d I w E hb h hj hs h63 h61
    · simpa only [Bool.false_eq_true, if_false, if_true] using item_choice w0 X t iv j d I w E hb h hj hs g h63 hd hg HTX
  · simpa only [if_true] using item_cut w0 X t iv j d I w E hb h hj hs (nx_not (by decide) h61) h61
theorem bs_one (t : ByteArray) (q : Nat) (h : q < t.size) : (t.extract q t.size).extract 0 1 = bs [t[q]'h] := by
  have hl : q < t.data.toList.length := by rw [Array.length_toList]; exact h
  have e1 : ((t.extract q t.size).extract 0 1).data.toList = [t[q]'h] := by
    rw [ByteArray.data_extract, Array.toList_extract, extract_drop]
    show ((t.data.toList.drop q).drop 0).take (1 - 0) = _
    rw [List.drop_zero, List.drop_eq_getElem_cons hl]
    rfl
  generalize (t.extract q t.size).extract 0 1 = z at *
  cases z with
  | mk a =>
    show (⟨a⟩ : ByteArray) = ⟨[t[q]'h].toArray⟩
    rw [← e1]
set_option maxHeartbeats 16000000 in
set_option maxRecDepth 100000 in
theorem textX_step (w0 : World) (X : Nat) (t : ByteArray) (iv : Value) (I : List (ByteArray × ByteArray)) (E : Env w0 X iv I) (hs : t.size ≤ 4000) (G : Nat) (ih : ∀ g, g < G → TextOk w0 X t iv I g) : TextOk w0 X t iv I G := by
  intro d k p w hb h hp hG hd
  have HEB : Hid (∀ W, But X w W → Below w0.heap.size w0 W) := fun W h => E.but hb h
  have HX0 : Hid (ExAt w X t iv p (-1)) := h
  obtain ⟨RS, hRS⟩ : ∃ RS, tx t I G d k p = RS := ⟨_, rfl⟩
  rw [hRS]
  have HRS0 : Hid (tx t I G d k p = RS) := hRS
  have HIH : Hid (∀ g, g < G → TextOk w0 X t iv I g) := ih
  clear h hb hRS ih
  go_enter Tryd.func7, Tryd.ntmps7
  go_wp2_with fail
  go_loopg [7] (t.size + 3) (fun g9 u7 wr => ∃ (q : Nat) (bad : Int) (z : ByteArray), u7 = .string z ∧ ExAt wr X t iv q bad ∧ But X w wr ∧ q ≤ t.size ∧ z.size ≤ 4000 * (t.size - p) ∧ 0 < g9 ∧ ((bad = -1 ∧ p ≤ q ∧ t.size - q + 1 < g9 ∧ ∃ (g : Nat) (made : List UInt8), z = bs made ∧ t.size - q < g ∧ g ≤ G ∧ made.length ≤ 4000 * (q - p) ∧ (tx t I g d k q).pre made = RS) ∨ (∃ q' : Nat, bad = (q' : Int) ∧ q = t.size ∧ RS = .bad q')))
  case atStart => exact ⟨p, -1, bs [], rfl, HX0.out, But.refl _ _, hp, Nat.zero_le _, by omega, .inl ⟨rfl, Nat.le_refl _, by omega, G, [], rfl, hG, Nat.le_refl _, Nat.zero_le _, by rw [Res.pre_nil]; exact HRS0.out⟩⟩
  case round =>
    obtain ⟨q, bad, z, rfl, hrr, hbt, hqs, hzs, hg0, hcase⟩ := hrel
    rcases hcase with ⟨rfl, hpq, hg9, g, made, rfl, hgq, hgG, hml, htx⟩ | ⟨q', rfl, rfl, rfl⟩
    rotate_left
    · have HRR : Hid (ExAt wr X t iv t.size (q' : Int)) := hrr
      have HBT : Hid (But X w wr) := hbt
      have HZ : Hid (z.size ≤ 4000 * (t.size - p)) := hzs
      obtain ⟨⟨c0, c1, c2, c3⟩, hf⟩ := hrr.cells
      have iq : ¬ (q' : Int) < 0 := Int.not_lt.2 (Int.natCast_nonneg _)
      have iqd : decide ((q' : Int) < 0) = false := decide_eq_false iq
      have g0 := fun d os => cell_regrown c0 d os
      have g1 := fun d os => cell_regrown c1 d os
      have g2 := fun d os => cell_regrown c2 d os
      clear hrr hbt hzs HX0 HRS0 hqs hg0 hG HIH HEB hf c3
      go_wp2_with fail
      refine wp_region_quiet_below (by kernel_rfl) (by kernel_rfl) ?_
      repeat (first | go_big_quiet_skip | quiet_step (fail))
      refine wpQuiet_nil ?_
      intro _ hw'
      obtain ⟨⟨dq, os⟩, hw''⟩ := hw'
      subst hw''
      have kR := below_regrown wr dq os
      have rV := HRR.out.below kR
      have bV := HBT.out.trans (But.of_below kR)
      go_wp2_with fail
      go_ret
      exact ⟨z, rfl, HZ.out, rV, bV⟩
    · obtain ⟨g, rfl⟩ : ∃ g', g = g' + 1 := ⟨g - 1, by omega⟩
      obtain ⟨⟨c0, c1, c2, c3⟩, hf⟩ := hrr.cells
      have g0 := fun d os => cell_regrown c0 d os
      have g1 := fun d os => cell_regrown c1 d os
      have g2 := fun d os => cell_regrown c2 d os
      have HRR : Hid (ExAt wr X t iv q (-1)) := hrr
      have HBT : Hid (But X w wr) := hbt
      have HTX : Hid ((tx t I (g + 1) d k q).pre made = RS) := htx
      have HML : Hid (made.length ≤ 4000 * (q - p)) := hml
      have iq0 : (0 : Int) ≤ (q : Int) := Int.natCast_nonneg _
      clear hrr hbt htx HX0 HRS0 hzs hml
      by_cases hlt : q < t.size
      · have iq : (q : Int) < (t.size : Int) := Int.ofNat_lt.2 hlt
        have iqd : decide ((q : Int) < (t.size : Int)) = true := decide_eq_true iq
        have iqe : decide (q < t.size) = true := decide_eq_true hlt
        have HX := fun W => Tryd.strings_IndexByte (ends k) ((t[q]'hlt).toNat : Int) W
        rw [u8_self] at HX
        have hei := end_index k (t[q]'hlt)
        have HT : Hid (tx t I (g + 1) d k q = if isEnd k (t[q]'hlt) then .ok [] q else if nx t q 35 && nx t (q + 1) 35 then (tx t I g d k (q + 2)).pre [35] else if nx t q 35 && nx t (q + 1) 123 then (match itm (tx t I g) t I d q with | .bad q => .bad q | .ok o q => (tx t I g d k q).pre o) else (tx t I g d k (q + 1)).pre [t[q]'hlt]) := by
          show _ = _
          rw [tx, dif_pos hlt]
          rfl
        generalize hix : Lib.indexByte (ends k).data.toList (t[q]'hlt) = ix at *
        have K1 : Hid (∀ d os, Calls Tryd.prog 17 #[.string (ends k), .int .u8 (t[q]'hlt).toNat] (grow (redrawn wr d) os) fun e w'' => e = .returned (.int .i64 ix) ∧ ∃ p : Regrown, w'' = grow (redrawn wr p.d) p.os) := fun d os => Calls.regrown_of ((HX _).mono fun e w' ⟨h1, h2⟩ => ⟨h1, by rw [h2]; exact Below.refl _ _⟩)
        clear HX hix
        cases hie : isEnd k (t[q]'hlt)
        rotate_left
        · rw [hie] at hei HT
          simp only [if_true] at HT
          have ie : ¬ ix < 0 := of_decide_eq_false hei
          have hR : RS = .ok made q := by
            rw [← HTX.out, HT.out]
            exact pre_ok _ _
          subst hR
          clear HT HTX hei hie HIH HEB
          go_wp2_with fail
          refine wp_region_quiet_below (by kernel_rfl) (by kernel_rfl) ?_
          repeat (first | go_big_quiet_skip | quiet_step (first | (go_at_call 17; exact K1.out _ _)))
          refine wpQuiet_nil ?_
          intro _ hw'
          obtain ⟨⟨dq, os⟩, hw''⟩ := hw'
          subst hw''
          have kR := below_regrown wr dq os
          have rV := HRR.out.below kR
          have bV := HBT.out.trans (But.of_below kR)
          clear g0 g1 g2 c0 c1 c2 c3 hf kR HRR HBT
          generalize grow (redrawn wr dq) os = V at *
          go_wp2_with fail
          go_ret
          exact ⟨rfl, rV, bV⟩
        · rw [hie] at hei HT
          simp only [Bool.false_eq_true, if_false] at HT
          have ie : ix < 0 := of_decide_eq_true hei
          have HPa := fun W => Tryd.strings_HasPrefix (t.extract q t.size) ⟨#[35, 123]⟩ W
          rw [extract_drop, show Lib.hasPrefix (t.data.toList.drop q) (⟨#[35, 123]⟩ : ByteArray).data.toList = (nx t q 35 && nx t (q + 1) 123) from nexts_two t q 35 123] at HPa
          have HPb := fun W => Tryd.strings_HasPrefix (t.extract q t.size) ⟨#[35, 35]⟩ W
          rw [extract_drop, show Lib.hasPrefix (t.data.toList.drop q) (⟨#[35, 35]⟩ : ByteArray).data.toList = (nx t q 35 && nx t (q + 1) 35) from nexts_two t q 35 35] at HPb
          clear hei hie
          cases h2 : (nx t q 35 && nx t (q + 1) 123)
          rotate_left
          · rw [h2] at HPa HT
            have hn := (Bool.and_eq_true _ _ ▸ h2 : nx t q 35 = true ∧ nx t (q + 1) 123 = true)
            have hq2 := nx_lt hn.2
            rw [nx_not (b := 35) (by decide) hn.2, Bool.and_false] at HT
            simp only [Bool.false_eq_true, if_false, if_true] at HT
            have HKI := itm_keeps E.sz (tx t I g) d q (by omega) (fun k' j h3 h4 => tx_keeps (t := t) E.sz g (d + 1) k' j h4 (by omega))
            by_cases hd8 : d = 8
            · have hR : RS = .bad q := by
                rw [← HTX.out, HT.out]
                unfold itm
                rw [if_pos hd8]
                rfl
              subst hR
              subst hd8
              have HFL := fun V h => fail_any X t iv q q V h
              clear HT HTX HKI hn h2 HPb HIH HEB
              go_wp2_with fail
              refine wp_region_quiet_below (by kernel_rfl) (by kernel_rfl) ?_
              repeat (first | go_big_quiet_skip | quiet_step (first | (go_at_call 17; exact K1.out _ _)))
              refine wpQuiet_nil ?_
              intro _ hw'
              obtain ⟨⟨dq, os⟩, hw''⟩ := hw'
              subst hw''
              have kR := below_regrown wr dq os
              have rV := HRR.out.below kR
              have bV := HBT.out.trans (But.of_below kR)
              clear g0 g1 g2 c0 c1 c2 c3 hf kR HRR HBT
              generalize grow (redrawn wr dq) os = V at *
              obtain ⟨⟨c0, c1, c2, c3⟩, hf⟩ := rV.cells
              have lqs : (q : Int) ≤ (t.size : Int) := Int.ofNat_le.2 hqs
              go_wp2_with fail
              go_quiet (fail)
              have rU : ExAt (V.drewN nq) X t iv q (-1) := rV
              have bU : But X w (V.drewN nq) := ⟨bV.os, bV.tape, bV.output, bV.size, bV.block⟩
              clear c0 c1 c2 c3 hf rV bV K1 lqs
              try clear iqd iqe
              generalize V.drewN nq = U at *
              go_wp2_with fail
              refine (HPa _).mono ?_
              rintro e W1 ⟨rfl, hw1'⟩
              obtain rfl := hw1'.symm
              obtain ⟨⟨c0, c1, c2, c3⟩, hf⟩ := rU.cells
              go_wp2_with fail
              refine (HFL _ rU).mono ?_
              rintro e W2 ⟨rfl, r2, b2⟩
              go_wp2_with fail
              go_ret
              exact ⟨_, rfl, Nat.zero_le _, r2, bU.trans b2⟩
            · have HIT := fun W hW h => itemX_any w0 X t iv (q + 2) (d + 1) I W E hW h (by omega) hs g (by omega) (by omega) (HIH.out g (by omega))
              have hit : itm (tx t I g) t I d q = closeR t (inR (tx t I g) t I (d + 1) (q + 2)) := by
                unfold itm
                rw [if_neg hd8]
                rfl
              rw [hit] at HT HKI
              have id8 : ¬ (d : Int) = 8 := by omega
              have id8b : ((d : Int) == 8) = false := beq_eq_false_iff_ne.2 id8
              have id8c : decide ((d : Int) = 8) = false := decide_eq_false id8
              have hwd : wrap64 ((d : Int) + 1) = ((d + 1 : Nat) : Int) := by unfold wrap64; omega
              have HMB : Hid (made.length ≤ 4000 * (q - p)) := HML.out
              cases hci : closeR t (inR (tx t I g) t I (d + 1) (q + 2)) with
              | bad q1 =>
                rw [hci] at HIT HT
                have hR : RS = .bad q1 := by
                  rw [← HTX.out, HT.out]
                  rfl
                have HRB : Hid (RS = .bad q1) := hR
                clear HT HTX HKI hn h2 HPb HIH hci hit hR
                go_wp2_with fail
                refine wp_region_quiet_below (by kernel_rfl) (by kernel_rfl) ?_
                repeat (first | go_big_quiet_skip | quiet_step (first | (go_at_call 17; exact K1.out _ _)))
                refine wpQuiet_nil ?_
                intro _ hw'
                obtain ⟨⟨dq, os⟩, hw''⟩ := hw'
                subst hw''
                have kR := below_regrown wr dq os
                have rV := HRR.out.below kR
                have bV := HBT.out.trans (But.of_below kR)
                clear g0 g1 g2 c0 c1 c2 c3 hf kR HRR HBT
                generalize grow (redrawn wr dq) os = V at *
                obtain ⟨⟨c0, c1, c2, c3⟩, hf⟩ := rV.cells
                have lqs : (q : Int) ≤ (t.size : Int) := Int.ofNat_le.2 hqs
                go_wp2_with fail
                go_quiet (fail)
                have rU : ExAt (V.drewN nq) X t iv q (-1) := rV
                have bU : But X w (V.drewN nq) := ⟨bV.os, bV.tape, bV.output, bV.size, bV.block⟩
                clear c0 c1 c2 c3 hf rV bV K1 lqs
                try clear iqd iqe
                generalize V.drewN nq = U at *
                go_wp2_with fail
                refine (HPa _).mono ?_
                rintro e W1 ⟨rfl, hw1'⟩
                obtain rfl := hw1'.symm
                have HNN : Hid (p ≤ q ∧ t.size - q + 1 < gk ∧ t.size - q < g + 1 ∧ g + 1 ≤ G ∧ q < t.size ∧ p ≤ t.size) := ⟨hpq, hg9, hgq, hgG, hlt, hp⟩
                clear hpq hg9 hgq hgG hg0
                obtain ⟨⟨c0, c1, c2, c3⟩, hf⟩ := rU.cells
                have f1 := hf 1
                have r2 := ex_at rU (q + 2)
                have b2 := bU.setCell (i := 1) (.int .i64 ((q + 2 : Nat) : Int))
                have hwq : wrap64 ((q : Int) + 2) = ((q + 2 : Nat) : Int) := by unfold wrap64; omega
                clear rU bU
                go_wp2_with fail
                refine (HIT _ (HEB.out _ b2) r2).mono ?_
                rintro e W2 ⟨z, rfl, hz, r3, bb⟩
                have b3 := b2.trans bb
                have hol : (bs made).size = made.length := Txt.bs_size _
                have hsum : ¬ 9223372036854775807 < (bs made).size + z.size := by
                  have := HML.out
                  obtain ⟨hpq, hg9, hgq, hgG, hlt, hp⟩ := HNN.out
                  clear hwq hwd
                  omega
                have HSZ : Hid ((bs made ++ z).size ≤ 4000 * (t.size - p)) := by
                  show _ ≤ _
                  rw [ByteArray.size_append]
                  have := HML.out
                  obtain ⟨hpq, hg9, hgq, hgG, hlt, hp⟩ := HNN.out
                  clear hwq hwd
                  omega
                clear hol c0 c1 c2 c3 hf f1
                go_wp2_with fail
                clear hwq hwd hsum
                obtain ⟨hpq, hg9, hgq, hgG, hlt, hp⟩ := HNN.out
                go_roundg 1
                case measure => omega
                case rel => exact ⟨t.size, _, _, rfl, r3, b3, Nat.le_refl _, HSZ.out, by omega, .inr ⟨q1, rfl, rfl, HRB.out⟩⟩
              | ok o q1 =>
                rw [hci] at HIT HT
                obtain ⟨a1, a2, a3⟩ := HKI o q1 hci
                have HTN : Hid ((tx t I g d k q1).pre (made ++ o) = RS) := by
                  show _ = _
                  rw [← Res.pre_pre, ← HTX.out, HT.out]
                have HA3 : Hid (o.length ≤ 4000 * (q1 - q)) := a3
                clear HT HTX HKI hn h2 HPb HIH hci hit a3
                go_wp2_with fail
                refine wp_region_quiet_below (by kernel_rfl) (by kernel_rfl) ?_
                repeat (first | go_big_quiet_skip | quiet_step (first | (go_at_call 17; exact K1.out _ _)))
                refine wpQuiet_nil ?_
                intro _ hw'
                obtain ⟨⟨dq, os⟩, hw''⟩ := hw'
                subst hw''
                have kR := below_regrown wr dq os
                have rV := HRR.out.below kR
                have bV := HBT.out.trans (But.of_below kR)
                clear g0 g1 g2 c0 c1 c2 c3 hf kR HRR HBT
                generalize grow (redrawn wr dq) os = V at *
                obtain ⟨⟨c0, c1, c2, c3⟩, hf⟩ := rV.cells
                have lqs : (q : Int) ≤ (t.size : Int) := Int.ofNat_le.2 hqs
                go_wp2_with fail
                go_quiet (fail)
                have rU : ExAt (V.drewN nq) X t iv q (-1) := rV
                have bU : But X w (V.drewN nq) := ⟨bV.os, bV.tape, bV.output, bV.size, bV.block⟩
                clear c0 c1 c2 c3 hf rV bV K1 lqs
                try clear iqd iqe
                generalize V.drewN nq = U at *
                go_wp2_with fail
                refine (HPa _).mono ?_
                rintro e W1 ⟨rfl, hw1'⟩
                obtain rfl := hw1'.symm
                have HNN : Hid (p ≤ q ∧ t.size - q + 1 < gk ∧ t.size - q < g + 1 ∧ g + 1 ≤ G ∧ q < t.size ∧ p ≤ t.size) := ⟨hpq, hg9, hgq, hgG, hlt, hp⟩
                clear hpq hg9 hgq hgG hg0
                obtain ⟨⟨c0, c1, c2, c3⟩, hf⟩ := rU.cells
                have f1 := hf 1
                have r2 := ex_at rU (q + 2)
                have b2 := bU.setCell (i := 1) (.int .i64 ((q + 2 : Nat) : Int))
                have hwq : wrap64 ((q : Int) + 2) = ((q + 2 : Nat) : Int) := by unfold wrap64; omega
                clear rU bU
                go_wp2_with fail
                refine (HIT _ (HEB.out _ b2) r2).mono ?_
                rintro e W2 ⟨rfl, r3, bb⟩
                have b3 := b2.trans bb
                have hol : (bs made).size = made.length := Txt.bs_size _
                have hol2 : (bs o).size = o.length := Txt.bs_size _
                have hsum : ¬ 9223372036854775807 < (bs made).size + (bs o).size := by
                  have := HML.out
                  have := HA3.out
                  obtain ⟨hpq, hg9, hgq, hgG, hlt, hp⟩ := HNN.out
                  clear hwq hwd
                  omega
                clear hol hol2 c0 c1 c2 c3 hf f1
                go_wp2_with fail
                clear hwq hwd hsum
                obtain ⟨hpq, hg9, hgq, hgG, hlt, hp⟩ := HNN.out
                go_roundg (t.size - q + 1)
                case measure => omega
                case rel =>
                  have h5 := HML.out
                  have h6 := HA3.out
                  refine ⟨q1, -1, _, rfl, r3, b3, a2, ?_, by omega, .inl ⟨rfl, by omega, by omega, g, made ++ o, Txt.bs_append made o, by omega, by omega, ?_, HTN.out⟩⟩
                  · show (bs made ++ bs o).size ≤ _
                    rw [Txt.bs_append, Txt.bs_size, List.length_append]
                    omega
                  · rw [List.length_append]
                    omega
          · rw [h2] at HPa HT
            simp only [Bool.false_eq_true, if_false] at HT
            cases h1 : (nx t q 35 && nx t (q + 1) 35)
            · rw [h1] at HPb HT
              simp only [Bool.false_eq_true, if_false] at HT
              have HTN : Hid ((tx t I g d k (q + 1)).pre (made ++ [t[q]'hlt]) = RS) := by
                show _ = _
                rw [← Res.pre_pre, ← HT.out]
                exact HTX.out
              have hb1 := bs_one t q hlt
              have hex : (t.extract q t.size).size = t.size - q := by rw [ByteArray.size_extract]; omega
              have hx1 : (1 : Int) ≤ ((t.extract q t.size).size : Int) := by omega
              clear HT HTX h1 h2 HIH HEB
              go_wp2_with fail
              refine wp_region_quiet_below (by kernel_rfl) (by kernel_rfl) ?_
              repeat (first | go_big_quiet_skip | quiet_step (first | (go_at_call 17; exact K1.out _ _)))
              refine wpQuiet_nil ?_
              intro _ hw'
              obtain ⟨⟨dq, os⟩, hw''⟩ := hw'
              subst hw''
              have kR := below_regrown wr dq os
              have rV := HRR.out.below kR
              have bV := HBT.out.trans (But.of_below kR)
              clear g0 g1 g2 c0 c1 c2 c3 hf kR HRR HBT
              generalize grow (redrawn wr dq) os = V at *
              obtain ⟨⟨c0, c1, c2, c3⟩, hf⟩ := rV.cells
              have lqs : (q : Int) ≤ (t.size : Int) := Int.ofNat_le.2 hqs
              go_wp2_with fail
              go_quiet (fail)
              have rU : ExAt (V.drewN nq) X t iv q (-1) := rV
              have bU : But X w (V.drewN nq) := ⟨bV.os, bV.tape, bV.output, bV.size, bV.block⟩
              clear c0 c1 c2 c3 hf rV bV K1 lqs
              try clear iqd iqe
              generalize V.drewN nq = U at *
              go_wp2_with fail
              refine (HPa _).mono ?_
              rintro e W1 ⟨rfl, hw1'⟩
              obtain rfl := hw1'.symm
              go_wp2_with fail
              refine (HPb _).mono ?_
              rintro e W1 ⟨rfl, hw1'⟩
              obtain rfl := hw1'.symm
              have HNN : Hid (p ≤ q ∧ t.size - q + 1 < gk ∧ t.size - q < g + 1 ∧ g + 1 ≤ G ∧ q < t.size ∧ p ≤ t.size) := ⟨hpq, hg9, hgq, hgG, hlt, hp⟩
              clear hpq hg9 hgq hgG hg0
              obtain ⟨⟨c0, c1, c2, c3⟩, hf⟩ := rU.cells
              have f1 := hf 1
              have r2 := ex_at rU (q + 1)
              have b2 := bU.setCell (i := 1) (.int .i64 ((q + 1 : Nat) : Int))
              have hwq : wrap64 ((q : Int) + 1) = ((q + 1 : Nat) : Int) := by unfold wrap64; omega
              clear rU bU
              have hol : (bs made).size = made.length := Txt.bs_size _
              have hsum : ¬ 9223372036854775807 < (bs made).size + (bs [t[q]'hlt]).size := by
                have := HML.out
                rw [Txt.bs_size [_], List.length_singleton]
                clear hwq
                omega
              clear hol
              go_wp2_with fail
              clear hwq hsum
              obtain ⟨hpq, hg9, hgq, hgG, hlt, hp⟩ := HNN.out
              go_roundg (t.size - q + 1)
              case measure => omega
              case rel =>
                have h5 := HML.out
                refine ⟨q + 1, -1, _, rfl, r2, b2, by omega, ?_, by omega, .inl ⟨rfl, by omega, by omega, g, made ++ [t[q]'hlt], Txt.bs_append _ _, by omega, by omega, ?_, HTN.out⟩⟩
                · show (bs made ++ bs [_]).size ≤ _
                  rw [Txt.bs_append, Txt.bs_size, List.length_append, List.length_singleton]
                  omega
                · rw [List.length_append, List.length_singleton]
                  omega
            · rw [h1] at HPb HT
              simp only [if_true] at HT
              have hq2 := nx_lt (Bool.and_eq_true _ _ ▸ h1 : nx t q 35 = true ∧ nx t (q + 1) 35 = true).2
              have HTN : Hid ((tx t I g d k (q + 2)).pre (made ++ [35]) = RS) := by
                show _ = _
                rw [← Res.pre_pre, ← HT.out]
                exact HTX.out
              clear HT HTX h1 h2 HIH HEB
              go_wp2_with fail
              refine wp_region_quiet_below (by kernel_rfl) (by kernel_rfl) ?_
              repeat (first | go_big_quiet_skip | quiet_step (first | (go_at_call 17; exact K1.out _ _)))
              refine wpQuiet_nil ?_
              intro _ hw'
              obtain ⟨⟨dq, os⟩, hw''⟩ := hw'
              subst hw''
              have kR := below_regrown wr dq os
              have rV := HRR.out.below kR
              have bV := HBT.out.trans (But.of_below kR)
              clear g0 g1 g2 c0 c1 c2 c3 hf kR HRR HBT
              generalize grow (redrawn wr dq) os = V at *
              obtain ⟨⟨c0, c1, c2, c3⟩, hf⟩ := rV.cells
              have lqs : (q : Int) ≤ (t.size : Int) := Int.ofNat_le.2 hqs
              go_wp2_with fail
              go_quiet (fail)
              have rU : ExAt (V.drewN nq) X t iv q (-1) := rV
              have bU : But X w (V.drewN nq) := ⟨bV.os, bV.tape, bV.output, bV.size, bV.block⟩
              clear c0 c1 c2 c3 hf rV bV K1 lqs
              try clear iqd iqe
              generalize V.drewN nq = U at *
              go_wp2_with fail
              refine (HPa _).mono ?_
              rintro e W1 ⟨rfl, hw1'⟩
              obtain rfl := hw1'.symm
              go_wp2_with fail
              refine (HPb _).mono ?_
              rintro e W1 ⟨rfl, hw1'⟩
              obtain rfl := hw1'.symm
              have HNN : Hid (p ≤ q ∧ t.size - q + 1 < gk ∧ t.size - q < g + 1 ∧ g + 1 ≤ G ∧ q < t.size ∧ p ≤ t.size) := ⟨hpq, hg9, hgq, hgG, hlt, hp⟩
              clear hpq hg9 hgq hgG hg0
              obtain ⟨⟨c0, c1, c2, c3⟩, hf⟩ := rU.cells
              have f1 := hf 1
              have r2 := ex_at rU (q + 2)
              have b2 := bU.setCell (i := 1) (.int .i64 ((q + 2 : Nat) : Int))
              have hwq : wrap64 ((q : Int) + 2) = ((q + 2 : Nat) : Int) := by unfold wrap64; omega
              clear rU bU
              have hol : (bs made).size = made.length := Txt.bs_size _
              have hsum : ¬ 9223372036854775807 < (bs made).size + (⟨#[35]⟩ : ByteArray).size := by
                have := HML.out
                show ¬ 9223372036854775807 < (bs made).size + 1
                clear hwq
                omega
              clear hol
              go_wp2_with fail
              clear hwq hsum
              obtain ⟨hpq, hg9, hgq, hgG, hlt, hp⟩ := HNN.out
              go_roundg (t.size - q + 1)
              case measure => omega
              case rel =>
                have h5 := HML.out
                refine ⟨q + 2, -1, _, rfl, r2, b2, by omega, ?_, by omega, .inl ⟨rfl, by omega, by omega, g, made ++ [35], Txt.bs_append _ [35], by omega, by omega, ?_, HTN.out⟩⟩
                · show (bs made ++ bs [35]).size ≤ _
                  rw [Txt.bs_append, Txt.bs_size, List.length_append, List.length_singleton]
                  omega
                · rw [List.length_append, List.length_singleton]
                  omega
      · have iq : ¬ (q : Int) < (t.size : Int) := fun h => hlt (Int.ofNat_lt.1 h)
        have iqd : decide ((q : Int) < (t.size : Int)) = false := decide_eq_false iq
        have iqe : decide (q < t.size) = false := decide_eq_false hlt
        have hR : RS = .ok made q := by
          rw [← HTX.out, tx, dif_neg hlt]
          exact pre_ok _ _
        subst hR
        have K1 : Hid True := trivial
        clear HTX HIH HEB
        go_wp2_with fail
        refine wp_region_quiet_below (by kernel_rfl) (by kernel_rfl) ?_
        repeat (first | go_big_quiet_skip | quiet_step (fail))
        refine wpQuiet_nil ?_
        intro _ hw'
        obtain ⟨⟨dq, os⟩, hw''⟩ := hw'
        subst hw''
        have kR := below_regrown wr dq os
        have rV := HRR.out.below kR
        have bV := HBT.out.trans (But.of_below kR)
        clear g0 g1 g2 c0 c1 c2 c3 hf kR HRR HBT
        generalize grow (redrawn wr dq) os = V at *
        go_wp2_with fail
        go_ret
        exact ⟨rfl, rV, bV⟩
theorem textX_any (w0 : World) (X : Nat) (t : ByteArray) (iv : Value) (I : List (ByteArray × ByteArray)) (E : Env w0 X iv I) (hs : t.size ≤ 4000) (G : Nat) : TextOk w0 X t iv I G :=
  Nat.strongRecOn G fun G ih => textX_step w0 X t iv I E hs G ih
end Fmt
end Go.Proofs.YtbhoklhcdefabaaDoor
