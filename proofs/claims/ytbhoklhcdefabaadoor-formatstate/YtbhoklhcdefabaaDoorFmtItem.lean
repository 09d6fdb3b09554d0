/- Package format: a choice, an item. (Written by gen_fmtitem.py.) -/
import Derived.Test.YtbhoklhcdefabaaDoorFmtNum
namespace Go.Proofs.YtbhoklhcdefabaaDoor
open Go.ChangeShapes Go.WideShapes Go.ChangeAt Go.RowKit Go.Maps Go.Sort
namespace Fmt
def ends : Nat → ByteArray
  | 0 => ⟨#[]⟩
  | 1 => ⟨#[44, 125]⟩
  | _ => ⟨#[125]⟩
/-- What the reader's bytes keep to, with the fuel g. -/
def BytesOk (w0 : World) (R : Nat) (t : ByteArray) (iv : Value) (I : List (ByteArray × ByteArray)) (g : Nat) : Prop :=
  ∀ (d k p : Nat) (w : World), Below w0.heap.size w0 w → RdAt w R t iv p d → p ≤ t.size → t.size - p < g → d ≤ 8 →
    Calls Tryd.prog 34 #[.pointer (some ⟨R, 0, none⟩), .string (ends k)] w fun e w' => Post R t iv d w (tx t I g d k p) e w'
theorem no_empty (v : List UInt8) : ((⟨v.toArray⟩ : ByteArray).toList == []) = (v == []) := by
  rw [Lib.toList_data]
theorem no_zero (v : List UInt8) : ((⟨v.toArray⟩ : ByteArray).toList == [48]) = (v == [48]) := by
  rw [Lib.toList_data]
set_option maxHeartbeats 8000000 in
set_option maxRecDepth 100000 in
theorem choice_any (w0 : World) (R : Nat) (t : ByteArray) (iv : Value) (p d g : Nat) (I : List (ByteArray × ByteArray)) (w : World) (E : Env w0 R iv I) (hb : Below w0.heap.size w0 w) (hr : RdAt w R t iv p d) (hp : p ≤ t.size) (hs : t.size ≤ 4000) (hd : d ≤ 8) (hg : t.size - p < g + 1) (HB : BytesOk w0 R t iv I g) :
    Calls Tryd.prog 60 #[.pointer (some ⟨R, 0, none⟩)] w fun e w' => Post R t iv d w (chR (tx t I g) t I d p) e w' := by
  have HEB : Hid (∀ W, But R w W → Below w0.heap.size w0 W) := fun W h => E.but hb h
  have HV := value_any w0 R t iv p d I w E hb hr hp hs
  unfold chR
  have HKV := vaR_keeps E.sz p hp
  cases hv : vaR t I p with
  | bad q =>
    rw [hv] at HV
    clear HKV hv hr
    go_enter Tryd.func60, Tryd.ntmps60
    go_wp2_with fail
    refine HV.mono ?_
    rintro e W ⟨rfl, b⟩
    go_wp2_with fail
    exact ⟨rfl, rfl, b⟩
  | ok v q =>
    rw [hv] at HV
    obtain ⟨a1, a2, _⟩ := HKV v q hv
    have hn1 := nexts_one t q 44
    clear HKV hv hr
    by_cases h1 : nx t q 44 = true
    rotate_left
    · simp only [if_neg h1]
      have HD := fun W h => need_no R t iv q d ⟨#[44]⟩ W h a2 hs (by decide) (hn1.trans (Bool.not_eq_true _ ▸ h1))
      clear h1 hn1
      go_enter Tryd.func60, Tryd.ntmps60
      go_wp2_with fail
      refine HV.mono ?_
      rintro e W ⟨rfl, r1, b1⟩
      go_wp2_with fail
      refine (HD _ r1).mono ?_
      rintro e W2 ⟨rfl, b2⟩
      go_wp2_with fail
      exact ⟨rfl, rfl, b1.trans b2⟩
    · simp only [if_pos h1]
      have hlt := nx_lt h1
      have HD := fun W h => need_yes R t iv q d ⟨#[44]⟩ W h a2 hs (by decide) (hn1.trans h1)
      rw [show q + (⟨#[44]⟩ : ByteArray).size = q + 1 from rfl] at HD
      have HT := fun W hW h => HB d 1 (q + 1) W hW h (by omega) (by omega) hd
      have HKT := tx_keeps (t := t) E.sz g d 1 (q + 1) (by omega) (by omega)
      rw [show ends 1 = ⟨#[44, 125]⟩ from rfl] at HT
      clear h1 hn1
      cases hA : tx t I g d 1 (q + 1) with
      | bad q1 =>
        rw [hA] at HT
        clear HKT hA
        go_enter Tryd.func60, Tryd.ntmps60
        go_wp2_with fail
        refine HV.mono ?_
        rintro e W ⟨rfl, r1, b1⟩
        go_wp2_with fail
        refine (HD _ r1).mono ?_
        rintro e W2 ⟨rfl, r2, b2⟩
        have b3 := b1.trans b2
        go_wp2_with fail
        refine (HT _ (HEB.out _ b3) r2).mono ?_
        rintro e W3 ⟨rfl, b4⟩
        go_wp2_with fail
        exact ⟨rfl, rfl, b3.trans b4⟩
      | ok A q1 =>
        rw [hA] at HT
        obtain ⟨c1, c2, _⟩ := HKT A q1 hA
        have hn2 := nexts_one t q1 44
        clear HKT hA
        by_cases h2 : nx t q1 44 = true
        rotate_left
        · simp only [if_neg h2]
          have HD2 := fun W h => need_no R t iv q1 d ⟨#[44]⟩ W h c2 hs (by decide) (hn2.trans (Bool.not_eq_true _ ▸ h2))
          clear h2 hn2
          go_enter Tryd.func60, Tryd.ntmps60
          go_wp2_with fail
          refine HV.mono ?_
          rintro e W ⟨rfl, r1, b1⟩
          go_wp2_with fail
          refine (HD _ r1).mono ?_
          rintro e W2 ⟨rfl, r2, b2⟩
          have b3 := b1.trans b2
          go_wp2_with fail
          refine (HT _ (HEB.out _ b3) r2).mono ?_
          rintro e W3 ⟨rfl, r4, b4⟩
          have b5 := b3.trans b4
          go_wp2_with fail
          refine (HD2 _ r4).mono ?_
          rintro e W4 ⟨rfl, b6⟩
          go_wp2_with fail
          exact ⟨rfl, rfl, b5.trans b6⟩
        · simp only [if_pos h2]
          have hlt2 := nx_lt h2
          have HD2 := fun W h => need_yes R t iv q1 d ⟨#[44]⟩ W h c2 hs (by decide) (hn2.trans h2)
          rw [show q1 + (⟨#[44]⟩ : ByteArray).size = q1 + 1 from rfl] at HD2
          have HT2 := fun W hW h => HB d 2 (q1 + 1) W hW h (by omega) (by omega) hd
          rw [show ends 2 = ⟨#[125]⟩ from rfl] at HT2
          clear h2 hn2
          have e1 := no_empty v
          have e2 := no_zero v
          cases hB : tx t I g d 2 (q1 + 1) with
          | bad q2 =>
            rw [hB] at HT2
            clear hB e1 e2
            go_enter Tryd.func60, Tryd.ntmps60
            go_wp2_with fail
            refine HV.mono ?_
            rintro e W ⟨rfl, r1, b1⟩
            go_wp2_with fail
            refine (HD _ r1).mono ?_
            rintro e W2 ⟨rfl, r2, b2⟩
            have b3 := b1.trans b2
            go_wp2_with fail
            refine (HT _ (HEB.out _ b3) r2).mono ?_
            rintro e W3 ⟨rfl, r4, b4⟩
            have b5 := b3.trans b4
            go_wp2_with fail
            refine (HD2 _ r4).mono ?_
            rintro e W4 ⟨rfl, r6, b6⟩
            have b7 := b5.trans b6
            go_wp2_with fail
            refine (HT2 _ (HEB.out _ b7) r6).mono ?_
            rintro e W5 ⟨rfl, b8⟩
            go_wp2_with fail
            exact ⟨rfl, rfl, b7.trans b8⟩
          | ok B q2 =>
            rw [hB] at HT2
            have HIS : Hid (isNo v = (v == [] || v == [48])) := rfl
            clear hB
            show Calls _ _ _ _ fun e w' => Post R t iv d w (.ok (if isNo v then B else A) q2) e w'
            generalize hC : (if isNo v = true then B else A) = C
            have HC : Hid ((if isNo v = true then B else A) = C) := hC
            clear hC
            cases h3 : v == []
            · rw [h3] at e1 HIS
              cases h4 : v == [48]
              · rw [h4] at e2 HIS
                have HIF : Hid (C = A) := by
                  show _ = _
                  rw [← HC.out, HIS.out]
                  rfl
                clear HIS
                go_enter Tryd.func60, Tryd.ntmps60
                go_wp2_with fail
                refine HV.mono ?_
                rintro e W ⟨rfl, r1, b1⟩
                go_wp2_with fail
                refine (HD _ r1).mono ?_
                rintro e W2 ⟨rfl, r2, b2⟩
                have b3 := b1.trans b2
                go_wp2_with fail
                refine (HT _ (HEB.out _ b3) r2).mono ?_
                rintro e W3 ⟨rfl, r4, b4⟩
                have b5 := b3.trans b4
                go_wp2_with fail
                refine (HD2 _ r4).mono ?_
                rintro e W4 ⟨rfl, r6, b6⟩
                have b7 := b5.trans b6
                go_wp2_with fail
                refine (HT2 _ (HEB.out _ b7) r6).mono ?_
                rintro e W5 ⟨rfl, r8, b8⟩
                have b9 := b7.trans b8
                go_wp2_with fail
                go_ret
                exact ⟨by rw [HIF.out]; rfl, r8, b9⟩
              · rw [h4] at e2 HIS
                have HIF : Hid (C = B) := by
                  show _ = _
                  rw [← HC.out, HIS.out]
                  rfl
                clear HIS
                go_enter Tryd.func60, Tryd.ntmps60
                go_wp2_with fail
                refine HV.mono ?_
                rintro e W ⟨rfl, r1, b1⟩
                go_wp2_with fail
                refine (HD _ r1).mono ?_
                rintro e W2 ⟨rfl, r2, b2⟩
                have b3 := b1.trans b2
                go_wp2_with fail
                refine (HT _ (HEB.out _ b3) r2).mono ?_
                rintro e W3 ⟨rfl, r4, b4⟩
                have b5 := b3.trans b4
                go_wp2_with fail
                refine (HD2 _ r4).mono ?_
                rintro e W4 ⟨rfl, r6, b6⟩
                have b7 := b5.trans b6
                go_wp2_with fail
                refine (HT2 _ (HEB.out _ b7) r6).mono ?_
                rintro e W5 ⟨rfl, r8, b8⟩
                have b9 := b7.trans b8
                go_wp2_with fail
                go_ret
                exact ⟨by rw [HIF.out]; rfl, r8, b9⟩
            · rw [h3] at e1 HIS
              have HIF : Hid (C = B) := by
                show _ = _
                rw [← HC.out, HIS.out]
                rfl
              clear HIS e2
              go_enter Tryd.func60, Tryd.ntmps60
              go_wp2_with fail
              refine HV.mono ?_
              rintro e W ⟨rfl, r1, b1⟩
              go_wp2_with fail
              refine (HD _ r1).mono ?_
              rintro e W2 ⟨rfl, r2, b2⟩
              have b3 := b1.trans b2
              go_wp2_with fail
              refine (HT _ (HEB.out _ b3) r2).mono ?_
              rintro e W3 ⟨rfl, r4, b4⟩
              have b5 := b3.trans b4
              go_wp2_with fail
              refine (HD2 _ r4).mono ?_
              rintro e W4 ⟨rfl, r6, b6⟩
              have b7 := b5.trans b6
              go_wp2_with fail
              refine (HT2 _ (HEB.out _ b7) r6).mono ?_
              rintro e W5 ⟨rfl, r8, b8⟩
              have b9 := b7.trans b8
              go_wp2_with fail
              go_ret
              exact ⟨by rw [HIF.out]; rfl, r8, b9⟩
set_option maxHeartbeats 8000000 in
set_option maxRecDepth 100000 in
theorem item_any (w0 : World) (R : Nat) (t : ByteArray) (iv : Value) (p d g : Nat) (I : List (ByteArray × ByteArray)) (w : World) (E : Env w0 R iv I) (hb : Below w0.heap.size w0 w) (hr : RdAt w R t iv p d) (hs : t.size ≤ 4000) (hd : d ≤ 8) (hg : t.size - p < g + 1) (h0 : (nx t p 35 && nx t (p + 1) 123) = true) (HB : BytesOk w0 R t iv I g) :
    Calls Tryd.prog 50 #[.pointer (some ⟨R, 0, none⟩)] w fun e w' => Post R t iv d w (itm (tx t I g) t I d p) e w' := by
  have HEB : Hid (∀ W, But R w W → Below w0.heap.size w0 W) := fun W h => E.but hb h
  obtain ⟨⟨c0, c1, c2, c3⟩, hf⟩ := hr.cells
  have h01 := h0
  rw [Bool.and_eq_true] at h01
  have hp2 := nx_lt h01.2
  unfold itm
  by_cases h8 : d = 8
  · rw [if_pos h8]
    subst h8
    have HG := giveUp_any R t iv p 8 w hr
    clear hr h0 h01 c0 c1 c2
    go_enter Tryd.func50, Tryd.ntmps50
    go_wp2_with fail
    refine HG.mono ?_
    rintro e W ⟨rfl, rfl⟩
    go_wp2_with fail
    exact ⟨rfl, rfl, But.refl _ _⟩
  · rw [if_neg h8]
    have hd7 : d + 1 ≤ 8 := by omega
    have j8 : ((d : Int) == 8) = false := by rw [beq_eq_false_iff_ne]; omega
    have hw1 : wrap64 ((d : Int) + 1) = ((d + 1 : Nat) : Int) := by unfold wrap64; omega
    have hw2 : wrap64 (((d + 1 : Nat) : Int) - 1) = (d : Int) := by unfold wrap64; omega
    have r0 := rd_deep hr (d + 1)
    have b0 := (But.refl R w).setCell (i := 3) (.int .i64 ((d + 1 : Nat) : Int))
    have f3 := hf 3
    have HD := fun W h => need_yes R t iv p (d + 1) ⟨#[35, 123]⟩ W h (by clear hw1 hw2; omega) hs (by decide) ((nexts_two t p 35 123).trans h0)
    rw [show p + (⟨#[35, 123]⟩ : ByteArray).size = p + 2 from rfl] at HD
    have HT1 := fun W h => took_any R t iv (p + 2) (d + 1) ⟨#[61]⟩ W h (by clear hw1 hw2; omega) hs (by decide)
    rw [nexts_one t (p + 2) 61, show p + 2 + (⟨#[61]⟩ : ByteArray).size = p + 2 + 1 from rfl] at HT1
    have HT2 := fun W h => took_any R t iv (p + 2) (d + 1) ⟨#[63]⟩ W h (by clear hw1 hw2; omega) hs (by decide)
    rw [nexts_one t (p + 2) 63, show p + 2 + (⟨#[63]⟩ : ByteArray).size = p + 2 + 1 from rfl] at HT2
    have HKI := inR_keeps E.sz (tx t I g) (d + 1) (p + 2) (by clear hw1 hw2; omega) (fun k i h1 h2 => tx_keeps E.sz g (d + 1) k i h2 (by clear hw1 hw2; omega))
    have HN := fun (o : List UInt8) (q : Nat) (h : inR (tx t I g) t I (d + 1) (p + 2) = .ok o q) (hx : nx t q 125 = true) W hW => need_yes R t iv q (d + 1) ⟨#[125]⟩ W hW (HKI o q h).2.1 hs (by decide) ((nexts_one t q 125).trans hx)
    have HNO := fun (o : List UInt8) (q : Nat) (h : inR (tx t I g) t I (d + 1) (p + 2) = .ok o q) (hx : ¬ nx t q 125 = true) W hW => need_no R t iv q (d + 1) ⟨#[125]⟩ W hW (HKI o q h).2.1 hs (by decide) ((nexts_one t q 125).trans (Bool.not_eq_true _ ▸ hx))
    clear hr h0 h01 c0 c1 c2 hf h8 HKI
    generalize hin : inR (tx t I g) t I (d + 1) (p + 2) = res at *
    unfold inR at hin
    cases h1 : nx t (p + 2) 61
    · rw [h1] at hin HT1
      simp only [Bool.false_eq_true, if_false] at hin HT1
      cases h2 : nx t (p + 2) 63
      · rw [h2] at hin HT2
        simp only [Bool.false_eq_true, if_false] at hin HT2
        have HM := fun W hW h => value_any w0 R t iv (p + 2) (d + 1) I W E hW h (by clear hw1 hw2; omega) hs
        rw [hin] at HM
        clear hin h1 h2 HB
        cases res with
        | bad q =>
          clear HN HNO
          go_enter Tryd.func50, Tryd.ntmps50
          go_wp2_with fail
          refine (HD _ r0).mono ?_
          rintro e W1 ⟨rfl, r1, b1⟩
          have b2 := b0.trans b1
          go_wp2_with fail
          refine (HT1 _ r1).mono ?_
          rintro e W2 ⟨rfl, r2, b3⟩
          have b4 := b2.trans b3
          go_wp2_with fail
          refine (HT2 _ r2).mono ?_
          rintro e W3 ⟨rfl, r3, b5⟩
          have b6 := b4.trans b5
          go_wp2_with fail
          refine (HM _ (HEB.out _ b6) r3).mono ?_
          rintro e W4 ⟨rfl, b7⟩
          go_wp2_with fail
          exact ⟨rfl, rfl, b6.trans b7⟩
        | ok o q =>
          by_cases hx : nx t q 125 = true
          · simp only [if_pos hx]
            have HN2 := HN o q rfl hx
            rw [show q + (⟨#[125]⟩ : ByteArray).size = q + 1 from rfl] at HN2
            clear HN HNO hx
            go_enter Tryd.func50, Tryd.ntmps50
            go_wp2_with fail
            refine (HD _ r0).mono ?_
            rintro e W1 ⟨rfl, r1, b1⟩
            have b2 := b0.trans b1
            go_wp2_with fail
            refine (HT1 _ r1).mono ?_
            rintro e W2 ⟨rfl, r2, b3⟩
            have b4 := b2.trans b3
            go_wp2_with fail
            refine (HT2 _ r2).mono ?_
            rintro e W3 ⟨rfl, r3, b5⟩
            have b6 := b4.trans b5
            go_wp2_with fail
            refine (HM _ (HEB.out _ b6) r3).mono ?_
            rintro e W4 ⟨rfl, r7, b7⟩
            have b8 := b6.trans b7
            go_wp2_with fail
            refine (HN2 _ r7).mono ?_
            rintro e W5 ⟨rfl, r9, b9⟩
            have b10 := b8.trans b9
            have r11 := rd_deep r9 d
            have b11 := b10.setCell (i := 3) (.int .i64 (d : Int))
            obtain ⟨⟨_, _, _, x3⟩, hf⟩ := r9.cells
            have x4 := hf 3
            go_wp2_with fail
            go_ret
            exact ⟨rfl, r11, b11⟩
          · simp only [if_neg hx]
            have HN2 := HNO o q rfl hx
            clear HN HNO hx
            go_enter Tryd.func50, Tryd.ntmps50
            go_wp2_with fail
            refine (HD _ r0).mono ?_
            rintro e W1 ⟨rfl, r1, b1⟩
            have b2 := b0.trans b1
            go_wp2_with fail
            refine (HT1 _ r1).mono ?_
            rintro e W2 ⟨rfl, r2, b3⟩
            have b4 := b2.trans b3
            go_wp2_with fail
            refine (HT2 _ r2).mono ?_
            rintro e W3 ⟨rfl, r3, b5⟩
            have b6 := b4.trans b5
            go_wp2_with fail
            refine (HM _ (HEB.out _ b6) r3).mono ?_
            rintro e W4 ⟨rfl, r7, b7⟩
            have b8 := b6.trans b7
            go_wp2_with fail
            refine (HN2 _ r7).mono ?_
            rintro e W5 ⟨rfl, b9⟩
            go_wp2_with fail
            exact ⟨rfl, rfl, b8.trans b9⟩
      · rw [h2] at hin HT2
        simp only [if_true] at hin HT2
        have hlt := nx_lt h2
        have HM := fun W hW h => choice_any w0 R t iv (p + 2 + 1) (d + 1) g I W E hW h (by clear hw1 hw2; omega) hs hd7 (by clear hw1 hw2; omega) HB
        rw [hin] at HM
        clear hin h1 h2 HB
        cases res with
        | bad q =>
          clear HN HNO
          go_enter Tryd.func50, Tryd.ntmps50
          go_wp2_with fail
          refine (HD _ r0).mono ?_
          rintro e W1 ⟨rfl, r1, b1⟩
          have b2 := b0.trans b1
          go_wp2_with fail
          refine (HT1 _ r1).mono ?_
          rintro e W2 ⟨rfl, r2, b3⟩
          have b4 := b2.trans b3
          go_wp2_with fail
          refine (HT2 _ r2).mono ?_
          rintro e W3 ⟨rfl, r3, b5⟩
          have b6 := b4.trans b5
          go_wp2_with fail
          refine (HM _ (HEB.out _ b6) r3).mono ?_
          rintro e W4 ⟨rfl, b7⟩
          go_wp2_with fail
          exact ⟨rfl, rfl, b6.trans b7⟩
        | ok o q =>
          by_cases hx : nx t q 125 = true
          · simp only [if_pos hx]
            have HN2 := HN o q rfl hx
            rw [show q + (⟨#[125]⟩ : ByteArray).size = q + 1 from rfl] at HN2
            clear HN HNO hx
            go_enter Tryd.func50, Tryd.ntmps50
            go_wp2_with fail
            refine (HD _ r0).mono ?_
            rintro e W1 ⟨rfl, r1, b1⟩
            have b2 := b0.trans b1
            go_wp2_with fail
            refine (HT1 _ r1).mono ?_
            rintro e W2 ⟨rfl, r2, b3⟩
            have b4 := b2.trans b3
            go_wp2_with fail
            refine (HT2 _ r2).mono ?_
            rintro e W3 ⟨rfl, r3, b5⟩
            have b6 := b4.trans b5
            go_wp2_with fail
            refine (HM _ (HEB.out _ b6) r3).mono ?_
            rintro e W4 ⟨rfl, r7, b7⟩
            have b8 := b6.trans b7
            go_wp2_with fail
            refine (HN2 _ r7).mono ?_
            rintro e W5 ⟨rfl, r9, b9⟩
            have b10 := b8.trans b9
            have r11 := rd_deep r9 d
            have b11 := b10.setCell (i := 3) (.int .i64 (d : Int))
            obtain ⟨⟨_, _, _, x3⟩, hf⟩ := r9.cells
            have x4 := hf 3
            go_wp2_with fail
            go_ret
            exact ⟨rfl, r11, b11⟩
          · simp only [if_neg hx]
            have HN2 := HNO o q rfl hx
            clear HN HNO hx
            go_enter Tryd.func50, Tryd.ntmps50
            go_wp2_with fail
            refine (HD _ r0).mono ?_
            rintro e W1 ⟨rfl, r1, b1⟩
            have b2 := b0.trans b1
            go_wp2_with fail
            refine (HT1 _ r1).mono ?_
            rintro e W2 ⟨rfl, r2, b3⟩
            have b4 := b2.trans b3
            go_wp2_with fail
            refine (HT2 _ r2).mono ?_
            rintro e W3 ⟨rfl, r3, b5⟩
            have b6 := b4.trans b5
            go_wp2_with fail
            refine (HM _ (HEB.out _ b6) r3).mono ?_
            rintro e W4 ⟨rfl, r7, b7⟩
            have b8 := b6.trans b7
            go_wp2_with fail
            refine (HN2 _ r7).mono ?_
            rintro e W5 ⟨rfl, b9⟩
            go_wp2_with fail
            exact ⟨rfl, rfl, b8.trans b9⟩
    · rw [h1] at hin HT1
      simp only [if_true] at hin HT1
      have hlt := nx_lt h1
      have HM := fun W hW h => cuts_any w0 R t iv (p + 2 + 1) (d + 1) I W E hW h (by clear hw1 hw2; omega) hs
      rw [hin] at HM
      clear hin h1 HB HT2
      cases res with
      | bad q =>
        clear HN HNO
        go_enter Tryd.func50, Tryd.ntmps50
        go_wp2_with fail
        refine (HD _ r0).mono ?_
        rintro e W1 ⟨rfl, r1, b1⟩
        have b2 := b0.trans b1
        go_wp2_with fail
        refine (HT1 _ r1).mono ?_
        rintro e W2 ⟨rfl, r2, b3⟩
        have b4 := b2.trans b3
        go_wp2_with fail
        refine (HM _ (HEB.out _ b4) r2).mono ?_
        rintro e W4 ⟨rfl, b7⟩
        go_wp2_with fail
        exact ⟨rfl, rfl, b4.trans b7⟩
      | ok o q =>
        by_cases hx : nx t q 125 = true
        · simp only [if_pos hx]
          have HN2 := HN o q rfl hx
          rw [show q + (⟨#[125]⟩ : ByteArray).size = q + 1 from rfl] at HN2
          clear HN HNO hx
          go_enter Tryd.func50, Tryd.ntmps50
          go_wp2_with fail
          refine (HD _ r0).mono ?_
          rintro e W1 ⟨rfl, r1, b1⟩
          have b2 := b0.trans b1
          go_wp2_with fail
          refine (HT1 _ r1).mono ?_
          rintro e W2 ⟨rfl, r2, b3⟩
          have b4 := b2.trans b3
          go_wp2_with fail
          refine (HM _ (HEB.out _ b4) r2).mono ?_
          rintro e W4 ⟨rfl, r7, b7⟩
          have b8 := b4.trans b7
          go_wp2_with fail
          refine (HN2 _ r7).mono ?_
          rintro e W5 ⟨rfl, r9, b9⟩
          have b10 := b8.trans b9
          have r11 := rd_deep r9 d
          have b11 := b10.setCell (i := 3) (.int .i64 (d : Int))
          obtain ⟨⟨_, _, _, x3⟩, hf⟩ := r9.cells
          have x4 := hf 3
          go_wp2_with fail
          go_ret
          exact ⟨rfl, r11, b11⟩
        · simp only [if_neg hx]
          have HN2 := HNO o q rfl hx
          clear HN HNO hx
          go_enter Tryd.func50, Tryd.ntmps50
          go_wp2_with fail
          refine (HD _ r0).mono ?_
          rintro e W1 ⟨rfl, r1, b1⟩
          have b2 := b0.trans b1
          go_wp2_with fail
          refine (HT1 _ r1).mono ?_
          rintro e W2 ⟨rfl, r2, b3⟩
          have b4 := b2.trans b3
          go_wp2_with fail
          refine (HM _ (HEB.out _ b4) r2).mono ?_
          rintro e W4 ⟨rfl, r7, b7⟩
          have b8 := b4.trans b7
          go_wp2_with fail
          refine (HN2 _ r7).mono ?_
          rintro e W5 ⟨rfl, b9⟩
          go_wp2_with fail
          exact ⟨rfl, rfl, b8.trans b9⟩
end Fmt
end Go.Proofs.YtbhoklhcdefabaaDoor
