/- The reference's expander: an item with a choice. (Written by gen_fmtx4.py.) -/
import Derived.Test.YtbhoklhcdefabaaDoorFmtX4
namespace Go.Proofs.YtbhoklhcdefabaaDoor
open Go.ChangeShapes Go.WideShapes Go.ChangeAt Go.RowKit Go.Maps Go.Sort
namespace Fmt
/-- What the expander's text keeps to, with the fuel g. -/
def TextOk (w0 : World) (X : Nat) (t : ByteArray) (iv : Value) (I : List (ByteArray × ByteArray)) (g : Nat) : Prop :=
  ∀ (d k p : Nat) (w : World), Below w0.heap.size w0 w → ExAt w X t iv p (-1) → p ≤ t.size → t.size - p < g → d ≤ 8 →
    Calls Tryd.prog 7 #[.pointer (some ⟨X, 0, none⟩), .string (ends k), .int .i64 d] w fun e w' => PostX X t iv (4000 * (t.size - p)) w (tx t I g d k p) e w'
set_option maxHeartbeats 8000000 in
set_option maxRecDepth 100000 in
theorem item_choice (w0 : World) (X : Nat) (t : ByteArray) (iv : Value) (j d : Nat) (I : List (ByteArray × ByteArray)) (w : World) (E : Env w0 X iv I) (hb : Below w0.heap.size w0 w) (h : ExAt w X t iv j (-1)) (hj : j ≤ t.size) (hs : t.size ≤ 4000) (g : Nat) (h63 : nx t j 63 = true) (hd : d ≤ 8) (hg : t.size - j < g + 1) (HTX : TextOk w0 X t iv I g) :
    Calls Tryd.prog 20 #[.pointer (some ⟨X, 0, none⟩), .int .i64 d] w fun e w' => PostX X t iv (4000 * (t.size - j)) w (closeR t (chR (tx t I g) t I d (j + 1))) e w' := by
  have HEB : Hid (∀ W, But X w W → Below w0.heap.size w0 W) := fun W h => E.but hb h
  have HX : Hid (ExAt w X t iv j (-1)) := h
  obtain ⟨⟨c0, c1, _, _⟩, _⟩ := h.cells
  have ij : (j : Int) ≤ (t.size : Int) := Int.ofNat_le.2 hj
  have ij0 : (0 : Int) ≤ (j : Int) := Int.natCast_nonneg _
  have HP63 := fun W => Tryd.strings_HasPrefix (t.extract j t.size) ⟨#[63]⟩ W
  rw [extract_drop, show Lib.hasPrefix (t.data.toList.drop j) (⟨#[63]⟩ : ByteArray).data.toList = nx t j 63 from nexts_one t j 63] at HP63
  have HP61 := fun W => Tryd.strings_HasPrefix (t.extract j t.size) ⟨#[61]⟩ W
  rw [extract_drop, show Lib.hasPrefix (t.data.toList.drop j) (⟨#[61]⟩ : ByteArray).data.toList = nx t j 61 from nexts_one t j 61] at HP61
  clear h hb
  rw [h63] at HP63
  have hj1 := nx_lt h63
  have hw1 : wrap64 ((j : Int) + 1) = ((j + 1 : Nat) : Int) := w64_s (by omega) (by omega)
  have HV := fun W hW h => valueX_any w0 X t iv (j + 1) I W E hW h hj1 hs
  have HK := vaR_keeps E.sz (j + 1) hj1
  have HTD := fun k q W h => text_dead X t iv q k d W h
  have HT1 := fun q W h => HTD 1 q W h
  rw [show ends 1 = ⟨#[44, 125]⟩ from rfl] at HT1
  have HT2 := fun q W h => HTD 2 q W h
  rw [show ends 2 = ⟨#[125]⟩ from rfl] at HT2
  clear h63 HP61 HTD
  unfold chR
  cases hv : vaR t I (j + 1) with
  | bad q =>
    rw [hv] at HV
    clear HK hv
    have iq : ¬ (q : Int) < 0 := Int.not_lt.2 (Int.natCast_nonneg _)
    go_enter Tryd.func20, Tryd.ntmps20
    go_wp2_with fail
    go_quiet (fail)
    have rV : ExAt (w.drewN nq) X t iv j (-1) := HX.out
    have bV : But X w (w.drewN nq) := ⟨rfl, rfl, rfl, Nat.le_refl _, fun _ _ _ => rfl⟩
    generalize w.drewN nq = V at *
    obtain ⟨⟨c0, c1, c2, c3⟩, hf⟩ := rV.cells
    have f1 := hf 1
    have r1 := ex_at rV (j + 1)
    have b1 := bV.setCell (i := 1) (.int .i64 ((j + 1 : Nat) : Int))
    clear c0 c2 c3 rV bV
    go_wp2_with fail
    refine (HP63 _).mono ?_
    rintro e W1 ⟨rfl, hw1⟩
    obtain rfl := hw1.symm
    go_wp2_with fail
    refine (HV _ (HEB.out _ b1) r1).mono ?_
    rintro e W2 ⟨z, rfl, hz, r2, bb⟩
    have b2 := b1.trans bb
    obtain ⟨⟨_, _, x2, _⟩, _⟩ := r2.cells
    have hz0 : z = ⟨#[]⟩ := by
      cases z with
      | mk d => cases d with
        | mk l => cases l with
          | nil => rfl
          | cons a l => simp [ByteArray.size] at hz
    subst hz0
    clear hz bb HV
    go_wp2_with fail
    refine (HT1 q _ r2).mono ?_
    rintro e W3 ⟨rfl, r3, bb⟩
    have b3 := b2.trans bb
    obtain ⟨⟨_, _, x3, _⟩, _⟩ := r3.cells
    go_wp2_with fail
    refine (HT2 q _ r3).mono ?_
    rintro e W4 ⟨rfl, r4, bb⟩
    have b4 := b3.trans bb
    obtain ⟨⟨_, _, x4, _⟩, _⟩ := r4.cells
    go_wp2_with fail
    go_ret
    exact ⟨_, rfl, Nat.zero_le _, r4, b4⟩
  | ok v q =>
    rw [hv] at HV
    obtain ⟨a1, hq, a3⟩ := HK v q hv
    have HWT := fun W h => want_any X t iv q ⟨#[44]⟩ W h hq hs (by decide)
    rw [nexts_one t q 44, show q + (⟨#[44]⟩ : ByteArray).size = q + 1 from rfl] at HWT
    have e1 := no_empty v
    have e2 := no_zero v
    have iq : ¬ (q : Int) < 0 := Int.not_lt.2 (Int.natCast_nonneg _)
    clear HK hv
    by_cases hx : nx t q 44 = true
    rotate_left
    · simp only [if_neg hx]
      rw [Bool.eq_false_iff.2 hx] at HWT
      simp only [Bool.false_eq_true, if_false] at HWT
      clear hx
      cases h3 : v == []
      · rw [h3] at e1
        cases h4 : v == [48]
        · rw [h4] at e2
          have HNO : Hid (isNo v = false) := by
            show isNo v = false
            unfold isNo
            rw [h3, h4]
            rfl
          go_enter Tryd.func20, Tryd.ntmps20
          go_wp2_with fail
          go_quiet (fail)
          have rV : ExAt (w.drewN nq) X t iv j (-1) := HX.out
          have bV : But X w (w.drewN nq) := ⟨rfl, rfl, rfl, Nat.le_refl _, fun _ _ _ => rfl⟩
          generalize w.drewN nq = V at *
          obtain ⟨⟨c0, c1, c2, c3⟩, hf⟩ := rV.cells
          have f1 := hf 1
          have r1 := ex_at rV (j + 1)
          have b1 := bV.setCell (i := 1) (.int .i64 ((j + 1 : Nat) : Int))
          clear c0 c2 c3 rV bV
          go_wp2_with fail
          refine (HP63 _).mono ?_
          rintro e W1 ⟨rfl, hw1⟩
          obtain rfl := hw1.symm
          go_wp2_with fail
          refine (HV _ (HEB.out _ b1) r1).mono ?_
          rintro e W2 ⟨rfl, r2, bb⟩
          have b2 := b1.trans bb
          obtain ⟨⟨_, _, x2, _⟩, _⟩ := r2.cells
          go_wp2_with fail
          refine (HWT _ r2).mono ?_
          rintro e W3 ⟨rfl, r3, bb⟩
          have b3 := b2.trans bb
          obtain ⟨⟨_, _, x3, _⟩, _⟩ := r3.cells
          go_wp2_with fail
          refine (HT1 q _ r3).mono ?_
          rintro e W4 ⟨rfl, r4, bb⟩
          have b4 := b3.trans bb
          obtain ⟨⟨_, _, x4, _⟩, _⟩ := r4.cells
          go_wp2_with fail
          refine (HT2 q _ r4).mono ?_
          rintro e W5 ⟨rfl, r5, bb⟩
          have b5 := b4.trans bb
          obtain ⟨⟨_, _, x5, _⟩, _⟩ := r5.cells
          go_wp2_with fail
          go_ret
          exact ⟨_, rfl, Nat.zero_le _, r5, b5⟩
        · rw [h4] at e2
          have HNO : Hid (isNo v = true) := by
            show isNo v = true
            unfold isNo
            rw [h3, h4]
            rfl
          go_enter Tryd.func20, Tryd.ntmps20
          go_wp2_with fail
          go_quiet (fail)
          have rV : ExAt (w.drewN nq) X t iv j (-1) := HX.out
          have bV : But X w (w.drewN nq) := ⟨rfl, rfl, rfl, Nat.le_refl _, fun _ _ _ => rfl⟩
          generalize w.drewN nq = V at *
          obtain ⟨⟨c0, c1, c2, c3⟩, hf⟩ := rV.cells
          have f1 := hf 1
          have r1 := ex_at rV (j + 1)
          have b1 := bV.setCell (i := 1) (.int .i64 ((j + 1 : Nat) : Int))
          clear c0 c2 c3 rV bV
          go_wp2_with fail
          refine (HP63 _).mono ?_
          rintro e W1 ⟨rfl, hw1⟩
          obtain rfl := hw1.symm
          go_wp2_with fail
          refine (HV _ (HEB.out _ b1) r1).mono ?_
          rintro e W2 ⟨rfl, r2, bb⟩
          have b2 := b1.trans bb
          obtain ⟨⟨_, _, x2, _⟩, _⟩ := r2.cells
          go_wp2_with fail
          refine (HWT _ r2).mono ?_
          rintro e W3 ⟨rfl, r3, bb⟩
          have b3 := b2.trans bb
          obtain ⟨⟨_, _, x3, _⟩, _⟩ := r3.cells
          go_wp2_with fail
          refine (HT1 q _ r3).mono ?_
          rintro e W4 ⟨rfl, r4, bb⟩
          have b4 := b3.trans bb
          obtain ⟨⟨_, _, x4, _⟩, _⟩ := r4.cells
          go_wp2_with fail
          refine (HT2 q _ r4).mono ?_
          rintro e W5 ⟨rfl, r5, bb⟩
          have b5 := b4.trans bb
          obtain ⟨⟨_, _, x5, _⟩, _⟩ := r5.cells
          go_wp2_with fail
          go_ret
          exact ⟨_, rfl, Nat.zero_le _, r5, b5⟩
      · rw [h3] at e1
        have HNO : Hid (isNo v = true) := by
          show isNo v = true
          unfold isNo
          rw [h3]
          rfl
        clear e2
        go_enter Tryd.func20, Tryd.ntmps20
        go_wp2_with fail
        go_quiet (fail)
        have rV : ExAt (w.drewN nq) X t iv j (-1) := HX.out
        have bV : But X w (w.drewN nq) := ⟨rfl, rfl, rfl, Nat.le_refl _, fun _ _ _ => rfl⟩
        generalize w.drewN nq = V at *
        obtain ⟨⟨c0, c1, c2, c3⟩, hf⟩ := rV.cells
        have f1 := hf 1
        have r1 := ex_at rV (j + 1)
        have b1 := bV.setCell (i := 1) (.int .i64 ((j + 1 : Nat) : Int))
        clear c0 c2 c3 rV bV
        go_wp2_with fail
        refine (HP63 _).mono ?_
        rintro e W1 ⟨rfl, hw1⟩
        obtain rfl := hw1.symm
        go_wp2_with fail
        refine (HV _ (HEB.out _ b1) r1).mono ?_
        rintro e W2 ⟨rfl, r2, bb⟩
        have b2 := b1.trans bb
        obtain ⟨⟨_, _, x2, _⟩, _⟩ := r2.cells
        go_wp2_with fail
        refine (HWT _ r2).mono ?_
        rintro e W3 ⟨rfl, r3, bb⟩
        have b3 := b2.trans bb
        obtain ⟨⟨_, _, x3, _⟩, _⟩ := r3.cells
        go_wp2_with fail
        refine (HT1 q _ r3).mono ?_
        rintro e W4 ⟨rfl, r4, bb⟩
        have b4 := b3.trans bb
        obtain ⟨⟨_, _, x4, _⟩, _⟩ := r4.cells
        go_wp2_with fail
        refine (HT2 q _ r4).mono ?_
        rintro e W5 ⟨rfl, r5, bb⟩
        have b5 := b4.trans bb
        obtain ⟨⟨_, _, x5, _⟩, _⟩ := r5.cells
        go_wp2_with fail
        go_ret
        exact ⟨_, rfl, Nat.zero_le _, r5, b5⟩
    · simp only [if_pos hx]
      have hlt := nx_lt hx
      rw [hx] at HWT
      simp only [if_true] at HWT
      have HTA := fun W hW h => HTX d 1 (q + 1) W hW h hlt (by clear hw1; omega) hd
      have HKA := tx_keeps (t := t) E.sz g d 1 (q + 1) hlt (by clear hw1; omega)
      rw [show ends 1 = ⟨#[44, 125]⟩ from rfl] at HTA
      clear hx
      cases hA : tx t I g d 1 (q + 1) with
      | bad q2 =>
        rw [hA] at HTA
        have iq2 : ¬ (q2 : Int) < 0 := Int.not_lt.2 (Int.natCast_nonneg _)
        clear HKA hA
        cases h3 : v == []
        · rw [h3] at e1
          cases h4 : v == [48]
          · rw [h4] at e2
            have HNO : Hid (isNo v = false) := by
              show isNo v = false
              unfold isNo
              rw [h3, h4]
              rfl
            go_enter Tryd.func20, Tryd.ntmps20
            go_wp2_with fail
            go_quiet (fail)
            have rV : ExAt (w.drewN nq) X t iv j (-1) := HX.out
            have bV : But X w (w.drewN nq) := ⟨rfl, rfl, rfl, Nat.le_refl _, fun _ _ _ => rfl⟩
            generalize w.drewN nq = V at *
            obtain ⟨⟨c0, c1, c2, c3⟩, hf⟩ := rV.cells
            have f1 := hf 1
            have r1 := ex_at rV (j + 1)
            have b1 := bV.setCell (i := 1) (.int .i64 ((j + 1 : Nat) : Int))
            clear c0 c2 c3 rV bV
            go_wp2_with fail
            refine (HP63 _).mono ?_
            rintro e W1 ⟨rfl, hw1⟩
            obtain rfl := hw1.symm
            go_wp2_with fail
            refine (HV _ (HEB.out _ b1) r1).mono ?_
            rintro e W2 ⟨rfl, r2, bb⟩
            have b2 := b1.trans bb
            obtain ⟨⟨_, _, x2, _⟩, _⟩ := r2.cells
            go_wp2_with fail
            refine (HWT _ r2).mono ?_
            rintro e W3 ⟨rfl, r3, bb⟩
            have b3 := b2.trans bb
            obtain ⟨⟨_, _, x3, _⟩, _⟩ := r3.cells
            go_wp2_with fail
            refine (HTA _ (HEB.out _ b3) r3).mono ?_
            rintro e W4 ⟨z, rfl, hz, r4, bb⟩
            have b4 := b3.trans bb
            obtain ⟨⟨_, _, x4, _⟩, _⟩ := r4.cells
            go_wp2_with fail
            refine (HT2 q2 _ r4).mono ?_
            rintro e W5 ⟨rfl, r5, bb⟩
            have b5 := b4.trans bb
            obtain ⟨⟨_, _, x5, _⟩, _⟩ := r5.cells
            go_wp2_with fail
            go_ret
            exact ⟨_, rfl, by clear hw1; omega, r5, b5⟩
          · rw [h4] at e2
            have HNO : Hid (isNo v = true) := by
              show isNo v = true
              unfold isNo
              rw [h3, h4]
              rfl
            go_enter Tryd.func20, Tryd.ntmps20
            go_wp2_with fail
            go_quiet (fail)
            have rV : ExAt (w.drewN nq) X t iv j (-1) := HX.out
            have bV : But X w (w.drewN nq) := ⟨rfl, rfl, rfl, Nat.le_refl _, fun _ _ _ => rfl⟩
            generalize w.drewN nq = V at *
            obtain ⟨⟨c0, c1, c2, c3⟩, hf⟩ := rV.cells
            have f1 := hf 1
            have r1 := ex_at rV (j + 1)
            have b1 := bV.setCell (i := 1) (.int .i64 ((j + 1 : Nat) : Int))
            clear c0 c2 c3 rV bV
            go_wp2_with fail
            refine (HP63 _).mono ?_
            rintro e W1 ⟨rfl, hw1⟩
            obtain rfl := hw1.symm
            go_wp2_with fail
            refine (HV _ (HEB.out _ b1) r1).mono ?_
            rintro e W2 ⟨rfl, r2, bb⟩
            have b2 := b1.trans bb
            obtain ⟨⟨_, _, x2, _⟩, _⟩ := r2.cells
            go_wp2_with fail
            refine (HWT _ r2).mono ?_
            rintro e W3 ⟨rfl, r3, bb⟩
            have b3 := b2.trans bb
            obtain ⟨⟨_, _, x3, _⟩, _⟩ := r3.cells
            go_wp2_with fail
            refine (HTA _ (HEB.out _ b3) r3).mono ?_
            rintro e W4 ⟨z, rfl, hz, r4, bb⟩
            have b4 := b3.trans bb
            obtain ⟨⟨_, _, x4, _⟩, _⟩ := r4.cells
            go_wp2_with fail
            refine (HT2 q2 _ r4).mono ?_
            rintro e W5 ⟨rfl, r5, bb⟩
            have b5 := b4.trans bb
            obtain ⟨⟨_, _, x5, _⟩, _⟩ := r5.cells
            go_wp2_with fail
            go_ret
            exact ⟨_, rfl, Nat.zero_le _, r5, b5⟩
        · rw [h3] at e1
          have HNO : Hid (isNo v = true) := by
            show isNo v = true
            unfold isNo
            rw [h3]
            rfl
          clear e2
          go_enter Tryd.func20, Tryd.ntmps20
          go_wp2_with fail
          go_quiet (fail)
          have rV : ExAt (w.drewN nq) X t iv j (-1) := HX.out
          have bV : But X w (w.drewN nq) := ⟨rfl, rfl, rfl, Nat.le_refl _, fun _ _ _ => rfl⟩
          generalize w.drewN nq = V at *
          obtain ⟨⟨c0, c1, c2, c3⟩, hf⟩ := rV.cells
          have f1 := hf 1
          have r1 := ex_at rV (j + 1)
          have b1 := bV.setCell (i := 1) (.int .i64 ((j + 1 : Nat) : Int))
          clear c0 c2 c3 rV bV
          go_wp2_with fail
          refine (HP63 _).mono ?_
          rintro e W1 ⟨rfl, hw1⟩
          obtain rfl := hw1.symm
          go_wp2_with fail
          refine (HV _ (HEB.out _ b1) r1).mono ?_
          rintro e W2 ⟨rfl, r2, bb⟩
          have b2 := b1.trans bb
          obtain ⟨⟨_, _, x2, _⟩, _⟩ := r2.cells
          go_wp2_with fail
          refine (HWT _ r2).mono ?_
          rintro e W3 ⟨rfl, r3, bb⟩
          have b3 := b2.trans bb
          obtain ⟨⟨_, _, x3, _⟩, _⟩ := r3.cells
          go_wp2_with fail
          refine (HTA _ (HEB.out _ b3) r3).mono ?_
          rintro e W4 ⟨z, rfl, hz, r4, bb⟩
          have b4 := b3.trans bb
          obtain ⟨⟨_, _, x4, _⟩, _⟩ := r4.cells
          go_wp2_with fail
          refine (HT2 q2 _ r4).mono ?_
          rintro e W5 ⟨rfl, r5, bb⟩
          have b5 := b4.trans bb
          obtain ⟨⟨_, _, x5, _⟩, _⟩ := r5.cells
          go_wp2_with fail
          go_ret
          exact ⟨_, rfl, Nat.zero_le _, r5, b5⟩
      | ok A q2 =>
        rw [hA] at HTA
        obtain ⟨c1', hq2, c3'⟩ := HKA A q2 hA
        have HWU := fun W h => want_any X t iv q2 ⟨#[44]⟩ W h hq2 hs (by decide)
        rw [nexts_one t q2 44, show q2 + (⟨#[44]⟩ : ByteArray).size = q2 + 1 from rfl] at HWU
        have iq2 : ¬ (q2 : Int) < 0 := Int.not_lt.2 (Int.natCast_nonneg _)
        have hAl : (⟨A.toArray⟩ : ByteArray).size = A.length := List.size_toArray
        have hAb : (⟨A.toArray⟩ : ByteArray).size ≤ 4000 * (t.size - j) := by clear hw1; omega
        clear HKA hA
        by_cases hx2 : nx t q2 44 = true
        rotate_left
        · simp only [if_neg hx2]
          rw [Bool.eq_false_iff.2 hx2] at HWU
          simp only [Bool.false_eq_true, if_false] at HWU
          clear hx2
          cases h3 : v == []
          · rw [h3] at e1
            cases h4 : v == [48]
            · rw [h4] at e2
              have HNO : Hid (isNo v = false) := by
                show isNo v = false
                unfold isNo
                rw [h3, h4]
                rfl
              go_enter Tryd.func20, Tryd.ntmps20
              go_wp2_with fail
              go_quiet (fail)
              have rV : ExAt (w.drewN nq) X t iv j (-1) := HX.out
              have bV : But X w (w.drewN nq) := ⟨rfl, rfl, rfl, Nat.le_refl _, fun _ _ _ => rfl⟩
              generalize w.drewN nq = V at *
              obtain ⟨⟨c0, c1, c2, c3⟩, hf⟩ := rV.cells
              have f1 := hf 1
              have r1 := ex_at rV (j + 1)
              have b1 := bV.setCell (i := 1) (.int .i64 ((j + 1 : Nat) : Int))
              clear c0 c2 c3 rV bV
              go_wp2_with fail
              refine (HP63 _).mono ?_
              rintro e W1 ⟨rfl, hw1⟩
              obtain rfl := hw1.symm
              go_wp2_with fail
              refine (HV _ (HEB.out _ b1) r1).mono ?_
              rintro e W2 ⟨rfl, r2, bb⟩
              have b2 := b1.trans bb
              obtain ⟨⟨_, _, x2, _⟩, _⟩ := r2.cells
              go_wp2_with fail
              refine (HWT _ r2).mono ?_
              rintro e W3 ⟨rfl, r3, bb⟩
              have b3 := b2.trans bb
              obtain ⟨⟨_, _, x3, _⟩, _⟩ := r3.cells
              go_wp2_with fail
              refine (HTA _ (HEB.out _ b3) r3).mono ?_
              rintro e W4 ⟨rfl, r4, bb⟩
              have b4 := b3.trans bb
              obtain ⟨⟨_, _, x4, _⟩, _⟩ := r4.cells
              go_wp2_with fail
              refine (HWU _ r4).mono ?_
              rintro e W5 ⟨rfl, r5, bb⟩
              have b5 := b4.trans bb
              obtain ⟨⟨_, _, x5, _⟩, _⟩ := r5.cells
              go_wp2_with fail
              refine (HT2 q2 _ r5).mono ?_
              rintro e W6 ⟨rfl, r6, bb⟩
              have b6 := b5.trans bb
              obtain ⟨⟨_, _, x6, _⟩, _⟩ := r6.cells
              go_wp2_with fail
              go_ret
              exact ⟨_, rfl, hAb, r6, b6⟩
            · rw [h4] at e2
              have HNO : Hid (isNo v = true) := by
                show isNo v = true
                unfold isNo
                rw [h3, h4]
                rfl
              go_enter Tryd.func20, Tryd.ntmps20
              go_wp2_with fail
              go_quiet (fail)
              have rV : ExAt (w.drewN nq) X t iv j (-1) := HX.out
              have bV : But X w (w.drewN nq) := ⟨rfl, rfl, rfl, Nat.le_refl _, fun _ _ _ => rfl⟩
              generalize w.drewN nq = V at *
              obtain ⟨⟨c0, c1, c2, c3⟩, hf⟩ := rV.cells
              have f1 := hf 1
              have r1 := ex_at rV (j + 1)
              have b1 := bV.setCell (i := 1) (.int .i64 ((j + 1 : Nat) : Int))
              clear c0 c2 c3 rV bV
              go_wp2_with fail
              refine (HP63 _).mono ?_
              rintro e W1 ⟨rfl, hw1⟩
              obtain rfl := hw1.symm
              go_wp2_with fail
              refine (HV _ (HEB.out _ b1) r1).mono ?_
              rintro e W2 ⟨rfl, r2, bb⟩
              have b2 := b1.trans bb
              obtain ⟨⟨_, _, x2, _⟩, _⟩ := r2.cells
              go_wp2_with fail
              refine (HWT _ r2).mono ?_
              rintro e W3 ⟨rfl, r3, bb⟩
              have b3 := b2.trans bb
              obtain ⟨⟨_, _, x3, _⟩, _⟩ := r3.cells
              go_wp2_with fail
              refine (HTA _ (HEB.out _ b3) r3).mono ?_
              rintro e W4 ⟨rfl, r4, bb⟩
              have b4 := b3.trans bb
              obtain ⟨⟨_, _, x4, _⟩, _⟩ := r4.cells
              go_wp2_with fail
              refine (HWU _ r4).mono ?_
              rintro e W5 ⟨rfl, r5, bb⟩
              have b5 := b4.trans bb
              obtain ⟨⟨_, _, x5, _⟩, _⟩ := r5.cells
              go_wp2_with fail
              refine (HT2 q2 _ r5).mono ?_
              rintro e W6 ⟨rfl, r6, bb⟩
              have b6 := b5.trans bb
              obtain ⟨⟨_, _, x6, _⟩, _⟩ := r6.cells
              go_wp2_with fail
              go_ret
              exact ⟨_, rfl, Nat.zero_le _, r6, b6⟩
          · rw [h3] at e1
            have HNO : Hid (isNo v = true) := by
              show isNo v = true
              unfold isNo
              rw [h3]
              rfl
            clear e2
            go_enter Tryd.func20, Tryd.ntmps20
            go_wp2_with fail
            go_quiet (fail)
            have rV : ExAt (w.drewN nq) X t iv j (-1) := HX.out
            have bV : But X w (w.drewN nq) := ⟨rfl, rfl, rfl, Nat.le_refl _, fun _ _ _ => rfl⟩
            generalize w.drewN nq = V at *
            obtain ⟨⟨c0, c1, c2, c3⟩, hf⟩ := rV.cells
            have f1 := hf 1
            have r1 := ex_at rV (j + 1)
            have b1 := bV.setCell (i := 1) (.int .i64 ((j + 1 : Nat) : Int))
            clear c0 c2 c3 rV bV
            go_wp2_with fail
            refine (HP63 _).mono ?_
            rintro e W1 ⟨rfl, hw1⟩
            obtain rfl := hw1.symm
            go_wp2_with fail
            refine (HV _ (HEB.out _ b1) r1).mono ?_
            rintro e W2 ⟨rfl, r2, bb⟩
            have b2 := b1.trans bb
            obtain ⟨⟨_, _, x2, _⟩, _⟩ := r2.cells
            go_wp2_with fail
            refine (HWT _ r2).mono ?_
            rintro e W3 ⟨rfl, r3, bb⟩
            have b3 := b2.trans bb
            obtain ⟨⟨_, _, x3, _⟩, _⟩ := r3.cells
            go_wp2_with fail
            refine (HTA _ (HEB.out _ b3) r3).mono ?_
            rintro e W4 ⟨rfl, r4, bb⟩
            have b4 := b3.trans bb
            obtain ⟨⟨_, _, x4, _⟩, _⟩ := r4.cells
            go_wp2_with fail
            refine (HWU _ r4).mono ?_
            rintro e W5 ⟨rfl, r5, bb⟩
            have b5 := b4.trans bb
            obtain ⟨⟨_, _, x5, _⟩, _⟩ := r5.cells
            go_wp2_with fail
            refine (HT2 q2 _ r5).mono ?_
            rintro e W6 ⟨rfl, r6, bb⟩
            have b6 := b5.trans bb
            obtain ⟨⟨_, _, x6, _⟩, _⟩ := r6.cells
            go_wp2_with fail
            go_ret
            exact ⟨_, rfl, Nat.zero_le _, r6, b6⟩
        · simp only [if_pos hx2]
          have hlt2 := nx_lt hx2
          rw [hx2] at HWU
          simp only [if_true] at HWU
          have HTB := fun W hW h => HTX d 2 (q2 + 1) W hW h hlt2 (by clear hw1; omega) hd
          have HKB := tx_keeps (t := t) E.sz g d 2 (q2 + 1) hlt2 (by clear hw1; omega)
          rw [show ends 2 = ⟨#[125]⟩ from rfl] at HTB
          clear hx2
          cases hB : tx t I g d 2 (q2 + 1) with
          | bad q3 =>
            rw [hB] at HTB
            have iq3 : ¬ (q3 : Int) < 0 := Int.not_lt.2 (Int.natCast_nonneg _)
            clear HKB hB
            cases h3 : v == []
            · rw [h3] at e1
              cases h4 : v == [48]
              · rw [h4] at e2
                have HNO : Hid (isNo v = false) := by
                  show isNo v = false
                  unfold isNo
                  rw [h3, h4]
                  rfl
                go_enter Tryd.func20, Tryd.ntmps20
                go_wp2_with fail
                go_quiet (fail)
                have rV : ExAt (w.drewN nq) X t iv j (-1) := HX.out
                have bV : But X w (w.drewN nq) := ⟨rfl, rfl, rfl, Nat.le_refl _, fun _ _ _ => rfl⟩
                generalize w.drewN nq = V at *
                obtain ⟨⟨c0, c1, c2, c3⟩, hf⟩ := rV.cells
                have f1 := hf 1
                have r1 := ex_at rV (j + 1)
                have b1 := bV.setCell (i := 1) (.int .i64 ((j + 1 : Nat) : Int))
                clear c0 c2 c3 rV bV
                go_wp2_with fail
                refine (HP63 _).mono ?_
                rintro e W1 ⟨rfl, hw1⟩
                obtain rfl := hw1.symm
                go_wp2_with fail
                refine (HV _ (HEB.out _ b1) r1).mono ?_
                rintro e W2 ⟨rfl, r2, bb⟩
                have b2 := b1.trans bb
                obtain ⟨⟨_, _, x2, _⟩, _⟩ := r2.cells
                go_wp2_with fail
                refine (HWT _ r2).mono ?_
                rintro e W3 ⟨rfl, r3, bb⟩
                have b3 := b2.trans bb
                obtain ⟨⟨_, _, x3, _⟩, _⟩ := r3.cells
                go_wp2_with fail
                refine (HTA _ (HEB.out _ b3) r3).mono ?_
                rintro e W4 ⟨rfl, r4, bb⟩
                have b4 := b3.trans bb
                obtain ⟨⟨_, _, x4, _⟩, _⟩ := r4.cells
                go_wp2_with fail
                refine (HWU _ r4).mono ?_
                rintro e W5 ⟨rfl, r5, bb⟩
                have b5 := b4.trans bb
                obtain ⟨⟨_, _, x5, _⟩, _⟩ := r5.cells
                go_wp2_with fail
                refine (HTB _ (HEB.out _ b5) r5).mono ?_
                rintro e W6 ⟨z, rfl, hz, r6, bb⟩
                have b6 := b5.trans bb
                obtain ⟨⟨_, _, x6, _⟩, _⟩ := r6.cells
                go_wp2_with fail
                go_ret
                exact ⟨_, rfl, hAb, r6, b6⟩
              · rw [h4] at e2
                have HNO : Hid (isNo v = true) := by
                  show isNo v = true
                  unfold isNo
                  rw [h3, h4]
                  rfl
                go_enter Tryd.func20, Tryd.ntmps20
                go_wp2_with fail
                go_quiet (fail)
                have rV : ExAt (w.drewN nq) X t iv j (-1) := HX.out
                have bV : But X w (w.drewN nq) := ⟨rfl, rfl, rfl, Nat.le_refl _, fun _ _ _ => rfl⟩
                generalize w.drewN nq = V at *
                obtain ⟨⟨c0, c1, c2, c3⟩, hf⟩ := rV.cells
                have f1 := hf 1
                have r1 := ex_at rV (j + 1)
                have b1 := bV.setCell (i := 1) (.int .i64 ((j + 1 : Nat) : Int))
                clear c0 c2 c3 rV bV
                go_wp2_with fail
                refine (HP63 _).mono ?_
                rintro e W1 ⟨rfl, hw1⟩
                obtain rfl := hw1.symm
                go_wp2_with fail
                refine (HV _ (HEB.out _ b1) r1).mono ?_
                rintro e W2 ⟨rfl, r2, bb⟩
                have b2 := b1.trans bb
                obtain ⟨⟨_, _, x2, _⟩, _⟩ := r2.cells
                go_wp2_with fail
                refine (HWT _ r2).mono ?_
                rintro e W3 ⟨rfl, r3, bb⟩
                have b3 := b2.trans bb
                obtain ⟨⟨_, _, x3, _⟩, _⟩ := r3.cells
                go_wp2_with fail
                refine (HTA _ (HEB.out _ b3) r3).mono ?_
                rintro e W4 ⟨rfl, r4, bb⟩
                have b4 := b3.trans bb
                obtain ⟨⟨_, _, x4, _⟩, _⟩ := r4.cells
                go_wp2_with fail
                refine (HWU _ r4).mono ?_
                rintro e W5 ⟨rfl, r5, bb⟩
                have b5 := b4.trans bb
                obtain ⟨⟨_, _, x5, _⟩, _⟩ := r5.cells
                go_wp2_with fail
                refine (HTB _ (HEB.out _ b5) r5).mono ?_
                rintro e W6 ⟨z, rfl, hz, r6, bb⟩
                have b6 := b5.trans bb
                obtain ⟨⟨_, _, x6, _⟩, _⟩ := r6.cells
                go_wp2_with fail
                go_ret
                exact ⟨_, rfl, (by clear hw1; omega), r6, b6⟩
            · rw [h3] at e1
              have HNO : Hid (isNo v = true) := by
                show isNo v = true
                unfold isNo
                rw [h3]
                rfl
              clear e2
              go_enter Tryd.func20, Tryd.ntmps20
              go_wp2_with fail
              go_quiet (fail)
              have rV : ExAt (w.drewN nq) X t iv j (-1) := HX.out
              have bV : But X w (w.drewN nq) := ⟨rfl, rfl, rfl, Nat.le_refl _, fun _ _ _ => rfl⟩
              generalize w.drewN nq = V at *
              obtain ⟨⟨c0, c1, c2, c3⟩, hf⟩ := rV.cells
              have f1 := hf 1
              have r1 := ex_at rV (j + 1)
              have b1 := bV.setCell (i := 1) (.int .i64 ((j + 1 : Nat) : Int))
              clear c0 c2 c3 rV bV
              go_wp2_with fail
              refine (HP63 _).mono ?_
              rintro e W1 ⟨rfl, hw1⟩
              obtain rfl := hw1.symm
              go_wp2_with fail
              refine (HV _ (HEB.out _ b1) r1).mono ?_
              rintro e W2 ⟨rfl, r2, bb⟩
              have b2 := b1.trans bb
              obtain ⟨⟨_, _, x2, _⟩, _⟩ := r2.cells
              go_wp2_with fail
              refine (HWT _ r2).mono ?_
              rintro e W3 ⟨rfl, r3, bb⟩
              have b3 := b2.trans bb
              obtain ⟨⟨_, _, x3, _⟩, _⟩ := r3.cells
              go_wp2_with fail
              refine (HTA _ (HEB.out _ b3) r3).mono ?_
              rintro e W4 ⟨rfl, r4, bb⟩
              have b4 := b3.trans bb
              obtain ⟨⟨_, _, x4, _⟩, _⟩ := r4.cells
              go_wp2_with fail
              refine (HWU _ r4).mono ?_
              rintro e W5 ⟨rfl, r5, bb⟩
              have b5 := b4.trans bb
              obtain ⟨⟨_, _, x5, _⟩, _⟩ := r5.cells
              go_wp2_with fail
              refine (HTB _ (HEB.out _ b5) r5).mono ?_
              rintro e W6 ⟨z, rfl, hz, r6, bb⟩
              have b6 := b5.trans bb
              obtain ⟨⟨_, _, x6, _⟩, _⟩ := r6.cells
              go_wp2_with fail
              go_ret
              exact ⟨_, rfl, (by clear hw1; omega), r6, b6⟩
          | ok B q3 =>
            rw [hB] at HTB
            obtain ⟨d1', hq3, d3'⟩ := HKB B q3 hB
            have HWE := fun W h => want_any X t iv q3 ⟨#[125]⟩ W h hq3 hs (by decide)
            rw [nexts_one t q3 125, show q3 + (⟨#[125]⟩ : ByteArray).size = q3 + 1 from rfl] at HWE
            have hBl : (⟨B.toArray⟩ : ByteArray).size = B.length := List.size_toArray
            have hBb : (⟨B.toArray⟩ : ByteArray).size ≤ 4000 * (t.size - j) := by clear hw1; omega
            show Calls _ _ _ _ fun e w' => PostX X t iv (4000 * (t.size - j)) w (if nx t q3 125 then .ok (if isNo v then B else A) (q3 + 1) else .bad q3) e w'
            generalize hC : (if isNo v = true then B else A) = C
            have HC : Hid ((if isNo v = true then B else A) = C) := hC
            clear HKB hB hC
            cases hx3 : nx t q3 125
            · rw [hx3] at HWE
              simp only [Bool.false_eq_true, if_false] at HWE ⊢
              clear hx3
              cases h3 : v == []
              · rw [h3] at e1
                cases h4 : v == [48]
                · rw [h4] at e2
                  have HNO : Hid (isNo v = false) := by
                    show isNo v = false
                    unfold isNo
                    rw [h3, h4]
                    rfl
                  go_enter Tryd.func20, Tryd.ntmps20
                  go_wp2_with fail
                  go_quiet (fail)
                  have rV : ExAt (w.drewN nq) X t iv j (-1) := HX.out
                  have bV : But X w (w.drewN nq) := ⟨rfl, rfl, rfl, Nat.le_refl _, fun _ _ _ => rfl⟩
                  generalize w.drewN nq = V at *
                  obtain ⟨⟨c0, c1, c2, c3⟩, hf⟩ := rV.cells
                  have f1 := hf 1
                  have r1 := ex_at rV (j + 1)
                  have b1 := bV.setCell (i := 1) (.int .i64 ((j + 1 : Nat) : Int))
                  clear c0 c2 c3 rV bV
                  go_wp2_with fail
                  refine (HP63 _).mono ?_
                  rintro e W1 ⟨rfl, hw1⟩
                  obtain rfl := hw1.symm
                  go_wp2_with fail
                  refine (HV _ (HEB.out _ b1) r1).mono ?_
                  rintro e W2 ⟨rfl, r2, bb⟩
                  have b2 := b1.trans bb
                  obtain ⟨⟨_, _, x2, _⟩, _⟩ := r2.cells
                  go_wp2_with fail
                  refine (HWT _ r2).mono ?_
                  rintro e W3 ⟨rfl, r3, bb⟩
                  have b3 := b2.trans bb
                  obtain ⟨⟨_, _, x3, _⟩, _⟩ := r3.cells
                  go_wp2_with fail
                  refine (HTA _ (HEB.out _ b3) r3).mono ?_
                  rintro e W4 ⟨rfl, r4, bb⟩
                  have b4 := b3.trans bb
                  obtain ⟨⟨_, _, x4, _⟩, _⟩ := r4.cells
                  go_wp2_with fail
                  refine (HWU _ r4).mono ?_
                  rintro e W5 ⟨rfl, r5, bb⟩
                  have b5 := b4.trans bb
                  obtain ⟨⟨_, _, x5, _⟩, _⟩ := r5.cells
                  go_wp2_with fail
                  refine (HTB _ (HEB.out _ b5) r5).mono ?_
                  rintro e W6 ⟨rfl, r6, bb⟩
                  have b6 := b5.trans bb
                  obtain ⟨⟨_, _, x6, _⟩, _⟩ := r6.cells
                  go_wp2_with fail
                  refine (HWE _ r6).mono ?_
                  rintro e W7 ⟨rfl, r7, bb⟩
                  have b7 := b6.trans bb
                  obtain ⟨⟨_, _, x7, _⟩, _⟩ := r7.cells
                  go_wp2_with fail
                  go_ret
                  exact ⟨_, rfl, hAb, r7, b7⟩
                · rw [h4] at e2
                  have HNO : Hid (isNo v = true) := by
                    show isNo v = true
                    unfold isNo
                    rw [h3, h4]
                    rfl
                  go_enter Tryd.func20, Tryd.ntmps20
                  go_wp2_with fail
                  go_quiet (fail)
                  have rV : ExAt (w.drewN nq) X t iv j (-1) := HX.out
                  have bV : But X w (w.drewN nq) := ⟨rfl, rfl, rfl, Nat.le_refl _, fun _ _ _ => rfl⟩
                  generalize w.drewN nq = V at *
                  obtain ⟨⟨c0, c1, c2, c3⟩, hf⟩ := rV.cells
                  have f1 := hf 1
                  have r1 := ex_at rV (j + 1)
                  have b1 := bV.setCell (i := 1) (.int .i64 ((j + 1 : Nat) : Int))
                  clear c0 c2 c3 rV bV
                  go_wp2_with fail
                  refine (HP63 _).mono ?_
                  rintro e W1 ⟨rfl, hw1⟩
                  obtain rfl := hw1.symm
                  go_wp2_with fail
                  refine (HV _ (HEB.out _ b1) r1).mono ?_
                  rintro e W2 ⟨rfl, r2, bb⟩
                  have b2 := b1.trans bb
                  obtain ⟨⟨_, _, x2, _⟩, _⟩ := r2.cells
                  go_wp2_with fail
                  refine (HWT _ r2).mono ?_
                  rintro e W3 ⟨rfl, r3, bb⟩
                  have b3 := b2.trans bb
                  obtain ⟨⟨_, _, x3, _⟩, _⟩ := r3.cells
                  go_wp2_with fail
                  refine (HTA _ (HEB.out _ b3) r3).mono ?_
                  rintro e W4 ⟨rfl, r4, bb⟩
                  have b4 := b3.trans bb
                  obtain ⟨⟨_, _, x4, _⟩, _⟩ := r4.cells
                  go_wp2_with fail
                  refine (HWU _ r4).mono ?_
                  rintro e W5 ⟨rfl, r5, bb⟩
                  have b5 := b4.trans bb
                  obtain ⟨⟨_, _, x5, _⟩, _⟩ := r5.cells
                  go_wp2_with fail
                  refine (HTB _ (HEB.out _ b5) r5).mono ?_
                  rintro e W6 ⟨rfl, r6, bb⟩
                  have b6 := b5.trans bb
                  obtain ⟨⟨_, _, x6, _⟩, _⟩ := r6.cells
                  go_wp2_with fail
                  refine (HWE _ r6).mono ?_
                  rintro e W7 ⟨rfl, r7, bb⟩
                  have b7 := b6.trans bb
                  obtain ⟨⟨_, _, x7, _⟩, _⟩ := r7.cells
                  go_wp2_with fail
                  go_ret
                  exact ⟨_, rfl, hBb, r7, b7⟩
              · rw [h3] at e1
                have HNO : Hid (isNo v = true) := by
                  show isNo v = true
                  unfold isNo
                  rw [h3]
                  rfl
                clear e2
                go_enter Tryd.func20, Tryd.ntmps20
                go_wp2_with fail
                go_quiet (fail)
                have rV : ExAt (w.drewN nq) X t iv j (-1) := HX.out
                have bV : But X w (w.drewN nq) := ⟨rfl, rfl, rfl, Nat.le_refl _, fun _ _ _ => rfl⟩
                generalize w.drewN nq = V at *
                obtain ⟨⟨c0, c1, c2, c3⟩, hf⟩ := rV.cells
                have f1 := hf 1
                have r1 := ex_at rV (j + 1)
                have b1 := bV.setCell (i := 1) (.int .i64 ((j + 1 : Nat) : Int))
                clear c0 c2 c3 rV bV
                go_wp2_with fail
                refine (HP63 _).mono ?_
                rintro e W1 ⟨rfl, hw1⟩
                obtain rfl := hw1.symm
                go_wp2_with fail
                refine (HV _ (HEB.out _ b1) r1).mono ?_
                rintro e W2 ⟨rfl, r2, bb⟩
                have b2 := b1.trans bb
                obtain ⟨⟨_, _, x2, _⟩, _⟩ := r2.cells
                go_wp2_with fail
                refine (HWT _ r2).mono ?_
                rintro e W3 ⟨rfl, r3, bb⟩
                have b3 := b2.trans bb
                obtain ⟨⟨_, _, x3, _⟩, _⟩ := r3.cells
                go_wp2_with fail
                refine (HTA _ (HEB.out _ b3) r3).mono ?_
                rintro e W4 ⟨rfl, r4, bb⟩
                have b4 := b3.trans bb
                obtain ⟨⟨_, _, x4, _⟩, _⟩ := r4.cells
                go_wp2_with fail
                refine (HWU _ r4).mono ?_
                rintro e W5 ⟨rfl, r5, bb⟩
                have b5 := b4.trans bb
                obtain ⟨⟨_, _, x5, _⟩, _⟩ := r5.cells
                go_wp2_with fail
                refine (HTB _ (HEB.out _ b5) r5).mono ?_
                rintro e W6 ⟨rfl, r6, bb⟩
                have b6 := b5.trans bb
                obtain ⟨⟨_, _, x6, _⟩, _⟩ := r6.cells
                go_wp2_with fail
                refine (HWE _ r6).mono ?_
                rintro e W7 ⟨rfl, r7, bb⟩
                have b7 := b6.trans bb
                obtain ⟨⟨_, _, x7, _⟩, _⟩ := r7.cells
                go_wp2_with fail
                go_ret
                exact ⟨_, rfl, hBb, r7, b7⟩
            · rw [hx3] at HWE
              simp only [if_true] at HWE ⊢
              clear hx3
              cases h3 : v == []
              · rw [h3] at e1
                cases h4 : v == [48]
                · rw [h4] at e2
                  have HNO : Hid (isNo v = false) := by
                    show isNo v = false
                    unfold isNo
                    rw [h3, h4]
                    rfl
                  go_enter Tryd.func20, Tryd.ntmps20
                  go_wp2_with fail
                  go_quiet (fail)
                  have rV : ExAt (w.drewN nq) X t iv j (-1) := HX.out
                  have bV : But X w (w.drewN nq) := ⟨rfl, rfl, rfl, Nat.le_refl _, fun _ _ _ => rfl⟩
                  generalize w.drewN nq = V at *
                  obtain ⟨⟨c0, c1, c2, c3⟩, hf⟩ := rV.cells
                  have f1 := hf 1
                  have r1 := ex_at rV (j + 1)
                  have b1 := bV.setCell (i := 1) (.int .i64 ((j + 1 : Nat) : Int))
                  clear c0 c2 c3 rV bV
                  go_wp2_with fail
                  refine (HP63 _).mono ?_
                  rintro e W1 ⟨rfl, hw1⟩
                  obtain rfl := hw1.symm
                  go_wp2_with fail
                  refine (HV _ (HEB.out _ b1) r1).mono ?_
                  rintro e W2 ⟨rfl, r2, bb⟩
                  have b2 := b1.trans bb
                  obtain ⟨⟨_, _, x2, _⟩, _⟩ := r2.cells
                  go_wp2_with fail
                  refine (HWT _ r2).mono ?_
                  rintro e W3 ⟨rfl, r3, bb⟩
                  have b3 := b2.trans bb
                  obtain ⟨⟨_, _, x3, _⟩, _⟩ := r3.cells
                  go_wp2_with fail
                  refine (HTA _ (HEB.out _ b3) r3).mono ?_
                  rintro e W4 ⟨rfl, r4, bb⟩
                  have b4 := b3.trans bb
                  obtain ⟨⟨_, _, x4, _⟩, _⟩ := r4.cells
                  go_wp2_with fail
                  refine (HWU _ r4).mono ?_
                  rintro e W5 ⟨rfl, r5, bb⟩
                  have b5 := b4.trans bb
                  obtain ⟨⟨_, _, x5, _⟩, _⟩ := r5.cells
                  go_wp2_with fail
                  refine (HTB _ (HEB.out _ b5) r5).mono ?_
                  rintro e W6 ⟨rfl, r6, bb⟩
                  have b6 := b5.trans bb
                  obtain ⟨⟨_, _, x6, _⟩, _⟩ := r6.cells
                  go_wp2_with fail
                  refine (HWE _ r6).mono ?_
                  rintro e W7 ⟨rfl, r7, bb⟩
                  have b7 := b6.trans bb
                  obtain ⟨⟨_, _, x7, _⟩, _⟩ := r7.cells
                  go_wp2_with fail
                  go_ret
                  exact ⟨by rw [← HC.out, HNO.out]; rfl, r7, b7⟩
                · rw [h4] at e2
                  have HNO : Hid (isNo v = true) := by
                    show isNo v = true
                    unfold isNo
                    rw [h3, h4]
                    rfl
                  go_enter Tryd.func20, Tryd.ntmps20
                  go_wp2_with fail
                  go_quiet (fail)
                  have rV : ExAt (w.drewN nq) X t iv j (-1) := HX.out
                  have bV : But X w (w.drewN nq) := ⟨rfl, rfl, rfl, Nat.le_refl _, fun _ _ _ => rfl⟩
                  generalize w.drewN nq = V at *
                  obtain ⟨⟨c0, c1, c2, c3⟩, hf⟩ := rV.cells
                  have f1 := hf 1
                  have r1 := ex_at rV (j + 1)
                  have b1 := bV.setCell (i := 1) (.int .i64 ((j + 1 : Nat) : Int))
                  clear c0 c2 c3 rV bV
                  go_wp2_with fail
                  refine (HP63 _).mono ?_
                  rintro e W1 ⟨rfl, hw1⟩
                  obtain rfl := hw1.symm
                  go_wp2_with fail
                  refine (HV _ (HEB.out _ b1) r1).mono ?_
                  rintro e W2 ⟨rfl, r2, bb⟩
                  have b2 := b1.trans bb
                  obtain ⟨⟨_, _, x2, _⟩, _⟩ := r2.cells
                  go_wp2_with fail
                  refine (HWT _ r2).mono ?_
                  rintro e W3 ⟨rfl, r3, bb⟩
                  have b3 := b2.trans bb
                  obtain ⟨⟨_, _, x3, _⟩, _⟩ := r3.cells
                  go_wp2_with fail
                  refine (HTA _ (HEB.out _ b3) r3).mono ?_
                  rintro e W4 ⟨rfl, r4, bb⟩
                  have b4 := b3.trans bb
                  obtain ⟨⟨_, _, x4, _⟩, _⟩ := r4.cells
                  go_wp2_with fail
                  refine (HWU _ r4).mono ?_
                  rintro e W5 ⟨rfl, r5, bb⟩
                  have b5 := b4.trans bb
                  obtain ⟨⟨_, _, x5, _⟩, _⟩ := r5.cells
                  go_wp2_with fail
                  refine (HTB _ (HEB.out _ b5) r5).mono ?_
                  rintro e W6 ⟨rfl, r6, bb⟩
                  have b6 := b5.trans bb
                  obtain ⟨⟨_, _, x6, _⟩, _⟩ := r6.cells
                  go_wp2_with fail
                  refine (HWE _ r6).mono ?_
                  rintro e W7 ⟨rfl, r7, bb⟩
                  have b7 := b6.trans bb
                  obtain ⟨⟨_, _, x7, _⟩, _⟩ := r7.cells
                  go_wp2_with fail
                  go_ret
                  exact ⟨by rw [← HC.out, HNO.out]; rfl, r7, b7⟩
              · rw [h3] at e1
                have HNO : Hid (isNo v = true) := by
                  show isNo v = true
                  unfold isNo
                  rw [h3]
                  rfl
                clear e2
                go_enter Tryd.func20, Tryd.ntmps20
                go_wp2_with fail
                go_quiet (fail)
                have rV : ExAt (w.drewN nq) X t iv j (-1) := HX.out
                have bV : But X w (w.drewN nq) := ⟨rfl, rfl, rfl, Nat.le_refl _, fun _ _ _ => rfl⟩
                generalize w.drewN nq = V at *
                obtain ⟨⟨c0, c1, c2, c3⟩, hf⟩ := rV.cells
                have f1 := hf 1
                have r1 := ex_at rV (j + 1)
                have b1 := bV.setCell (i := 1) (.int .i64 ((j + 1 : Nat) : Int))
                clear c0 c2 c3 rV bV
                go_wp2_with fail
                refine (HP63 _).mono ?_
                rintro e W1 ⟨rfl, hw1⟩
                obtain rfl := hw1.symm
                go_wp2_with fail
                refine (HV _ (HEB.out _ b1) r1).mono ?_
                rintro e W2 ⟨rfl, r2, bb⟩
                have b2 := b1.trans bb
                obtain ⟨⟨_, _, x2, _⟩, _⟩ := r2.cells
                go_wp2_with fail
                refine (HWT _ r2).mono ?_
                rintro e W3 ⟨rfl, r3, bb⟩
                have b3 := b2.trans bb
                obtain ⟨⟨_, _, x3, _⟩, _⟩ := r3.cells
                go_wp2_with fail
                refine (HTA _ (HEB.out _ b3) r3).mono ?_
                rintro e W4 ⟨rfl, r4, bb⟩
                have b4 := b3.trans bb
                obtain ⟨⟨_, _, x4, _⟩, _⟩ := r4.cells
                go_wp2_with fail
                refine (HWU _ r4).mono ?_
                rintro e W5 ⟨rfl, r5, bb⟩
                have b5 := b4.trans bb
                obtain ⟨⟨_, _, x5, _⟩, _⟩ := r5.cells
                go_wp2_with fail
                refine (HTB _ (HEB.out _ b5) r5).mono ?_
                rintro e W6 ⟨rfl, r6, bb⟩
                have b6 := b5.trans bb
                obtain ⟨⟨_, _, x6, _⟩, _⟩ := r6.cells
                go_wp2_with fail
                refine (HWE _ r6).mono ?_
                rintro e W7 ⟨rfl, r7, bb⟩
                have b7 := b6.trans bb
                obtain ⟨⟨_, _, x7, _⟩, _⟩ := r7.cells
                go_wp2_with fail
                go_ret
                exact ⟨by rw [← HC.out, HNO.out]; rfl, r7, b7⟩
end Fmt
end Go.Proofs.YtbhoklhcdefabaaDoor
