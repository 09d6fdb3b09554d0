/- Package format: bytes, and all that stands within them: the whole reader. -/
import Derived.Test.YtbhoklhcdefabaaDoorFmtItem
import Derived.Test.YtbhoklhcdefabaaDoorShelfWrite
namespace Go.Proofs.YtbhoklhcdefabaaDoor
open Go.ChangeShapes Go.WideShapes Go.ChangeAt Go.RowKit Go.Maps Go.Sort
namespace Fmt
/-- A builder stands as it stood while another block has turned. -/
theorem builder_but {T e : TypeId} {B b R : Nat} {bs : List Value} {w w' : World} (h : Lib.IsBuilderF T e B b bs w) (hb : But R w w') (hR : R < B) : Lib.IsBuilderF T e B b bs w' := by
  have key : ∀ p, Lib.BuilderAtF T e B b p bs w → Lib.BuilderAtF T e B b p bs w' := by
    rintro p ⟨hB, v, hh, hown, hne⟩
    refine ⟨hB, v, by rw [hb.block b (Array.getElem?_eq_some_iff.1 hh).1 (by omega)]; exact hh, ⟨hown.1, ?_⟩, hne⟩
    rcases hown.2 with hn | ⟨g, cap, cur, fz, hv, hbg, hg, rest⟩
    · exact .inl hn
    · exact .inr ⟨g, cap, cur, fz, hv, hbg, by rw [hb.block g (Array.getElem?_eq_some_iff.1 hg).1 (by omega)]; exact hg, rest⟩
  exact h.elim (fun x => .inl (key _ x)) (fun x => .inr (key _ x))
theorem But.low {R : Nat} {w V W : World} (h : But R w V) (b : Below w.heap.size V W) : But R w W :=
  ⟨b.os.trans h.os, b.tape.trans h.tape, b.output.trans h.output, Nat.le_trans h.size b.size, fun i hi hne => (b.block i hi).trans (h.block i hi hne)⟩
theorem end_index (k : Nat) (c : UInt8) : decide (Lib.indexByte (ends k).data.toList c < 0) = !isEnd k c := by
  match k with
  | 0 => rfl
  | 1 =>
    show decide (Lib.indexByte [44, 125] c < 0) = !(c == 44 || c == 125)
    unfold Lib.indexByte Lib.indexByte Lib.indexByte
    rw [show ((44 : UInt8) == c) = (c == 44) from by rw [Bool.eq_iff_iff, beq_iff_eq, beq_iff_eq]; exact eq_comm, show ((125 : UInt8) == c) = (c == 125) from by rw [Bool.eq_iff_iff, beq_iff_eq, beq_iff_eq]; exact eq_comm]
    cases c == 44 <;> cases c == 125 <;> rfl
  | k + 2 =>
    show decide (Lib.indexByte [125] c < 0) = !(c == 125)
    unfold Lib.indexByte Lib.indexByte
    rw [show ((125 : UInt8) == c) = (c == 125) from by rw [Bool.eq_iff_iff, beq_iff_eq, beq_iff_eq]; exact eq_comm]
    cases c == 125 <;> rfl
theorem u8_self (c : UInt8) : ((c.toNat : Int)).toNat.toUInt8 = c := by
  rw [Int.toNat_natCast]
  exact UInt8.ofNat_toNat
theorem one_cell (c : UInt8) : Lib.byteCells [c] = [Value.int .u8 c.toNat] := rfl
theorem pre_ok (a : List UInt8) (p : Nat) : (Res.ok [] p).pre a = .ok a p := by simp [Res.pre]
set_option maxHeartbeats 16000000 in
set_option maxRecDepth 100000 in
theorem bytes_step (w0 : World) (R : Nat) (t : ByteArray) (iv : Value) (I : List (ByteArray × ByteArray)) (E : Env w0 R iv I) (hs : t.size ≤ 4000) (G : Nat) (ih : ∀ g, g < G → BytesOk w0 R t iv I g) : BytesOk w0 R t iv I G := by
  intro d k p w hb hr hp hG hd
  have hRw : R < w.heap.size := (Array.getElem?_eq_some_iff.1 hr).1
  have HEB : Hid (∀ W, But R w W → Below w0.heap.size w0 W) := fun W h => E.but hb h
  have kA := own_of_below (w := w) (.cells #[.pointer none, .slice none 0 0] 56)
  have HI0 : Hid (Lib.IsBuilderF 56 5 w.heap.size w.heap.size (Lib.byteCells []) (w.alloc (.cells #[.pointer none, .slice none 0 0] 56))) := Lib.IsBuilderF.of (Lib.fresh_isBuilder 56 5 w)
  have HR0 : Hid (RdAt (w.alloc (.cells #[.pointer none, .slice none 0 0] 56)) R t iv p d) := hr.below kA
  have HB0 : Hid (But R w (w.alloc (.cells #[.pointer none, .slice none 0 0] 56))) := But.of_below kA
  obtain ⟨RS, hRS⟩ : ∃ RS, tx t I G d k p = RS := ⟨_, rfl⟩
  rw [hRS]
  have HRS : Hid (tx t I G d k p = RS) := hRS
  have HS0 : Hid (w.heap.size < (w.alloc (.cells #[.pointer none, .slice none 0 0] 56)).heap.size) := by
    show _ < _
    rw [World.size_alloc]
    omega
  clear hr hb kA hRS
  go_enter Tryd.func34, Tryd.ntmps34
  go_wp2_with fail
  go_loopg [] (t.size + 1) (fun g9 wr => ∃ (g q : Nat) (made : List UInt8), Lib.IsBuilderF 56 5 w.heap.size w.heap.size (Lib.byteCells made) wr ∧ RdAt wr R t iv q d ∧ But R w wr ∧ w.heap.size < wr.heap.size ∧ q ≤ t.size ∧ t.size - q < g ∧ g ≤ G ∧ t.size - q < g9 ∧ made.length ≤ 4000 * q ∧ (tx t I g d k q).pre made = RS)
  case atStart => exact ⟨G, p, [], HI0.out, HR0.out, HB0.out, HS0.out, hp, hG, Nat.le_refl _, by omega, by simp, by rw [Res.pre_nil]; exact HRS.out⟩
  case round =>
    obtain ⟨g, q, made, hI, hrr, hbt, hsz, hqs, hgq, hgG, hg9, hml, htx⟩ := hrel
    obtain ⟨g, rfl⟩ : ∃ g', g = g' + 1 := ⟨g - 1, by omega⟩
    obtain ⟨⟨c0, c1, c2, c3⟩, hf⟩ := hrr.cells
    have g0 := fun d os => cell_regrown c0 d os
    have g2 := fun d os => cell_regrown c2 d os
    have HRR : Hid (RdAt wr R t iv q d) := hrr
    have HBT : Hid (But R w wr) := hbt
    have HII : Hid (Lib.IsBuilderF 56 5 w.heap.size w.heap.size (Lib.byteCells made) wr) := hI
    have HTX : Hid ((tx t I (g + 1) d k q).pre made = RS) := htx
    have HML : Hid (made.length ≤ 16000000) := by
      show _ ≤ _
      omega
    have iq0 : (0 : Int) ≤ (q : Int) := Int.natCast_nonneg _
    clear hrr hbt hI htx HI0 HR0 HB0 HRS HS0
    by_cases hlt : q < t.size
    · have iq : (q : Int) < (t.size : Int) := Int.ofNat_lt.2 hlt
      have iqd : decide ((q : Int) < (t.size : Int)) = true := decide_eq_true iq
      have iqe : decide (q < t.size) = true := decide_eq_true hlt
      have HX := fun W => Tryd.strings_IndexByte (ends k) ((t[q]'hlt).toNat : Int) W
      rw [u8_self] at HX
      have hei := end_index k (t[q]'hlt)
      have HT : Hid (tx t I (g + 1) d k q = if isEnd k (t[q]'hlt) then .ok [] q else if nx t q 35 && nx t (q + 1) 35 then (tx t I g d k (q + 2)).pre [35] else if nx t q 35 && nx t (q + 1) 123 then (match itm (tx t I g) t I d q with | .bad q => .bad q | .ok o q => (tx t I g d k q).pre o) else (tx t I g d k (q + 1)).pre [t[q]'hlt]) := by
        show _ = _
        rw [tx, dif_pos hlt]
        rfl
      generalize hix : Lib.indexByte (ends k).data.toList (t[q]'hlt) = ix at *
      have K1 : Hid (∀ d os, Calls Tryd.prog 17 #[.string (ends k), .int .u8 (t[q]'hlt).toNat] (grow (redrawn wr d) os) fun e w'' => e = .returned (.int .i64 ix) ∧ ∃ p : Regrown, w'' = grow (redrawn wr p.d) p.os) := fun d os => Calls.regrown_of ((HX _).mono fun e w' ⟨h1, h2⟩ => ⟨h1, by rw [h2]; exact Below.refl _ _⟩)
      clear HX hix
      cases hie : isEnd k (t[q]'hlt)
      · rw [hie] at hei HT
        have ie : ix < 0 := of_decide_eq_true hei
        go_wp2_with fail
        refine wp_region_quiet_below (by kernel_rfl) (by kernel_rfl) ?_
        repeat (first | go_big_quiet_skip | quiet_step (first | (go_at_call 17; exact K1.out _ _)))
        refine wpQuiet_nil ?_
        intro _ hw'
        obtain ⟨⟨dq, os⟩, hw''⟩ := hw'
        subst hw''
        have kR := below_regrown wr dq os
        have rV := HRR.out.below kR
        have bV := HBT.out.trans (But.of_below kR)
        have iV := builder_but HII.out (But.of_below (M := R) kR) hRw
        have sV := Nat.lt_of_lt_of_le hsz kR.size
        clear g0 g2 c0 c1 c2 c3 hf kR HRR HBT HII hsz
        generalize grow (redrawn wr dq) os = V at *
        obtain ⟨⟨c0, c1, c2, c3⟩, hf⟩ := rV.cells
        have f2 := hf 2
        have HT1 := took_any R t iv q d ⟨#[35, 35]⟩ V rV hqs hs (by decide)
        rw [nexts_two, show q + (⟨#[35, 35]⟩ : ByteArray).size = q + 2 from rfl] at HT1
        have HWB := fun (m : List UInt8) (c : UInt8) (hm : m.length ≤ 16000000) W (h : Lib.IsBuilderF 56 5 w.heap.size w.heap.size (Lib.byteCells m) W) (hz : w.heap.size ≤ W.heap.size) => Tryd.Builder_WriteByte_k w.heap.size w.heap.size (Lib.byteCells m) (c.toNat : Int) W h (by rw [Lib.byteCells_length]; omega) hz
        have HSV : Hid (w.heap.size < V.heap.size) := sV
        have HIV : Hid (Lib.IsBuilderF 56 5 w.heap.size w.heap.size (Lib.byteCells made) V) := iV
        clear c0 c1 c2 c3 hf f2 rV iV sV hei ie hie
        simp only [Bool.false_eq_true, if_false] at HT
        cases h1 : (nx t q 35 && nx t (q + 1) 35)
        · rw [h1] at HT1 HT
          simp only [Bool.false_eq_true, if_false] at HT1 HT
          go_wp2_with fail
          refine HT1.mono ?_
          rintro e W1 ⟨rfl, r1, b1⟩
          have HS2 := sees_any R t iv q d ⟨#[35, 123]⟩ W1 r1 hqs
          rw [nexts_two] at HS2
          have bW := bV.trans b1
          have i1 := builder_but HIV.out b1 hRw
          have s1 := Nat.lt_of_lt_of_le HSV.out b1.size
          clear HT1 b1
          cases h2 : (nx t q 35 && nx t (q + 1) 123)
          · rw [h2] at HS2 HT
            simp only [Bool.false_eq_true, if_false] at HT
            have HTN : Hid ((tx t I g d k (q + 1)).pre (made ++ [t[q]'hlt]) = RS) := by
              show _ = _
              rw [← Res.pre_pre, ← HT.out]
              exact HTX.out
            clear HT HTX
            go_wp2_with fail
            refine HS2.mono ?_
            rintro e W2 ⟨rfl, b2⟩
            have r2 := r1.below b2
            have bX := bW.trans (But.of_below b2)
            have i2 := builder_but i1 (But.of_below (M := R) b2) hRw
            have s2 := Nat.lt_of_lt_of_le s1 b2.size
            have iD : Lib.IsBuilderF 56 5 w.heap.size w.heap.size (Lib.byteCells made) W2.drew := builder_but i2 (But.of_below (M := R) ((Below.refl _ _).drew)) hRw
            have rD : RdAt W2.drew R t iv q d := r2
            have HBX : Hid (But R w W2) := bX
            have HRD : Hid (RdAt W2 R t iv q d) := r2
            have HWD := HWB made (t[q]'hlt) HML.out _ iD (Nat.le_of_lt s2)
            obtain ⟨⟨c0, c1, c2, c3⟩, hf⟩ := r2.cells
            have e0 : W2.drew.cell? ⟨R, 0, none⟩ = some (.string t) := c0
            have e2 : W2.drew.cell? ⟨R, 2, none⟩ = some (.int .i64 q) := c2
            have hw1 : wrap64 ((q : Int) + 1) = ((q + 1 : Nat) : Int) := by unfold wrap64; omega
            clear HS2 b2 r1 i1 s1 bW i2 HWB bX r2 rD c1 c3 HIV HSV
            go_upto_region 3 with fail
            go_region_with (go_at_call 48; refine HWD.mono ?_; rintro e W3 ⟨rfl, hB, b3, k3⟩)
            all_goals
              have i4 : Lib.IsBuilderF 56 5 w.heap.size w.heap.size (Lib.byteCells (made ++ [t[q]'hlt])) W3 := by
                rw [Lib.byteCells_append, one_cell]
                exact Or.inr hB
              have b4 : But R w W3 := HBX.out.low ⟨b3.os, b3.tape, b3.output, b3.size, b3.block⟩
              have r4 : RdAt W3 R t iv q d := (b3.block _ hRw).trans HRD.out
              have s4 : w.heap.size < W3.heap.size := Nat.lt_of_lt_of_le s2 b3.size
              obtain ⟨⟨x0, x1, x2, x3⟩, hfx⟩ := r4.cells
              have y2 : W3.drew.cell? ⟨R, 2, none⟩ = some (.int .i64 q) := x2
              have f2 := hfx 2
              have r5 := rd_at r4 (q + 1)
              have b5 := b4.setCell (i := 2) (.int .i64 ((q + 1 : Nat) : Int))
              have i5 := builder_but i4 ((But.refl R W3).setCell (i := 2) (.int .i64 ((q + 1 : Nat) : Int))) hRw
              have s5 : w.heap.size < (W3.setCell ⟨R, 2, none⟩ (.int .i64 ((q + 1 : Nat) : Int))).heap.size := Nat.lt_of_lt_of_le s4 ((But.refl R W3).setCell (i := 2) (.int .i64 ((q + 1 : Nat) : Int))).size
              clear hB b3 k3 x0 x1 x3 i4 b4 r4 s4 c0 c2 e0 e2 HWD iD
              go_wp2_with fail
              clear hw1
              go_roundg (t.size - q)
              case measure => omega
              case rel => exact ⟨g, q + 1, made ++ [t[q]'hlt], i5, r5, b5, s5, by omega, by omega, by omega, by omega, by rw [List.length_append, List.length_singleton]; omega, HTN.out⟩
          · rw [h2] at HS2 HT
            simp only [if_true] at HT
            have HIT := fun W hW h => item_any w0 R t iv q d g I W E hW h hs hd (by omega) h2 (ih g (by omega))
            have hq2 := nx_lt (Bool.and_eq_true _ _ ▸ h2 : nx t q 35 = true ∧ nx t (q + 1) 123 = true).2
            have HKI := itm_keeps E.sz (tx t I g) d q (by omega) (fun k' j h3 h4 => tx_keeps (t := t) E.sz g (d + 1) k' j h4 (by omega))
            cases hit : itm (tx t I g) t I d q with
            | bad q1 =>
              rw [hit] at HIT HT
              have hR : RS = .bad q1 := by
                rw [← HTX.out, HT.out]
                rfl
              subst hR
              clear HT HTX HKI hit HWB
              go_wp2_with fail
              refine HS2.mono ?_
              rintro e W2 ⟨rfl, b2⟩
              have r2 := r1.below b2
              have bX := bW.trans (But.of_below b2)
              clear HS2
              go_wp2_with fail
              refine (HIT _ (HEB.out _ bX) r2).mono ?_
              rintro e W3 ⟨rfl, b3⟩
              go_wp2_with fail
              exact ⟨rfl, rfl, bX.trans b3⟩
            | ok o q1 =>
              rw [hit] at HIT HT
              obtain ⟨a1, a2, a3⟩ := HKI o q1 hit
              have HTN : Hid ((tx t I g d k q1).pre (made ++ o) = RS) := by
                show _ = _
                rw [← Res.pre_pre, ← HTX.out, HT.out]
              have hol : (⟨o.toArray⟩ : ByteArray).size = o.length := List.size_toArray
              have HWS := fun W (h : Lib.IsBuilderF 56 5 w.heap.size w.heap.size (Lib.byteCells made) W) (hz : w.heap.size ≤ W.heap.size) => Tryd.Builder_WriteString_k w.heap.size w.heap.size (Lib.byteCells made) ⟨o.toArray⟩ W h (by rw [Lib.byteCells_length]; have := HML.out; omega) hz
              clear HT HTX HKI hit HWB
              go_wp2_with fail
              refine HS2.mono ?_
              rintro e W2 ⟨rfl, b2⟩
              have r2 := r1.below b2
              have bX := bW.trans (But.of_below b2)
              have i2 := builder_but i1 (But.of_below (M := R) b2) hRw
              have s2 := Nat.lt_of_lt_of_le s1 b2.size
              clear HS2
              go_wp2_with fail
              refine (HIT _ (HEB.out _ bX) r2).mono ?_
              rintro e W3 ⟨rfl, r3, b3⟩
              have bY := bX.trans b3
              have i3 := builder_but i2 b3 hRw
              have s3 := Nat.lt_of_lt_of_le s2 b3.size
              clear HIT
              go_wp2_with fail
              refine (HWS _ i3 (Nat.le_of_lt s3)).mono ?_
              rintro e W4 ⟨rfl, hB, b4, k4⟩
              have i5 : Lib.IsBuilderF 56 5 w.heap.size w.heap.size (Lib.byteCells (made ++ o)) W4 := by
                rw [Lib.byteCells_append]
                have : Lib.strCells ⟨o.toArray⟩ = Lib.byteCells o := by rw [Lib.strCells_eq]
                rw [← this]
                exact Or.inr hB
              have b5 := bY.low b4
              have r5 : RdAt W4 R t iv q1 d := (b4.block _ hRw).trans r3
              have s5 := Nat.lt_of_lt_of_le s3 b4.size
              clear HWS hB k4
              go_wp2_with fail
              go_roundg (t.size - q)
              case measure => omega
              case rel => exact ⟨g, q1, made ++ o, i5, r5, b5, s5, a2, by omega, by omega, by omega, by rw [List.length_append]; omega, HTN.out⟩
        · rw [h1] at HT1 HT
          simp only [if_true] at HT1 HT
          have hq2 := nx_lt (Bool.and_eq_true _ _ ▸ h1 : nx t q 35 = true ∧ nx t (q + 1) 35 = true).2
          have HTN : Hid ((tx t I g d k (q + 2)).pre (made ++ [35]) = RS) := by
            show _ = _
            rw [← Res.pre_pre, ← HT.out]
            exact HTX.out
          have HWD := fun W h hz => HWB made 35 HML.out W h hz
          rw [show ((35 : UInt8).toNat : Int) = 35 from rfl] at HWD
          clear HT HTX HWB
          go_wp2_with fail
          refine HT1.mono ?_
          rintro e W1 ⟨rfl, r1, b1⟩
          have bW := bV.trans b1
          have i1 := builder_but HIV.out b1 hRw
          have s1 := Nat.lt_of_lt_of_le HSV.out b1.size
          clear HT1 b1
          go_wp2_with fail
          refine (HWD _ i1 (Nat.le_of_lt s1)).mono ?_
          rintro e W3 ⟨rfl, hB, b3, k3⟩
          have i5 : Lib.IsBuilderF 56 5 w.heap.size w.heap.size (Lib.byteCells (made ++ [35])) W3 := by
            rw [Lib.byteCells_append, one_cell]
            exact Or.inr hB
          have b5 := bW.low b3
          have r5 : RdAt W3 R t iv (q + 2) d := (b3.block _ hRw).trans r1
          have s5 := Nat.lt_of_lt_of_le s1 b3.size
          clear HWD hB k3
          go_wp2_with fail
          go_roundg (t.size - q)
          case measure => omega
          case rel => exact ⟨g, q + 2, made ++ [35], i5, r5, b5, s5, by omega, by omega, by omega, by omega, by rw [List.length_append, List.length_singleton]; omega, HTN.out⟩
      · rw [hie] at hei HT
        have ie : ¬ ix < 0 := of_decide_eq_false hei
        have hR : RS = .ok made q := by
          rw [← HTX.out, HT.out]
          exact pre_ok made q
        subst hR
        clear HT HTX hie hei
        go_wp2_with fail
        refine wp_region_quiet_below (by kernel_rfl) (by kernel_rfl) ?_
        repeat (first | go_big_quiet_skip | quiet_step (first | (go_at_call 17; exact K1.out _ _)))
        refine wpQuiet_nil ?_
        intro _ hw'
        obtain ⟨⟨dq, os⟩, hw''⟩ := hw'
        subst hw''
        have kR := below_regrown wr dq os
        have rV := HRR.out.below kR
        have bV := HBT.out.trans (But.of_below kR)
        have iV := builder_but HII.out (But.of_below (M := R) kR) hRw
        have sV := Nat.lt_of_lt_of_le hsz kR.size
        clear g0 g2 c0 c1 c2 c3 hf kR HRR HBT HII hsz
        generalize grow (redrawn wr dq) os = V at *
        obtain ⟨⟨c0, c1, c2, c3⟩, hf⟩ := rV.cells
        have f2 := hf 2
        have HST := Tryd.Builder_String_any_k w.heap.size w.heap.size made V iV (by omega)
        clear c0 c1 c2 c3 hf
        go_wp2_with fail
        refine HST.mono ?_
        rintro e W ⟨rfl, _, b1, _⟩
        have r1 : RdAt W R t iv q d := (b1.block _ hRw).trans rV
        have b2 : But R w W := bV.low b1
        go_wp2_with fail
        go_ret
        exact ⟨rfl, r1, b2⟩
    · have iq : ¬ (q : Int) < (t.size : Int) := fun h => hlt (Int.ofNat_lt.1 h)
      have iqd : decide ((q : Int) < (t.size : Int)) = false := decide_eq_false iq
      have iqe : decide (q < t.size) = false := decide_eq_false hlt
      have hR : RS = .ok made q := by
        rw [← HTX.out, tx, dif_neg hlt]
        exact pre_ok made q
      subst hR
      clear HTX
      go_wp2_with fail
      refine wp_region_quiet_below (by kernel_rfl) (by kernel_rfl) ?_
      repeat (first | go_big_quiet_skip | quiet_step (first | (go_at_call 17; fail)))
      refine wpQuiet_nil ?_
      intro _ hw'
      obtain ⟨⟨dq, os⟩, hw''⟩ := hw'
      subst hw''
      have kR := below_regrown wr dq os
      have rV := HRR.out.below kR
      have bV := HBT.out.trans (But.of_below kR)
      have iV := builder_but HII.out (But.of_below (M := R) kR) hRw
      have sV := Nat.lt_of_lt_of_le hsz kR.size
      clear g0 g2 c0 c1 c2 c3 hf kR HRR HBT HII hsz
      generalize grow (redrawn wr dq) os = V at *
      obtain ⟨⟨c0, c1, c2, c3⟩, hf⟩ := rV.cells
      have f2 := hf 2
      have HST := Tryd.Builder_String_any_k w.heap.size w.heap.size made V iV (by omega)
      clear c0 c1 c2 c3 hf
      go_wp2_with fail
      refine HST.mono ?_
      rintro e W ⟨rfl, _, b1, _⟩
      have r1 : RdAt W R t iv q d := (b1.block _ hRw).trans rV
      have b2 : But R w W := bV.low b1
      go_wp2_with fail
      go_ret
      exact ⟨rfl, r1, b2⟩
/-- The whole reader, with any fuel. -/
theorem bytes_any (w0 : World) (R : Nat) (t : ByteArray) (iv : Value) (I : List (ByteArray × ByteArray)) (E : Env w0 R iv I) (hs : t.size ≤ 4000) (G : Nat) : BytesOk w0 R t iv I G := by
  induction G using Nat.strongRecOn with
  | _ G ih => exact bytes_step w0 R t iv I E hs G ih
end Fmt
end Go.Proofs.YtbhoklhcdefabaaDoor
