/- Package copying: between. (Written by gen_cpybet.py.) -/
import Derived.Test.YtlodmffiengnaaaDoorPartE
import Derived.Deep.MidRow
import Derived.Test.YtlodmffiengnaaaDoorPartF
import Derived.Test.YtlodmffiengnaaaDoorPartH
namespace Go.Proofs.YtlodmffiengnaaaDoor
open Go.ChangeShapes Go.WideShapes Go.ChangeAt Go.RowKit Go.Maps Go.Sort
namespace Cpy
open Txt (runes rn wd spotsL colsL cleanL bs okRune Tab wideL wideS)
theorem info_st : (Tryd.prog.info? 9).map (fun i => (i.zero, i.size, i.bytes)) = some (some (.string ByteArray.empty), 1, 16) := by kernel_rfl
theorem und_st : Tryd.prog.underlying 22 = some (.slice 9) := by kernel_rfl
theorem below_drewN (W : World) (k : Nat) : Below W.heap.size W (W.drewN k) := ⟨rfl, rfl, rfl, Nat.le_refl _, fun _ _ => rfl⟩
theorem joinTail_le (B : Nat) : ∀ (r : List (List UInt8)), (∀ x ∈ r, x.length ≤ B) → (Lib.joinTail [10] r).length ≤ r.length * (B + 1)
  | [], _ => by simp [Lib.joinTail]
  | x :: t, h => by
    have ih := joinTail_le B t (fun y hy => h y (List.mem_cons_of_mem _ hy))
    have hx := h x (List.mem_cons_self ..)
    unfold Lib.joinTail at ih ⊢
    rw [List.map_cons, List.flatten_cons, List.length_append, List.length_cons, Nat.succ_mul]
    simp only [List.length_append, List.length_singleton]
    omega
theorem join_le (xs : List ByteArray) (B : Nat) (h : ∀ s ∈ xs, s.size ≤ B) : (Lib.join (xs.map (·.data.toList)) [10]).length ≤ xs.length * (B + 1) := by
  cases xs with
  | nil => simp [Lib.join, List.intercalate]
  | cons x t =>
    have ht := joinTail_le B (t.map (·.data.toList)) (fun y hy => by
      obtain ⟨z, hz, rfl⟩ := List.mem_map.1 hy
      have := h z (List.mem_cons_of_mem _ hz)
      simpa using this)
    have hx := h x (List.mem_cons_self ..)
    rw [List.map_cons, Lib.join_cons, List.length_append, List.length_cons, Nat.succ_mul]
    rw [List.length_map] at ht
    have : x.data.toList.length = x.size := Array.length_toList
    omega
theorem partsM_size {L : List ByteArray} {ax : Int} {ay : Nat} {bx : Int} {cy n : Nat} {s : ByteArray} (hs : s ∈ partsM L ax ay bx cy n) (hL : ∀ y, (ln L y).size ≤ 4000) : s.size ≤ 16000 := by
  unfold partsM at hs
  obtain ⟨i, _, rfl⟩ := List.mem_map.1 hs
  have h1 := runesBytes_size_le (partM L ax ay bx cy (ay + i))
  have h2 : (partM L ax ay bx cy (ay + i)).length ≤ (sp (ln L (ay + i))).length := by
    unfold partM
    rw [List.length_take, List.length_drop, List.length_map]
    omega
  have h3 := sp_len (ln L (ay + i))
  have h4 := hL (ay + i)
  omega
theorem sub_zero_of {a b c : Nat} (h1 : a ≤ b) (h2 : b ≤ c) (h : c = a) : b - a = 0 := by omega
theorem w64_nat {n : Nat} (h : n ≤ 1000000) : wrap64 (n : Int) = (n : Int) := by unfold wrap64; omega
/-- What stands as it stood while parts are gathered. -/
structure BInv (w : World) (ax ay bx cy : Int) (u : Value) (ps : List ByteArray) (V : World) : Prop where
  kb : Below w.heap.size w V
  a : V.heap[w.heap.size]? = some (.cells #[.int .i64 ax, .int .i64 ay] 24 (0, 0))
  b : V.heap[w.heap.size + 1]? = some (.cells #[.int .i64 bx, .int .i64 cy] 24 (0, 0))
  own : V.ownsRow (w.heap.size + 2) 9 1 u ps.length (ps.map Value.string)
theorem BInv.below {w : World} {ax ay bx cy : Int} {u : Value} {ps : List ByteArray} {V V' : World} (h : BInv w ax ay bx cy u ps V) (hb : Below V.heap.size V V') : BInv w ax ay bx cy u ps V' :=
  ⟨h.kb.trans (hb.mono h.kb.size), kept h.a hb, kept h.b hb, Txt.own_below h.own hb⟩
theorem CK.grown {w a b : World} {row : Option Nat} (h : CK w a) (hg : a.grownBy b row) (hf : ∀ k, row = some k → w.heap.size ≤ k) : CK w b := by
  intro x o v hv
  have hlt := lt_of_cell hv
  have h2 := h x o v hv
  have e := hg.block x (lt_of_cell h2) (by intro e; have := hf x e.symm; omega)
  unfold World.cell? at h2 ⊢
  simp only [e]
  exact h2
theorem BInv.size {w : World} {ax ay bx cy : Int} {u : Value} {ps : List ByteArray} {V : World} (h : BInv w ax ay bx cy u ps V) : w.heap.size + 2 ≤ V.heap.size := (Array.getElem?_eq_some_iff.1 h.b).1
/-- A part of a line as a text. -/
theorem conv_part {V : World} {rb ro fr t9 : Nat} {rs : List Int} (hr : ∀ j r, rs[j]? = some r → V.cell? ⟨rb, ro + j, none⟩ = some (.int .i32 r)) (ht : t9 ≤ rs.length) :
    ∀ (off len cap : Nat), len = t9 - fr → (off = ro + fr ∨ len = 0) → (convert 48 9 (.slice (some ⟨rb, off, none⟩) len cap)).run Tryd.prog V = .ok (.string (runesBytes ((rs.drop fr).take (t9 - fr)))) V := by
  intro off len cap hl ho
  have hlen : ((rs.drop fr).take (t9 - fr)).length = len := by rw [List.length_take, List.length_drop]; omega
  have := run_convert_runes (P := Tryd.prog) V 48 9 21 ⟨rb, off, none⟩ len cap ((rs.drop fr).take (t9 - fr)) (by omega) (by kernel_rfl) (by kernel_rfl) (by kernel_rfl) (by
    intro j hj
    rw [hlen] at hj
    obtain rfl : off = ro + fr := by omega
    rw [Addr.add_mid, Nat.add_assoc]
    have hj2 : fr + j < rs.length := by omega
    refine (hr (fr + j) _ (List.getElem?_eq_getElem hj2)).trans ?_
    rw [List.getD_eq_getElem?_getD, List.getElem?_take_of_lt (by omega), List.getElem?_drop, List.getElem?_eq_getElem hj2]
    rfl)
  rw [this, List.take_of_length_le (by omega)]
theorem BInv.step {w : World} {ax ay bx cy : Int} {u u' : Value} {ps : List ByteArray} {pt : ByteArray} {V V' : World} {ob : Obj} (h : BInv w ax ay bx cy u ps V) (hg : (V.alloc ob).grownBy V' u.ownBlock) (ho : V'.ownsRow (w.heap.size + 2) 9 1 u' (ps.length + 1) (ps.map Value.string ++ [Value.string pt])) : BInv w ax ay bx cy u' (ps ++ [pt]) V' := by
  have hlt := h.own.lt
  have kA : Below V.heap.size V (V.alloc ob) := (Below.refl _ _).alloc (Nat.le_refl _) _
  have hs := h.kb.size
  have key : ∀ i o, i < w.heap.size + 2 → V.heap[i]? = some o → V'.heap[i]? = some o := fun i o hi hh =>
    (hg.block i (Nat.lt_of_lt_of_le (Array.getElem?_eq_some_iff.1 hh).1 kA.size) (fun e => by have := (hlt _ e.symm).1; omega)).trans (kept hh kA)
  exact ⟨(h.kb.trans (kA.mono hs)).grown hg (Nat.le_trans hs kA.size) (fun k hk => by have := (hlt k hk).1; omega), key _ _ (by omega) h.a, key _ _ (by omega) h.b, by simpa using ho⟩
set_option maxHeartbeats 16000000 in
set_option maxRecDepth 100000 in
theorem between_any (L : List ByteArray) (v : Value) (ax : Int) (ay : Nat) (bx : Int) (cy : Nat) (w : World) (h : LsAt w v L) (hT : Tab w) (hL : ∀ s ∈ L, s.size ≤ 4000) (hn : L.length ≤ 110)
    (hab : ay ≤ cy) (hc : cy < L.length) (hx : ay = cy → ax ≤ bx) (hax : 0 ≤ ax) :
    Calls Tryd.prog 35 #[v, .agg #[.int .i64 ax, .int .i64 ay], .agg #[.int .i64 bx, .int .i64 cy]] w fun e w' => e = .returned (.string (betM L ax ay bx cy)) ∧ Below w.heap.size w w' := by
  obtain ⟨R, hR⟩ : ∃ R, betM L ax ay bx cy = R := ⟨_, rfl⟩
  rw [hR]
  have HR : Hid (betM L ax ay bx cy = R) := hR
  have kb0 : Below w.heap.size w ((w.alloc (.cells #[.int .i64 ax, .int .i64 ay] 24)).alloc (.cells #[.int .i64 bx, .int .i64 cy] 24)) := ((Below.refl _ _).alloc (Nat.le_refl _) _).alloc (by rw [World.size_alloc]; omega) _
  have ZB := heap_alloc_new (w.alloc (.cells #[.int .i64 ax, .int .i64 ay] 24)) (.cells #[.int .i64 bx, .int .i64 cy] 24)
  have ZA := (heap_alloc_old (w.alloc (.cells #[.int .i64 ax, .int .i64 ay] 24)) (.cells #[.int .i64 bx, .int .i64 cy] 24) (r := w.heap.size) (by rw [World.size_alloc]; omega)).trans (heap_alloc_new w (.cells #[.int .i64 ax, .int .i64 ay] 24))
  rw [World.size_alloc] at ZB
  have I0 : BInv w ax ay bx cy (.slice none 0 0) [] ((w.alloc (.cells #[.int .i64 ax, .int .i64 ay] 24)).alloc (.cells #[.int .i64 bx, .int .i64 cy] 24)) :=
    ⟨kb0, ZA, ZB, World.ownsRow_nil _ _ _ _⟩
  have HLL : Hid (∀ s ∈ L, s.size ≤ 4000) := hL
  have HI0 : Hid (BInv w ax ay bx cy (.slice none 0 0) [] ((w.alloc (.cells #[.int .i64 ax, .int .i64 ay] 24)).alloc (.cells #[.int .i64 bx, .int .i64 cy] 24))) := I0
  have HLS : Hid (∀ V, Below w.heap.size w V → LsAt V v L) := fun V hV => h.below hV
  have HTB : Hid (∀ V, Below w.heap.size w V → Tab V) := fun V hV => hT.below hV hT.pos
  obtain ⟨b, o, c, rfl, _⟩ := h.get hc
  obtain ⟨i0, hi, hzz⟩ := Option.map_eq_some_iff.1 info_st
  simp only [Prod.mk.injEq] at hzz
  obtain ⟨hz0, hz1, hz2⟩ := hzz
  obtain ⟨a0, a1⟩ := cells2 ZA
  have HX : Hid (ay = cy → ax ≤ bx) := hx
  clear hR hT hL h kb0 ZA ZB I0 hx
  go_enter Tryd.func35, Tryd.ntmps35
  go_wp2_with fail
  clear a0 a1
  go_loopg [7, 8] (cy + 1 - ay) (fun g u7 u8 wr => ∃ n : Nat, u8 = .int .i64 ((ay + n : Nat) : Int) ∧ ay + n ≤ cy + 1 ∧ cy + 1 - (ay + n) ≤ g ∧ BInv w ax ay bx cy u7 (partsM L ax ay bx cy n) wr)
  case atStart => exact ⟨0, rfl, by omega, by omega, HI0.out⟩
  case round =>
    obtain ⟨n, rfl, hn1, hg, hI⟩ := hrel
    have HI : Hid (BInv w ax ay bx cy u7 (partsM L ax ay bx cy n) wr) := hI
    obtain ⟨b0, b1⟩ := cells2 hI.b
    clear HI0 hI
    by_cases hlt : ay + n ≤ cy
    · have iy1 : ((ay + n : Nat) : Int) ≤ (cy : Int) := Int.ofNat_le.2 hlt
      have hyl : ay + n < L.length := by omega
      have HP : Hid (partsM L ax ay bx cy (n + 1) = partsM L ax ay bx cy n ++ [runesBytes (partM L ax ay bx cy (ay + n))]) := partsM_succ L ax ay bx cy n
      have HPL : Hid ((partsM L ax ay bx cy n).length = n) := partsM_len L ax ay bx cy n
      have HP2 : Hid (partM L ax ay bx cy (ay + n) = (((sp (ln L (ay + n))).map (·.1)).drop (frM (ln L (ay + n)) (ay + n == ay) ax)).take (toM (ln L (ay + n)) (ay + n == cy) bx - frM (ln L (ay + n)) (ay + n == ay) ax)) := rfl
      have HFT : Hid (frM (ln L (ay + n)) (ay + n == ay) ax ≤ toM (ln L (ay + n)) (ay + n == cy) bx) := frM_le _ _ _ _ _ (fun h1 h2 => HX.out (by
        have e1 := beq_iff_eq.1 h1
        have e2 := beq_iff_eq.1 h2
        omega))
      have HTL : Hid (toM (ln L (ay + n)) (ay + n == cy) bx ≤ (sp (ln L (ay + n))).length) := toM_le _ _ _
      obtain ⟨b', o', c', hv, q⟩ := (HLS.out _ HI.out.kb).get hyl
      injection hv with e1 e2 e3
      injection e1 with e1
      injection e1 with e1 e4
      subst e1 e4 e3
      have iyl : ((ay + n : Nat) : Int) < (L.length : Int) := Int.ofNat_lt.2 hyl
      have hs := ln_size HLL.out (ay + n)
      have hsl := sp_len (ln L (ay + n))
      have HL := lineOf_any (ln L (ay + n)) wr (HTB.out _ HI.out.kb) (by omega)
      have HSL : Hid ((sp (ln L (ay + n))).length ≤ 4000) := Nat.le_trans hsl hs
      have HSZ : Hid ((ln L (ay + n)).size ≤ 4000) := hs
      generalize hS : sp (ln L (ay + n)) = S at *
      generalize hfr : frM (ln L (ay + n)) (ay + n == ay) ax = fr at *
      generalize hto : toM (ln L (ay + n)) (ay + n == cy) bx = tt at *
      have HA := fun rv cv V (hl : LnAt V rv cv S) x => at_any rv cv S x V hl (by rw [← hS]; exact sp_lt _) (by omega)
      rw [show S.map (·.2) = cols (ln L (ay + n)) by rw [← hS]; rfl] at HA
      have HW := fun V (ht : Tab V) => Txt.wide_any (ln L (ay + n)) V ht (by omega)
      have HS : Hid (sp (ln L (ay + n)) = S) := hS
      have HFR : Hid (frM (ln L (ay + n)) (ay + n == ay) ax = fr) := hfr
      have HTO : Hid (toM (ln L (ay + n)) (ay + n == cy) bx = tt) := hto
      generalize hy : ay + n = y at *
      generalize hsy : ln L y = s at *
      have HYN : Hid (ay + n = y) := hy
      have HSY : Hid (ln L y = s) := hsy
      clear hS hfr hto hsl hs hy hsy
      go_wp2_with fail
      refine HL.mono ?_
      rintro e W1 ⟨rv, cv, rfl, hln, b1'⟩
      have I1 := HI.out.below b1'
      have l2 := heap_alloc_new W1 (.cells #[rv, cv] 82)
      have kA : Below W1.heap.size W1 (W1.alloc (.cells #[rv, cv] 82)) := (Below.refl _ _).alloc (Nat.le_refl _) _
      have I2 := I1.below kA
      have ln2 := hln.below kA
      obtain ⟨⟨rb, ro, rc, rfl, rle, _⟩, ca, cc, rfl, _⟩ := hln
      have HLN : Hid (LnAt (W1.alloc (.cells #[.slice (some ⟨rb, ro, none⟩) S.length rc, .slice ca S.length cc] 82)) (.slice (some ⟨rb, ro, none⟩) S.length rc) (.slice ca S.length cc) S) := ln2
      have HI2 : Hid (BInv w ax ay bx cy u7 (partsM L ax ay bx cy n) (W1.alloc (.cells #[.slice (some ⟨rb, ro, none⟩) S.length rc, .slice ca S.length cc] 82))) := I2
      obtain ⟨p0, p1⟩ := cells2 l2
      clear HL q b0 b1 b1' I1 kA I2 ln2 HI
      go_wp2_with fail
      generalize hW2 : W1.alloc (.cells #[.slice (some ⟨rb, ro, none⟩) S.length rc, .slice ca S.length cc] 82) = W2 at *
      go_quiet (fail)
      have kD : Below W2.heap.size W2 (W2.drewN nq) := below_drewN W2 nq
      have IV := HI2.out.below kD
      have LV := HLN.out.below kD
      have lV := kept l2 kD
      generalize W2.drewN nq = V at *
      clear HI2 HLN l2 kD p0 p1 hW2
      obtain ⟨a0, a1⟩ := cells2 IV.a
      obtain ⟨b', o', c', hv, q⟩ := (HLS.out _ IV.kb).get hyl
      injection hv with e1 e2 e3
      injection e1 with e1
      injection e1 with e1 e4
      subst e1 e4 e3
      rw [HSY.out] at q
      cases hf : (y == ay)
      · have jf : ((y : Int) == (ay : Int)) = false := by
          rw [beq_eq_false_iff_ne]
          intro e
          rw [beq_eq_false_iff_ne] at hf
          exact hf (by omega)
        have g1 := fun d os => cell_regrown a1 d os
        have hfr0 : fr = 0 := by rw [← HFR.out, hf]; rfl
        subst hfr0
        go_wp2_with fail
        refine wp_region_quiet_below (by kernel_rfl) (by kernel_rfl) ?_
        repeat (first | go_big_quiet_skip | quiet_step (fail))
        refine wpQuiet_nil ?_
        intro _ hw'
        obtain ⟨⟨dq, os⟩, hw''⟩ := hw'
        subst hw''
        have kR := below_regrown V dq os
        have I5 := IV.below kR
        have L5 := LV.below kR
        have l5 := kept lV kR
        generalize grow (redrawn V dq) os = V5 at *
        clear IV LV lV a0 a1 g1 q kR
        obtain ⟨a0, a1⟩ := cells2 I5.a
        obtain ⟨b0, b1⟩ := cells2 I5.b
        obtain ⟨p0, p1⟩ := cells2 l5
        cases hl : (y == cy)
        · have jl : ((y : Int) == (cy : Int)) = false := by
            rw [beq_eq_false_iff_ne]
            intro e
            rw [beq_eq_false_iff_ne] at hl
            exact hl (by omega)
          have htt : tt = S.length := by rw [← HTO.out, hl]; unfold toM; rw [← HS.out]; rfl
          subst htt
          have HCV : ∀ (off len cap : Nat), len = S.length - 0 → (off = ro + 0 ∨ len = 0) → (convert 48 9 (.slice (some ⟨rb, off, none⟩) len cap)).run Tryd.prog V5 = .ok (.string (runesBytes (((S.map (·.1)).drop 0).take (S.length - 0)))) V5 := by
            obtain ⟨⟨rb', ro', rc', hv, _, hr⟩, _⟩ := L5
            injection hv with e1 e2 e3
            injection e1 with e1
            injection e1 with e1 e4
            subst e1 e4
            exact conv_part hr (by rw [List.length_map]; exact HTL.out)
          have hp2 := HP2.out
          rw [← hp2] at HCV
          have HOWN : Hid (V5.ownsRow (w.heap.size + 2) 9 1 u7 (partsM L ax ay bx cy n).length ((partsM L ax ay bx cy n).map Value.string)) := I5.own
          have HI9 : Hid (BInv w ax ay bx cy u7 (partsM L ax ay bx cy n) V5) := I5
          clear hp2
          have ift : ((0 : Nat) : Int) ≤ ((S.length : Nat) : Int) := Int.ofNat_le.2 HFT.out
          have itr : ((S.length : Nat) : Int) ≤ (rc : Int) := Int.ofNat_le.2 (Nat.le_trans HTL.out rle)
          have ifr : ((0 : Nat) : Int) ≤ (rc : Int) := Int.le_trans ift itr
          have hzz : rc = 0 → S.length - 0 = 0 := sub_zero_of HFT.out (Nat.le_trans HTL.out rle)
          generalize hpt : runesBytes (partM L ax ay bx cy y) = pt at *
          by_cases hz : rc = 0
          all_goals
            go_wp2_with (first | (at_builtin; refine wpList_append_own _ rfl _ _ 22 rfl (w.heap.size + 2) 9 i0 (.string ByteArray.empty) 1 16 und_st hi hz0 hz1 hz2 rfl (by decide) _ _ _ rfl (HOWN.out.alloc _) ⟨V5.heap.size, 0, none⟩ 1 1 [.string pt] rfl rfl (cell_one_new _ _ _) (by intro u hu; simp at hu; rw [hu]; rfl) (by unfold maxLen; have := HPL.out; have := HYN.out; omega) (by have := HPL.out; have := HYN.out; omega) (by have := HI9.out.size; simp; omega) ?_; intro v' w2 hown' hgrow hnil))
            have hI3 := HI9.out.step hgrow hown'
            rw [← HP.out] at hI3
            have HI3 : Hid (BInv w ax ay bx cy v' (partsM L ax ay bx cy (n + 1)) w2) := hI3
            clear hI3
            go_roundg (cy + 1 - (y + 1))
            case measure => omega
            case rel => exact ⟨n + 1, by rw [show ay + (n + 1) = y + 1 by have := HYN.out; omega]; go_num, by have := HYN.out; omega, by have := HYN.out; omega, HI3.out⟩
        · have jl : ((y : Int) == (cy : Int)) = true := by
            rw [beq_iff_eq]
            have := beq_iff_eq.1 hl
            omega
          obtain ⟨z, hz⟩ : ∃ z, atI (cols s) bx = z := ⟨_, rfl⟩
          have htt : z + 1 = (tt : Int) := by
            have h1 := atI_ge (cols s) bx
            rw [← HTO.out, hl, ← hz]
            unfold toM
            rw [if_pos rfl]
            omega
          have HA2 := fun rv cv V hl => HA rv cv V hl bx
          rw [hz] at HA2
          have hwz : wrap64 (z + 1) = (tt : Int) := by
            rw [htt]
            exact w64_nat (Nat.le_trans HTL.out (Nat.le_trans HSL.out (by decide)))
          clear htt hz
          go_wp2_with fail
          refine (HA2 _ _ V5 L5).mono ?_
          rintro e V7 ⟨rfl, b7⟩
          have I7 := I5.below b7
          have L7 := L5.below b7
          have l7 := kept l5 b7
          clear I5 L5 l5 a0 a1 b0 b1 p0 p1 b7 HA2
          obtain ⟨a0, a1⟩ := cells2 I7.a
          obtain ⟨b0, b1⟩ := cells2 I7.b
          obtain ⟨p0, p1⟩ := cells2 l7
          have HCV : ∀ (off len cap : Nat), len = tt - 0 → (off = ro + 0 ∨ len = 0) → (convert 48 9 (.slice (some ⟨rb, off, none⟩) len cap)).run Tryd.prog V7 = .ok (.string (runesBytes (((S.map (·.1)).drop 0).take (tt - 0)))) V7 := by
            obtain ⟨⟨rb', ro', rc', hv, _, hr⟩, _⟩ := L7
            injection hv with e1 e2 e3
            injection e1 with e1
            injection e1 with e1 e4
            subst e1 e4
            exact conv_part hr (by rw [List.length_map]; exact HTL.out)
          have hp2 := HP2.out
          rw [← hp2] at HCV
          have HOWN : Hid (V7.ownsRow (w.heap.size + 2) 9 1 u7 (partsM L ax ay bx cy n).length ((partsM L ax ay bx cy n).map Value.string)) := I7.own
          have HI9 : Hid (BInv w ax ay bx cy u7 (partsM L ax ay bx cy n) V7) := I7
          clear hp2
          have ift : ((0 : Nat) : Int) ≤ ((tt : Nat) : Int) := Int.ofNat_le.2 HFT.out
          have itr : ((tt : Nat) : Int) ≤ (rc : Int) := Int.ofNat_le.2 (Nat.le_trans HTL.out rle)
          have ifr : ((0 : Nat) : Int) ≤ (rc : Int) := Int.le_trans ift itr
          have hzz : rc = 0 → tt - 0 = 0 := sub_zero_of HFT.out (Nat.le_trans HTL.out rle)
          generalize hpt : runesBytes (partM L ax ay bx cy y) = pt at *
          by_cases hz : rc = 0
          all_goals
            go_wp2_with (first | (at_builtin; refine wpList_append_own _ rfl _ _ 22 rfl (w.heap.size + 2) 9 i0 (.string ByteArray.empty) 1 16 und_st hi hz0 hz1 hz2 rfl (by decide) _ _ _ rfl (HOWN.out.alloc _) ⟨V7.heap.size, 0, none⟩ 1 1 [.string pt] rfl rfl (cell_one_new _ _ _) (by intro u hu; simp at hu; rw [hu]; rfl) (by clear hwz; unfold maxLen; have := HPL.out; have := HYN.out; omega) (by clear hwz; have := HPL.out; have := HYN.out; omega) (by clear hwz; have := HI9.out.size; simp; omega) ?_; intro v' w2 hown' hgrow hnil))
            have hI3 := HI9.out.step hgrow hown'
            rw [← HP.out] at hI3
            have HI3 : Hid (BInv w ax ay bx cy v' (partsM L ax ay bx cy (n + 1)) w2) := hI3
            clear hI3
            clear hwz
            go_roundg (cy + 1 - (y + 1))
            case measure => omega
            case rel => exact ⟨n + 1, by rw [show ay + (n + 1) = y + 1 by have := HYN.out; omega]; go_num, by have := HYN.out; omega, by have := HYN.out; omega, HI3.out⟩
      · have jf : ((y : Int) == (ay : Int)) = true := by
          rw [beq_iff_eq]
          have := beq_iff_eq.1 hf
          omega
        have g0 := fun d os => cell_regrown a0 d os
        have g1 := fun d os => cell_regrown a1 d os
        have gq := fun d os => cell_regrown q d os
        obtain ⟨ww, hww⟩ : ∃ ww, wideS s = ww := ⟨_, rfl⟩
        have K1 : Hid (∀ d os, Calls Tryd.prog 49 #[.string s] (grow (redrawn V d) os) fun e w'' => e = .returned (.int .i64 ww) ∧ ∃ p : Regrown, w'' = grow (redrawn V p.d) p.os) := fun d os => Calls.regrown_of (by rw [← hww]; exact HW _ (HTB.out _ (IV.kb.trans ((below_regrown V d os).mono IV.kb.size))))
        by_cases hw : ww ≤ ax
        · have hfr0 : fr = S.length := by rw [← HFR.out, hf]; unfold frM; rw [if_pos rfl, hww, if_pos hw, HS.out]
          subst hfr0
          go_wp2_with fail
          refine wp_region_quiet_below (by kernel_rfl) (by kernel_rfl) ?_
          repeat (first | go_big_quiet_skip | quiet_step (first | (go_at_call 49; exact K1.out _ _)))
          refine wpQuiet_nil ?_
          intro _ hw'
          obtain ⟨⟨dq, os⟩, hw''⟩ := hw'
          subst hw''
          have kR := below_regrown V dq os
          have I5 := IV.below kR
          have L5 := LV.below kR
          have l5 := kept lV kR
          generalize grow (redrawn V dq) os = V5 at *
          clear IV LV lV a0 a1 g0 g1 gq K1 q kR
          obtain ⟨a0, a1⟩ := cells2 I5.a
          obtain ⟨b0, b1⟩ := cells2 I5.b
          obtain ⟨p0, p1⟩ := cells2 l5
          cases hl : (y == cy)
          · have jl : ((y : Int) == (cy : Int)) = false := by
              rw [beq_eq_false_iff_ne]
              intro e
              rw [beq_eq_false_iff_ne] at hl
              exact hl (by omega)
            have htt : tt = S.length := by rw [← HTO.out, hl]; unfold toM; rw [← HS.out]; rfl
            subst htt
            have HCV : ∀ (off len cap : Nat), len = S.length - S.length → (off = ro + S.length ∨ len = 0) → (convert 48 9 (.slice (some ⟨rb, off, none⟩) len cap)).run Tryd.prog V5 = .ok (.string (runesBytes (((S.map (·.1)).drop S.length).take (S.length - S.length)))) V5 := by
              obtain ⟨⟨rb', ro', rc', hv, _, hr⟩, _⟩ := L5
              injection hv with e1 e2 e3
              injection e1 with e1
              injection e1 with e1 e4
              subst e1 e4
              exact conv_part hr (by rw [List.length_map]; exact HTL.out)
            have hp2 := HP2.out
            rw [← hp2] at HCV
            have HOWN : Hid (V5.ownsRow (w.heap.size + 2) 9 1 u7 (partsM L ax ay bx cy n).length ((partsM L ax ay bx cy n).map Value.string)) := I5.own
            have HI9 : Hid (BInv w ax ay bx cy u7 (partsM L ax ay bx cy n) V5) := I5
            clear hp2
            have ift : ((S.length : Nat) : Int) ≤ ((S.length : Nat) : Int) := Int.ofNat_le.2 HFT.out
            have itr : ((S.length : Nat) : Int) ≤ (rc : Int) := Int.ofNat_le.2 (Nat.le_trans HTL.out rle)
            have ifr : ((S.length : Nat) : Int) ≤ (rc : Int) := Int.le_trans ift itr
            have hzz : rc = S.length → S.length - S.length = 0 := sub_zero_of HFT.out (Nat.le_trans HTL.out rle)
            generalize hpt : runesBytes (partM L ax ay bx cy y) = pt at *
            by_cases hz : rc = S.length
            all_goals
              go_wp2_with (first | (at_builtin; refine wpList_append_own _ rfl _ _ 22 rfl (w.heap.size + 2) 9 i0 (.string ByteArray.empty) 1 16 und_st hi hz0 hz1 hz2 rfl (by decide) _ _ _ rfl (HOWN.out.alloc _) ⟨V5.heap.size, 0, none⟩ 1 1 [.string pt] rfl rfl (cell_one_new _ _ _) (by intro u hu; simp at hu; rw [hu]; rfl) (by unfold maxLen; have := HPL.out; have := HYN.out; omega) (by have := HPL.out; have := HYN.out; omega) (by have := HI9.out.size; simp; omega) ?_; intro v' w2 hown' hgrow hnil))
              have hI3 := HI9.out.step hgrow hown'
              rw [← HP.out] at hI3
              have HI3 : Hid (BInv w ax ay bx cy v' (partsM L ax ay bx cy (n + 1)) w2) := hI3
              clear hI3
              go_roundg (cy + 1 - (y + 1))
              case measure => omega
              case rel => exact ⟨n + 1, by rw [show ay + (n + 1) = y + 1 by have := HYN.out; omega]; go_num, by have := HYN.out; omega, by have := HYN.out; omega, HI3.out⟩
          · have jl : ((y : Int) == (cy : Int)) = true := by
              rw [beq_iff_eq]
              have := beq_iff_eq.1 hl
              omega
            obtain ⟨z, hz⟩ : ∃ z, atI (cols s) bx = z := ⟨_, rfl⟩
            have htt : z + 1 = (tt : Int) := by
              have h1 := atI_ge (cols s) bx
              rw [← HTO.out, hl, ← hz]
              unfold toM
              rw [if_pos rfl]
              omega
            have HA2 := fun rv cv V hl => HA rv cv V hl bx
            rw [hz] at HA2
            have hwz : wrap64 (z + 1) = (tt : Int) := by
              rw [htt]
              exact w64_nat (Nat.le_trans HTL.out (Nat.le_trans HSL.out (by decide)))
            clear htt hz
            go_wp2_with fail
            refine (HA2 _ _ V5 L5).mono ?_
            rintro e V7 ⟨rfl, b7⟩
            have I7 := I5.below b7
            have L7 := L5.below b7
            have l7 := kept l5 b7
            clear I5 L5 l5 a0 a1 b0 b1 p0 p1 b7 HA2
            obtain ⟨a0, a1⟩ := cells2 I7.a
            obtain ⟨b0, b1⟩ := cells2 I7.b
            obtain ⟨p0, p1⟩ := cells2 l7
            have HCV : ∀ (off len cap : Nat), len = tt - S.length → (off = ro + S.length ∨ len = 0) → (convert 48 9 (.slice (some ⟨rb, off, none⟩) len cap)).run Tryd.prog V7 = .ok (.string (runesBytes (((S.map (·.1)).drop S.length).take (tt - S.length)))) V7 := by
              obtain ⟨⟨rb', ro', rc', hv, _, hr⟩, _⟩ := L7
              injection hv with e1 e2 e3
              injection e1 with e1
              injection e1 with e1 e4
              subst e1 e4
              exact conv_part hr (by rw [List.length_map]; exact HTL.out)
            have hp2 := HP2.out
            rw [← hp2] at HCV
            have HOWN : Hid (V7.ownsRow (w.heap.size + 2) 9 1 u7 (partsM L ax ay bx cy n).length ((partsM L ax ay bx cy n).map Value.string)) := I7.own
            have HI9 : Hid (BInv w ax ay bx cy u7 (partsM L ax ay bx cy n) V7) := I7
            clear hp2
            have ift : ((S.length : Nat) : Int) ≤ ((tt : Nat) : Int) := Int.ofNat_le.2 HFT.out
            have itr : ((tt : Nat) : Int) ≤ (rc : Int) := Int.ofNat_le.2 (Nat.le_trans HTL.out rle)
            have ifr : ((S.length : Nat) : Int) ≤ (rc : Int) := Int.le_trans ift itr
            have hzz : rc = S.length → tt - S.length = 0 := sub_zero_of HFT.out (Nat.le_trans HTL.out rle)
            generalize hpt : runesBytes (partM L ax ay bx cy y) = pt at *
            by_cases hz : rc = S.length
            all_goals
              go_wp2_with (first | (at_builtin; refine wpList_append_own _ rfl _ _ 22 rfl (w.heap.size + 2) 9 i0 (.string ByteArray.empty) 1 16 und_st hi hz0 hz1 hz2 rfl (by decide) _ _ _ rfl (HOWN.out.alloc _) ⟨V7.heap.size, 0, none⟩ 1 1 [.string pt] rfl rfl (cell_one_new _ _ _) (by intro u hu; simp at hu; rw [hu]; rfl) (by clear hwz; unfold maxLen; have := HPL.out; have := HYN.out; omega) (by clear hwz; have := HPL.out; have := HYN.out; omega) (by clear hwz; have := HI9.out.size; simp; omega) ?_; intro v' w2 hown' hgrow hnil))
              have hI3 := HI9.out.step hgrow hown'
              rw [← HP.out] at hI3
              have HI3 : Hid (BInv w ax ay bx cy v' (partsM L ax ay bx cy (n + 1)) w2) := hI3
              clear hI3
              clear hwz
              go_roundg (cy + 1 - (y + 1))
              case measure => omega
              case rel => exact ⟨n + 1, by rw [show ay + (n + 1) = y + 1 by have := HYN.out; omega]; go_num, by have := HYN.out; omega, by have := HYN.out; omega, HI3.out⟩
        · have hfr0 : atI (cols s) ax = (fr : Int) := by
            have h1 := atI_zero s ax (by omega) hax
            rw [← HFR.out, hf]
            unfold frM
            rw [if_pos rfl, hww, if_neg hw]
            omega
          have HA1 := fun rv cv V hl => HA rv cv V hl ax
          rw [hfr0] at HA1
          clear hfr0
          go_wp2_with fail
          refine wp_region_quiet_below (by kernel_rfl) (by kernel_rfl) ?_
          repeat (first | go_big_quiet_skip | quiet_step (first | (go_at_call 49; exact K1.out _ _)))
          refine wpQuiet_nil ?_
          intro _ hw'
          obtain ⟨⟨dq, os⟩, hw''⟩ := hw'
          subst hw''
          have kR := below_regrown V dq os
          have I5 := IV.below kR
          have L5 := LV.below kR
          have l5 := kept lV kR
          generalize grow (redrawn V dq) os = V5 at *
          clear IV LV lV a0 a1 g0 g1 gq K1 q kR
          obtain ⟨a0, a1⟩ := cells2 I5.a
          obtain ⟨b0, b1⟩ := cells2 I5.b
          obtain ⟨p0, p1⟩ := cells2 l5
          go_wp2_with fail
          refine (HA1 _ _ V5 L5).mono ?_
          rintro e V6 ⟨rfl, b6⟩
          have I6 := I5.below b6
          have L6 := L5.below b6
          have l6 := kept l5 b6
          clear I5 L5 l5 a0 a1 b0 b1 p0 p1 b6 HA1
          obtain ⟨a0, a1⟩ := cells2 I6.a
          obtain ⟨b0, b1⟩ := cells2 I6.b
          obtain ⟨p0, p1⟩ := cells2 l6
          cases hl : (y == cy)
          · have jl : ((y : Int) == (cy : Int)) = false := by
              rw [beq_eq_false_iff_ne]
              intro e
              rw [beq_eq_false_iff_ne] at hl
              exact hl (by omega)
            have htt : tt = S.length := by rw [← HTO.out, hl]; unfold toM; rw [← HS.out]; rfl
            subst htt
            have HCV : ∀ (off len cap : Nat), len = S.length - fr → (off = ro + fr ∨ len = 0) → (convert 48 9 (.slice (some ⟨rb, off, none⟩) len cap)).run Tryd.prog V6 = .ok (.string (runesBytes (((S.map (·.1)).drop fr).take (S.length - fr)))) V6 := by
              obtain ⟨⟨rb', ro', rc', hv, _, hr⟩, _⟩ := L6
              injection hv with e1 e2 e3
              injection e1 with e1
              injection e1 with e1 e4
              subst e1 e4
              exact conv_part hr (by rw [List.length_map]; exact HTL.out)
            have hp2 := HP2.out
            rw [← hp2] at HCV
            have HOWN : Hid (V6.ownsRow (w.heap.size + 2) 9 1 u7 (partsM L ax ay bx cy n).length ((partsM L ax ay bx cy n).map Value.string)) := I6.own
            have HI9 : Hid (BInv w ax ay bx cy u7 (partsM L ax ay bx cy n) V6) := I6
            clear hp2
            have ift : ((fr : Nat) : Int) ≤ ((S.length : Nat) : Int) := Int.ofNat_le.2 HFT.out
            have itr : ((S.length : Nat) : Int) ≤ (rc : Int) := Int.ofNat_le.2 (Nat.le_trans HTL.out rle)
            have ifr : ((fr : Nat) : Int) ≤ (rc : Int) := Int.le_trans ift itr
            have hzz : rc = fr → S.length - fr = 0 := sub_zero_of HFT.out (Nat.le_trans HTL.out rle)
            generalize hpt : runesBytes (partM L ax ay bx cy y) = pt at *
            by_cases hz : rc = fr
            all_goals
              go_wp2_with (first | (at_builtin; refine wpList_append_own _ rfl _ _ 22 rfl (w.heap.size + 2) 9 i0 (.string ByteArray.empty) 1 16 und_st hi hz0 hz1 hz2 rfl (by decide) _ _ _ rfl (HOWN.out.alloc _) ⟨V6.heap.size, 0, none⟩ 1 1 [.string pt] rfl rfl (cell_one_new _ _ _) (by intro u hu; simp at hu; rw [hu]; rfl) (by unfold maxLen; have := HPL.out; have := HYN.out; omega) (by have := HPL.out; have := HYN.out; omega) (by have := HI9.out.size; simp; omega) ?_; intro v' w2 hown' hgrow hnil))
              have hI3 := HI9.out.step hgrow hown'
              rw [← HP.out] at hI3
              have HI3 : Hid (BInv w ax ay bx cy v' (partsM L ax ay bx cy (n + 1)) w2) := hI3
              clear hI3
              go_roundg (cy + 1 - (y + 1))
              case measure => omega
              case rel => exact ⟨n + 1, by rw [show ay + (n + 1) = y + 1 by have := HYN.out; omega]; go_num, by have := HYN.out; omega, by have := HYN.out; omega, HI3.out⟩
          · have jl : ((y : Int) == (cy : Int)) = true := by
              rw [beq_iff_eq]
              have := beq_iff_eq.1 hl
              omega
            obtain ⟨z, hz⟩ : ∃ z, atI (cols s) bx = z := ⟨_, rfl⟩
            have htt : z + 1 = (tt : Int) := by
              have h1 := atI_ge (cols s) bx
              rw [← HTO.out, hl, ← hz]
              unfold toM
              rw [if_pos rfl]
              omega
            have HA2 := fun rv cv V hl => HA rv cv V hl bx
            rw [hz] at HA2
            have hwz : wrap64 (z + 1) = (tt : Int) := by
              rw [htt]
              exact w64_nat (Nat.le_trans HTL.out (Nat.le_trans HSL.out (by decide)))
            clear htt hz
            go_wp2_with fail
            refine (HA2 _ _ V6 L6).mono ?_
            rintro e V7 ⟨rfl, b7⟩
            have I7 := I6.below b7
            have L7 := L6.below b7
            have l7 := kept l6 b7
            clear I6 L6 l6 a0 a1 b0 b1 p0 p1 b7 HA2
            obtain ⟨a0, a1⟩ := cells2 I7.a
            obtain ⟨b0, b1⟩ := cells2 I7.b
            obtain ⟨p0, p1⟩ := cells2 l7
            have HCV : ∀ (off len cap : Nat), len = tt - fr → (off = ro + fr ∨ len = 0) → (convert 48 9 (.slice (some ⟨rb, off, none⟩) len cap)).run Tryd.prog V7 = .ok (.string (runesBytes (((S.map (·.1)).drop fr).take (tt - fr)))) V7 := by
              obtain ⟨⟨rb', ro', rc', hv, _, hr⟩, _⟩ := L7
              injection hv with e1 e2 e3
              injection e1 with e1
              injection e1 with e1 e4
              subst e1 e4
              exact conv_part hr (by rw [List.length_map]; exact HTL.out)
            have hp2 := HP2.out
            rw [← hp2] at HCV
            have HOWN : Hid (V7.ownsRow (w.heap.size + 2) 9 1 u7 (partsM L ax ay bx cy n).length ((partsM L ax ay bx cy n).map Value.string)) := I7.own
            have HI9 : Hid (BInv w ax ay bx cy u7 (partsM L ax ay bx cy n) V7) := I7
            clear hp2
            have ift : ((fr : Nat) : Int) ≤ ((tt : Nat) : Int) := Int.ofNat_le.2 HFT.out
            have itr : ((tt : Nat) : Int) ≤ (rc : Int) := Int.ofNat_le.2 (Nat.le_trans HTL.out rle)
            have ifr : ((fr : Nat) : Int) ≤ (rc : Int) := Int.le_trans ift itr
            have hzz : rc = fr → tt - fr = 0 := sub_zero_of HFT.out (Nat.le_trans HTL.out rle)
            generalize hpt : runesBytes (partM L ax ay bx cy y) = pt at *
            by_cases hz : rc = fr
            all_goals
              go_wp2_with (first | (at_builtin; refine wpList_append_own _ rfl _ _ 22 rfl (w.heap.size + 2) 9 i0 (.string ByteArray.empty) 1 16 und_st hi hz0 hz1 hz2 rfl (by decide) _ _ _ rfl (HOWN.out.alloc _) ⟨V7.heap.size, 0, none⟩ 1 1 [.string pt] rfl rfl (cell_one_new _ _ _) (by intro u hu; simp at hu; rw [hu]; rfl) (by clear hwz; unfold maxLen; have := HPL.out; have := HYN.out; omega) (by clear hwz; have := HPL.out; have := HYN.out; omega) (by clear hwz; have := HI9.out.size; simp; omega) ?_; intro v' w2 hown' hgrow hnil))
              have hI3 := HI9.out.step hgrow hown'
              rw [← HP.out] at hI3
              have HI3 : Hid (BInv w ax ay bx cy v' (partsM L ax ay bx cy (n + 1)) w2) := hI3
              clear hI3
              clear hwz
              go_roundg (cy + 1 - (y + 1))
              case measure => omega
              case rel => exact ⟨n + 1, by rw [show ay + (n + 1) = y + 1 by have := HYN.out; omega]; go_num, by have := HYN.out; omega, by have := HYN.out; omega, HI3.out⟩
    · have e9 : ay + n = cy + 1 := by omega
      have iy1 : ¬ ((ay + n : Nat) : Int) ≤ (cy : Int) := by omega
      have hI := HI.out
      have hn9 : cy + 1 - ay = n := by omega
      have hr := HR.out
      unfold betM at hr
      rw [hn9] at hr
      have hne : partsM L ax ay bx cy n ≠ [] := by
        intro e
        have := congrArg List.length e
        rw [partsM_len] at this
        simp at this
        omega
      obtain ⟨b0, b1⟩ := cells2 hI.b
      have kb := hI.kb
      have hj := join_le (partsM L ax ay bx cy n) 16000 (fun s hs => partsM_size hs (fun y => ln_size HLL.out y))
      rw [partsM_len] at hj
      obtain ⟨g, cap, cur, hv, hgb, hh, hcap, _, _, htk⟩ := hI.own.2.resolve_left (fun h => hne (by
        have := h.2
        rw [partsM_len] at this
        exact List.length_eq_zero_iff.1 (by rw [partsM_len]; exact this)))
      subst hv
      have hcells : ∀ (j : Nat) x, (partsM L ax ay bx cy n)[j]? = some x → wr.cell? ⟨g, 0 + j, none⟩ = some (.string x) := by
        intro j x hx
        rw [Nat.mul_one] at htk
        obtain ⟨hj, _⟩ := List.getElem?_eq_some_iff.1 hx
        have h1 : (cur.toList.take (partsM L ax ay bx cy n).length)[j]? = some (.string x) := by rw [htk, List.getElem?_map, hx]; rfl
        rw [List.getElem?_take_of_lt hj, Array.getElem?_toList] at h1
        unfold World.cell?
        rw [hh, Nat.zero_add]
        exact h1
      have HJ := Tryd.strings_Join g 0 cap (partsM L ax ay bx cy n) ⟨#[10]⟩ wr hcells (Array.getElem?_eq_some_iff.1 hh).1 (by rw [partsM_len]; omega) hcap (by
        show (Lib.join _ [10]).length ≤ _
        omega)
      rw [show (⟨(Lib.join ((partsM L ax ay bx cy n).map (·.data.toList)) (⟨#[10]⟩ : ByteArray).data.toList).toArray⟩ : ByteArray) = R from hr] at HJ
      rw [partsM_len] at *
      clear hcells hh htk hI HI hne hr
      go_wp2_with fail
      refine HJ.mono ?_
      rintro e W9 ⟨rfl, b9⟩
      have k9 := kb.trans (b9.mono kb.size)
      go_wp2_with fail
      go_ret
      exact ⟨rfl, k9⟩
end Cpy
end Go.Proofs.YtlodmffiengnaaaDoor

/- Package copying: Take. -/
namespace Go.Proofs.YtlodmffiengnaaaDoor
open Go.ChangeShapes Go.WideShapes Go.ChangeAt Go.RowKit Go.Maps Go.Sort
namespace Cpy
open Txt (Tab)
def ahead (x y fx fy : Int) : Bool := decide (y < fy) || (decide (y = fy) && decide (x < fx))
set_option maxHeartbeats 4000000 in
set_option maxRecDepth 100000 in
theorem ahead_any (x y fx fy : Int) (w : World) :
    Calls Tryd.prog 34 #[.agg #[.int .i64 x, .int .i64 y], .agg #[.int .i64 fx, .int .i64 fy]] w fun e w' => e = .returned (.bool (ahead x y fx fy)) ∧ Below w.heap.size w w' := by
  have kb0 : Below w.heap.size w ((w.alloc (.cells #[.int .i64 x, .int .i64 y] 24)).alloc (.cells #[.int .i64 fx, .int .i64 fy] 24)) := ((Below.refl _ _).alloc (Nat.le_refl _) _).alloc (by rw [World.size_alloc]; omega) _
  have ZB := heap_alloc_new (w.alloc (.cells #[.int .i64 x, .int .i64 y] 24)) (.cells #[.int .i64 fx, .int .i64 fy] 24)
  have ZA := (heap_alloc_old (w.alloc (.cells #[.int .i64 x, .int .i64 y] 24)) (.cells #[.int .i64 fx, .int .i64 fy] 24) (r := w.heap.size) (by rw [World.size_alloc]; omega)).trans (heap_alloc_new w (.cells #[.int .i64 x, .int .i64 y] 24))
  rw [World.size_alloc] at ZB
  obtain ⟨a0, a1⟩ := cells2 ZA
  obtain ⟨b0, b1⟩ := cells2 ZB
  have HH : Hid (ahead x y fx fy = (decide (y < fy) || (decide (y = fy) && decide (x < fx)))) := rfl
  clear ZA ZB
  cases h1 : decide (y < fy)
  · cases h2 : decide (y = fy)
    · have j2 : (y == fy) = false := by rw [beq_eq_false_iff_ne]; exact of_decide_eq_false h2
      rw [h1, h2] at HH
      go_enter Tryd.func34, Tryd.ntmps34
      go_wp2_with fail
      go_ret
      exact ⟨ret_b (by rw [HH.out]; rfl), kb0⟩
    · have j2 : (y == fy) = true := by rw [beq_iff_eq]; exact of_decide_eq_true h2
      rw [h1, h2] at HH
      go_enter Tryd.func34, Tryd.ntmps34
      go_wp2_with fail
      go_ret
      exact ⟨ret_b (by rw [HH.out]; simp), kb0⟩
  · rw [h1] at HH
    go_enter Tryd.func34, Tryd.ntmps34
    go_wp2_with fail
    go_ret
    exact ⟨ret_b (by rw [HH.out]; rfl), kb0⟩
theorem ahead_false {x fx : Int} {y fy : Nat} (h : ahead x y fx fy = false) : fy ≤ y ∧ (fy = y → fx ≤ x) := by
  unfold ahead at h
  simp only [Bool.or_eq_false_iff, Bool.and_eq_false_iff, decide_eq_false_iff_not] at h
  omega
theorem ahead_true {x fx : Int} {y fy : Nat} (h : ahead x y fx fy = true) : y ≤ fy ∧ (y = fy → x ≤ fx) := by
  unfold ahead at h
  simp only [Bool.or_eq_true, Bool.and_eq_true, decide_eq_true_eq] at h
  omega
/-- What is taken. -/
def takeM (L : List ByteArray) (k : Cp) : ByteArray := if ahead k.x k.y k.fx k.fy then betM L k.x k.y.toNat k.fx k.fy.toNat else betM L k.fx k.fy.toNat k.x k.y.toNat
def takeE (L : List ByteArray) (k : Cp) : Int := if chk L k = 0 then (if k.on then (if 4000 < (takeM L k).size then 10 else 0) else 8) else chk L k
def takeT (L : List ByteArray) (k : Cp) : ByteArray := if takeE L k = 0 then takeM L k else ⟨#[]⟩
set_option maxHeartbeats 16000000 in
set_option maxRecDepth 100000 in
theorem take_any (L : List ByteArray) (v : Value) (k : Cp) (w : World) (h : LsAt w v L) (hT : Tab w) :
    Calls Tryd.prog 13 #[v, .agg k.cells] w fun e w' => e = .returned (.tuple #[.string (takeT L k), .int .i64 (takeE L k)]) ∧ Below w.heap.size w w' := by
  have kb : Below w.heap.size w (w.alloc (.cells k.cells 26)) := (Below.refl _ _).alloc (Nat.le_refl _) _
  have Y : BoxAt (w.alloc (.cells k.cells 26)) w.heap.size k := heap_alloc_new w (.cells k.cells 26)
  have HC := fun W (hW : Below w.heap.size w W) => check_any L v k W (h.below hW)
  have HLS : Hid (∀ V, Below w.heap.size w V → LsAt V v L) := fun V hV => h.below hV
  have HTB : Hid (∀ V, Below w.heap.size w V → Tab V) := fun V hV => hT.below hV hT.pos
  obtain ⟨a, c, rfl, _⟩ := h
  obtain ⟨⟨c0, c1, c2, c3, c4⟩, _⟩ := Y.cells
  obtain ⟨E0, hE⟩ : ∃ E0, takeE L k = E0 := ⟨_, rfl⟩
  obtain ⟨T0, hT0⟩ : ∃ T0, takeT L k = T0 := ⟨_, rfl⟩
  rw [hE, hT0]
  unfold takeT at hT0
  rw [hE] at hT0
  unfold takeE at hE
  have HK : Hid (chk L k = 0 → 1 ≤ L.length ∧ L.length ≤ 110 ∧ (∀ s ∈ L, s.size ≤ 4000) ∧ (0 ≤ k.y ∧ k.y < L.length ∧ 0 ≤ k.x ∧ k.x ≤ 120) ∧ (0 ≤ k.fy ∧ k.fy < L.length ∧ 0 ≤ k.fx ∧ k.fx ≤ 120)) := chk_zero
  have HM : Hid (takeM L k = if ahead k.x k.y k.fx k.fy then betM L k.x k.y.toNat k.fx k.fy.toNat else betM L k.fx k.fy.toNat k.x k.y.toNat) := rfl
  generalize takeM L k = M at *
  generalize chk L k = R at *
  obtain ⟨x, y, fx, fy, on⟩ := k
  simp only [Cp.cells] at Y kb HC c0 c1 c2 c3 c4 hE HK HM ⊢
  by_cases hR : R = 0
  · subst hR
    rw [if_pos rfl] at hE
    obtain ⟨n1, n2, n3, ⟨n4, n5, n6, n7⟩, ⟨n8, n9, n10, n11⟩⟩ := HK.out rfl
    obtain ⟨y, rfl⟩ := Int.eq_ofNat_of_zero_le n4
    obtain ⟨fy, rfl⟩ := Int.eq_ofNat_of_zero_le n8
    cases on
    · simp only [Bool.false_eq_true, if_false] at hE
      subst hE
      rw [if_neg (by decide)] at hT0
      subst hT0
      go_enter Tryd.func13, Tryd.ntmps13
      go_wp2_with fail
      refine (HC _ kb).mono ?_
      rintro e1 W1 ⟨rfl, b1⟩
      have k1 := kb.trans (b1.mono kb.size)
      obtain ⟨⟨d0, d1, d2, d3, d4⟩, _⟩ := (Y.below b1).cells
      simp only [] at d4
      clear HC c0 c1 c2 c3 c4
      go_wp2_with fail
      go_ret2
      exact ⟨rfl, k1⟩
    · simp only [if_true] at hE
      go_enter Tryd.func13, Tryd.ntmps13
      go_wp2_with fail
      refine (HC _ kb).mono ?_
      rintro e1 W1 ⟨rfl, b1⟩
      have k1 := kb.trans (b1.mono kb.size)
      obtain ⟨⟨d0, d1, d2, d3, d4⟩, _⟩ := (Y.below b1).cells
      simp only [] at d0 d1 d2 d3 d4
      clear HC c0 c1 c2 c3 c4 Y b1
      have kA : ∀ o, Below W1.heap.size W1 (W1.alloc o) := fun o => (Below.refl _ _).alloc (Nat.le_refl _) _
      have kB : ∀ o o', Below W1.heap.size W1 ((W1.alloc o).alloc o') := fun o o' => (kA o).alloc (by rw [World.size_alloc]; omega) _
      have e0 := fun o => CK.below (kA o) _ _ _ d0
      have e1 := fun o => CK.below (kA o) _ _ _ d1
      have e2 := fun o => CK.below (kA o) _ _ _ d2
      have e3 := fun o => CK.below (kA o) _ _ _ d3
      have g0 := fun o o' => CK.below (kB o o') _ _ _ d0
      have g1 := fun o o' => CK.below (kB o o') _ _ _ d1
      have g2 := fun o o' => CK.below (kB o o') _ _ _ d2
      have g3 := fun o o' => CK.below (kB o o') _ _ _ d3
      have HKB : Hid (∀ o o', Below W1.heap.size W1 ((W1.alloc o).alloc o')) := kB
      clear kA kB
      go_upto_region 6 with fail
      go_region
      · have kV : Below w.heap.size w ((W1.alloc (.cells #[.int .i64 fx, .int .i64 fy] 24)).alloc (.cells #[.int .i64 x, .int .i64 y] 24)).drew := (k1.trans ((HKB.out _ _).mono k1.size)).drew
        have h0 := k1.size
        have hB00 := heap_alloc_new (W1.alloc (.cells #[.int .i64 fx, .int .i64 fy] 24)) (.cells #[.int .i64 x, .int .i64 y] 24)
        rw [World.size_alloc] at hB00
        have hB0 : (((W1.alloc (.cells #[.int .i64 fx, .int .i64 fy] 24)).alloc (.cells #[.int .i64 x, .int .i64 y] 24)).drew).heap[W1.heap.size + 1]? = _ := hB00
        clear hB00
        have hA0 : (((W1.alloc (.cells #[.int .i64 fx, .int .i64 fy] 24)).alloc (.cells #[.int .i64 x, .int .i64 y] 24)).drew).heap[W1.heap.size]? = _ := (heap_alloc_old (W1.alloc (.cells #[.int .i64 fx, .int .i64 fy] 24)) (.cells #[.int .i64 x, .int .i64 y] 24) (r := W1.heap.size) (by rw [World.size_alloc]; omega)).trans (heap_alloc_new W1 (.cells #[.int .i64 fx, .int .i64 fy] 24))
        have hp9 : w.heap.size ≤ W1.heap.size := h0
        have hq9 : w.heap.size ≤ W1.heap.size + 1 := by omega
        have hpq : W1.heap.size ≠ W1.heap.size + 1 := by omega
        generalize ((W1.alloc (.cells #[.int .i64 fx, .int .i64 fy] 24)).alloc (.cells #[.int .i64 x, .int .i64 y] 24)).drew = V at *
        obtain ⟨p, hpe⟩ : ∃ z, W1.heap.size = z := ⟨_, rfl⟩
        obtain ⟨q, hqe⟩ : ∃ z, W1.heap.size + 1 = z := ⟨_, rfl⟩
        rw [hqe] at hB0 hpq hq9 ⊢
        rw [hpe] at hA0 hpq hp9 ⊢
        have hP := hA0
        have hQ := hB0
        have hpq2 := hpq.symm
        clear hqe hpe hA0 hB0 h0 k1
        clear HKB e0 e1 e2 e3 g0 g1 g2 g3 d0 d1 d2 d3 d4
        obtain ⟨p0, p1⟩ := cells2 hP
        obtain ⟨q0, q1⟩ := cells2 hQ
        have HAH := ahead_any x y fx fy
        cases hh : ahead x y fx fy
        · rw [hh] at HAH
          have hM : M = betM L fx fy x y := by rw [HM.out]; simp only [hh, Bool.false_eq_true, if_false, Int.toNat_natCast]
          obtain ⟨m1, m2⟩ := ahead_false hh
          have HB := fun W h t => between_any L (.slice a L.length c) fx fy x y W h t n3 n2 m1 (Int.ofNat_lt.1 n5) m2 n10
          rw [← hM] at HB
          clear hh hM HM
          go_wp2_with fail
          refine (HAH _).mono ?_
          rintro e2 W2 ⟨rfl, b2⟩
          have k2 := kV.trans (b2.mono kV.size)
          obtain ⟨p0, p1⟩ := cells2 (kept hP b2)
          obtain ⟨q0, q1⟩ := cells2 (kept hQ b2)
          clear hP hQ HAH kV b2
          go_wp2_with fail
          refine (HB _ (HLS.out _ k2) (HTB.out _ k2)).mono ?_
          rintro e3 W3 ⟨rfl, b3⟩
          have k3 := k2.trans (b3.mono k2.size)
          clear HB b3 p0 p1 q0 q1 n3
          by_cases hs : 4000 < M.size
          · rw [if_pos hs] at hE
            subst hE
            rw [if_neg (by decide)] at hT0
            subst hT0
            have is : (4000 : Int) < (M.size : Int) := Int.ofNat_lt.2 hs
            go_wp2_with fail
            go_ret2
            exact ⟨rfl, k3⟩
          · rw [if_neg hs] at hE
            subst hE
            rw [if_pos rfl] at hT0
            subst hT0
            have is : ¬ (4000 : Int) < (M.size : Int) := fun h => hs (Int.ofNat_lt.1 h)
            go_wp2_with fail
            go_ret2
            exact ⟨rfl, k3⟩
        · rw [hh] at HAH
          have hM : M = betM L x y fx fy := by rw [HM.out]; simp only [hh, if_true, Int.toNat_natCast]
          obtain ⟨m1, m2⟩ := ahead_true hh
          have HB := fun W h t => between_any L (.slice a L.length c) x y fx fy W h t n3 n2 m1 (Int.ofNat_lt.1 n9) m2 n6
          rw [← hM] at HB
          clear hh hM HM
          go_wp2_with fail
          refine (HAH _).mono ?_
          rintro e2 W2 ⟨rfl, b2⟩
          have k2 := kV.trans (b2.mono kV.size)
          have hP2 := kept hP b2
          have hQ2 := kept hQ b2
          obtain ⟨p0, p1⟩ := cells2 hP2
          obtain ⟨q0, q1⟩ := cells2 hQ2
          have fp : ∀ i, W2.frozen? ⟨p, i, none⟩ = false := fun i => by simp [World.frozen?, hP2]
          have fq : ∀ i, W2.frozen? ⟨q, i, none⟩ = false := fun i => by simp [World.frozen?, hQ2]
          have k3 : Below w.heap.size w ((((W2.setCell ⟨p, 0, none⟩ (.int .i64 x)).setCell ⟨p, 1, none⟩ (.int .i64 y)).setCell ⟨q, 0, none⟩ (.int .i64 fx)).setCell ⟨q, 1, none⟩ (.int .i64 fy)) := (((k2.setCell (p := ⟨p, 0, none⟩) hp9 _).setCell (p := ⟨p, 1, none⟩) hp9 _).setCell (p := ⟨q, 0, none⟩) hq9 _).setCell (p := ⟨q, 1, none⟩) hq9 _
          clear HAH kV b2 hP hQ
          go_wp2_with fail
          refine (HB _ (HLS.out _ k3) (HTB.out _ k3)).mono ?_
          rintro e3 W3 ⟨rfl, b3⟩
          have k4 := k3.trans (b3.mono k3.size)
          clear HB b3 p0 p1 q0 q1 n3 fp fq hP2 hQ2 k3
          by_cases hs : 4000 < M.size
          · rw [if_pos hs] at hE
            subst hE
            rw [if_neg (by decide)] at hT0
            subst hT0
            have is : (4000 : Int) < (M.size : Int) := Int.ofNat_lt.2 hs
            go_wp2_with fail
            go_ret2
            exact ⟨rfl, k4⟩
          · rw [if_neg hs] at hE
            subst hE
            rw [if_pos rfl] at hT0
            subst hT0
            have is : ¬ (4000 : Int) < (M.size : Int) := fun h => hs (Int.ofNat_lt.1 h)
            go_wp2_with fail
            go_ret2
            exact ⟨rfl, k4⟩
      · have kV : Below w.heap.size w ((W1.alloc (.cells #[.int .i64 x, .int .i64 y] 24)).alloc (.cells #[.int .i64 fx, .int .i64 fy] 24)).drew := (k1.trans ((HKB.out _ _).mono k1.size)).drew
        have h0 := k1.size
        have hB00 := heap_alloc_new (W1.alloc (.cells #[.int .i64 x, .int .i64 y] 24)) (.cells #[.int .i64 fx, .int .i64 fy] 24)
        rw [World.size_alloc] at hB00
        have hB0 : (((W1.alloc (.cells #[.int .i64 x, .int .i64 y] 24)).alloc (.cells #[.int .i64 fx, .int .i64 fy] 24)).drew).heap[W1.heap.size + 1]? = _ := hB00
        clear hB00
        have hA0 : (((W1.alloc (.cells #[.int .i64 x, .int .i64 y] 24)).alloc (.cells #[.int .i64 fx, .int .i64 fy] 24)).drew).heap[W1.heap.size]? = _ := (heap_alloc_old (W1.alloc (.cells #[.int .i64 x, .int .i64 y] 24)) (.cells #[.int .i64 fx, .int .i64 fy] 24) (r := W1.heap.size) (by rw [World.size_alloc]; omega)).trans (heap_alloc_new W1 (.cells #[.int .i64 x, .int .i64 y] 24))
        have hq9 : w.heap.size ≤ W1.heap.size := h0
        have hp9 : w.heap.size ≤ W1.heap.size + 1 := by omega
        have hpq : W1.heap.size ≠ W1.heap.size + 1 := by omega
        generalize ((W1.alloc (.cells #[.int .i64 x, .int .i64 y] 24)).alloc (.cells #[.int .i64 fx, .int .i64 fy] 24)).drew = V at *
        obtain ⟨q, hqe⟩ : ∃ z, W1.heap.size = z := ⟨_, rfl⟩
        obtain ⟨p, hpe⟩ : ∃ z, W1.heap.size + 1 = z := ⟨_, rfl⟩
        rw [hpe] at hB0 hpq hp9 ⊢
        rw [hqe] at hA0 hpq hq9 ⊢
        have hQ := hA0
        have hP := hB0
        have hpq2 := hpq.symm
        clear hpe hqe hA0 hB0 h0 k1
        clear HKB e0 e1 e2 e3 g0 g1 g2 g3 d0 d1 d2 d3 d4
        obtain ⟨p0, p1⟩ := cells2 hP
        obtain ⟨q0, q1⟩ := cells2 hQ
        have HAH := ahead_any x y fx fy
        cases hh : ahead x y fx fy
        · rw [hh] at HAH
          have hM : M = betM L fx fy x y := by rw [HM.out]; simp only [hh, Bool.false_eq_true, if_false, Int.toNat_natCast]
          obtain ⟨m1, m2⟩ := ahead_false hh
          have HB := fun W h t => between_any L (.slice a L.length c) fx fy x y W h t n3 n2 m1 (Int.ofNat_lt.1 n5) m2 n10
          rw [← hM] at HB
          clear hh hM HM
          go_wp2_with fail
          refine (HAH _).mono ?_
          rintro e2 W2 ⟨rfl, b2⟩
          have k2 := kV.trans (b2.mono kV.size)
          obtain ⟨p0, p1⟩ := cells2 (kept hP b2)
          obtain ⟨q0, q1⟩ := cells2 (kept hQ b2)
          clear hP hQ HAH kV b2
          go_wp2_with fail
          refine (HB _ (HLS.out _ k2) (HTB.out _ k2)).mono ?_
          rintro e3 W3 ⟨rfl, b3⟩
          have k3 := k2.trans (b3.mono k2.size)
          clear HB b3 p0 p1 q0 q1 n3
          by_cases hs : 4000 < M.size
          · rw [if_pos hs] at hE
            subst hE
            rw [if_neg (by decide)] at hT0
            subst hT0
            have is : (4000 : Int) < (M.size : Int) := Int.ofNat_lt.2 hs
            go_wp2_with fail
            go_ret2
            exact ⟨rfl, k3⟩
          · rw [if_neg hs] at hE
            subst hE
            rw [if_pos rfl] at hT0
            subst hT0
            have is : ¬ (4000 : Int) < (M.size : Int) := fun h => hs (Int.ofNat_lt.1 h)
            go_wp2_with fail
            go_ret2
            exact ⟨rfl, k3⟩
        · rw [hh] at HAH
          have hM : M = betM L x y fx fy := by rw [HM.out]; simp only [hh, if_true, Int.toNat_natCast]
          obtain ⟨m1, m2⟩ := ahead_true hh
          have HB := fun W h t => between_any L (.slice a L.length c) x y fx fy W h t n3 n2 m1 (Int.ofNat_lt.1 n9) m2 n6
          rw [← hM] at HB
          clear hh hM HM
          go_wp2_with fail
          refine (HAH _).mono ?_
          rintro e2 W2 ⟨rfl, b2⟩
          have k2 := kV.trans (b2.mono kV.size)
          have hP2 := kept hP b2
          have hQ2 := kept hQ b2
          obtain ⟨p0, p1⟩ := cells2 hP2
          obtain ⟨q0, q1⟩ := cells2 hQ2
          have fp : ∀ i, W2.frozen? ⟨p, i, none⟩ = false := fun i => by simp [World.frozen?, hP2]
          have fq : ∀ i, W2.frozen? ⟨q, i, none⟩ = false := fun i => by simp [World.frozen?, hQ2]
          have k3 : Below w.heap.size w ((((W2.setCell ⟨p, 0, none⟩ (.int .i64 x)).setCell ⟨p, 1, none⟩ (.int .i64 y)).setCell ⟨q, 0, none⟩ (.int .i64 fx)).setCell ⟨q, 1, none⟩ (.int .i64 fy)) := (((k2.setCell (p := ⟨p, 0, none⟩) hp9 _).setCell (p := ⟨p, 1, none⟩) hp9 _).setCell (p := ⟨q, 0, none⟩) hq9 _).setCell (p := ⟨q, 1, none⟩) hq9 _
          clear HAH kV b2 hP hQ
          go_wp2_with fail
          refine (HB _ (HLS.out _ k3) (HTB.out _ k3)).mono ?_
          rintro e3 W3 ⟨rfl, b3⟩
          have k4 := k3.trans (b3.mono k3.size)
          clear HB b3 p0 p1 q0 q1 n3 fp fq hP2 hQ2 k3
          by_cases hs : 4000 < M.size
          · rw [if_pos hs] at hE
            subst hE
            rw [if_neg (by decide)] at hT0
            subst hT0
            have is : (4000 : Int) < (M.size : Int) := Int.ofNat_lt.2 hs
            go_wp2_with fail
            go_ret2
            exact ⟨rfl, k4⟩
          · rw [if_neg hs] at hE
            subst hE
            rw [if_pos rfl] at hT0
            subst hT0
            have is : ¬ (4000 : Int) < (M.size : Int) := fun h => hs (Int.ofNat_lt.1 h)
            go_wp2_with fail
            go_ret2
            exact ⟨rfl, k4⟩
  · have jR : (R == 0) = false := by rw [beq_eq_false_iff_ne]; exact hR
    have jn : (R != 0) = true := by rw [bne, jR]; rfl
    rw [if_neg hR] at hE
    subst hE
    rw [if_neg hR] at hT0
    subst hT0
    go_enter Tryd.func13, Tryd.ntmps13
    go_wp2_with fail
    refine (HC _ kb).mono ?_
    rintro e1 W1 ⟨rfl, b1⟩
    have k1 := kb.trans (b1.mono kb.size)
    go_wp2_with fail
    go_ret2
    exact ⟨rfl, k1⟩
end Cpy
end Go.Proofs.YtlodmffiengnaaaDoor

/- Package copying: the closed fact's numbers. -/
namespace Go.Proofs.YtlodmffiengnaaaDoor
open Go.ChangeShapes Go.WideShapes Go.ChangeAt Go.RowKit Go.Maps
namespace Cpy
open Txt (bs)
def la : ByteArray := ⟨#[111, 110, 101, 32, 116, 119, 111]⟩
def lb : ByteArray := ⟨#[230, 151, 165, 230, 156, 172, 32, 120]⟩
def L0 : List ByteArray := [la, lb]
def sk : ByteArray := ⟨#[230, 156, 172]⟩
theorem chk0 : chk L0 zCp = 0 := by kernel_rfl
theorem chk1 : chk L0 ⟨4, 0, 0, 0, false⟩ = 0 := by kernel_rfl
theorem chk2 : chk L0 ⟨4, 0, 4, 0, true⟩ = 0 := by kernel_rfl
theorem chk3 : chk L0 ⟨2, 1, 4, 0, true⟩ = 0 := by kernel_rfl
theorem spa : sp la = [(111, 0), (110, 1), (101, 2), (32, 3), (116, 4), (119, 5), (111, 6)] := by kernel_rfl
theorem spb : sp lb = [(26085, 0), (26412, 2), (32, 4), (120, 5)] := by kernel_rfl
theorem spk : what sk = [26412] := by kernel_rfl
theorem wd0 : wordM L0 0 0 = (4, 0) := by kernel_rfl
theorem sk0 : seekM L0 4 0 [26412] = some (2, 1) := by kernel_rfl
theorem tk0 : betM L0 4 0 2 1 = ⟨#[116, 119, 111, 10, 230, 151, 165, 230, 156, 172]⟩ := by kernel_rfl
end Cpy
end Go.Proofs.YtlodmffiengnaaaDoor

/- Package copying: the closed fact: a word, marked, sought, taken. -/
namespace Go.Proofs.YtlodmffiengnaaaDoor
open Go.ChangeShapes Go.WideShapes Go.ChangeAt Go.RowKit Go.Maps Go.Sort
namespace Cpy
open Txt (Tab)
def k1 : Cp := ⟨4, 0, 0, 0, false⟩
def k2 : Cp := ⟨4, 0, 4, 0, true⟩
def k3 : Cp := ⟨2, 1, 4, 0, true⟩
theorem wordK0 : wordK L0 zCp = k1 := by
  unfold wordK
  rw [show wordM L0 zCp.x zCp.y.toNat = (4, 0) from wd0]
  rfl
theorem seekCE0 : seekCE L0 k2 sk = 0 := by
  unfold seekCE
  rw [if_neg (by rw [spk]; decide), spk]
  rw [show seekM L0 k2.x k2.y.toNat [26412] = some (2, 1) from sk0]
  rfl
theorem seekCK0 : seekCK L0 k2 sk = k3 := by
  unfold seekCK
  rw [if_neg (by rw [spk]; decide), spk]
  rw [show seekM L0 k2.x k2.y.toNat [26412] = some (2, 1) from sk0]
  rfl
theorem takeM0 : takeM L0 k3 = ⟨#[116, 119, 111, 10, 230, 151, 165, 230, 156, 172]⟩ := by
  unfold takeM
  rw [if_neg (by decide)]
  exact tk0
theorem takeE0 : takeE L0 k3 = 0 := by
  unfold takeE
  rw [takeM0, if_pos (show chk L0 k3 = 0 from chk3)]
  decide
theorem takeT0 : takeT L0 k3 = ⟨#[116, 119, 111, 10, 230, 151, 165, 230, 156, 172]⟩ := by
  unfold takeT
  rw [takeE0, if_pos rfl, takeM0]
theorem two_texts (w : World) (a b : ByteArray) : LsAt (w.alloc (.cells #[.string a, .string b] 9)) (.slice (some ⟨w.heap.size, 0, none⟩) 2 2) [a, b] := by
  refine ⟨_, _, rfl, .inr ⟨_, _, rfl, fun j x hx => ?_⟩⟩
  unfold World.cell?
  rw [heap_alloc_new, Nat.zero_add]
  match j, hx with
  | 0, hx => rw [← Option.some.inj hx]; rfl
  | 1, hx => rw [← Option.some.inj hx]; rfl
  | n + 2, hx => simp at hx
set_option maxHeartbeats 16000000 in
set_option maxRecDepth 100000 in
theorem copied_any (w : World) (hT : Tab w) (hM : MaxAt w) :
    Calls Tryd.prog 9 #[] w fun e w' => e = .returned (.bool true) ∧ Below w.heap.size w w' := by
  have kb : Below w.heap.size w (w.alloc (.cells #[.string la, .string lb] 9)) := (Below.refl _ _).alloc (Nat.le_refl _) _
  have HLS : Hid (∀ V, Below (w.alloc (.cells #[.string la, .string lb] 9)).heap.size (w.alloc (.cells #[.string la, .string lb] 9)) V → LsAt V (.slice (some ⟨w.heap.size, 0, none⟩) 2 2) L0) := fun V hV => (two_texts w la lb).below hV
  have HTB : Hid (∀ V, Below w.heap.size w V → Tab V) := fun V hV => hT.below hV hT.pos
  have HMB : Hid (∀ V, Below w.heap.size w V → MaxAt V) := fun V hV => hM.below hV
  have HL0 := HLS.out _ (Below.refl _ _)
  have H1 := move_any L0 (.slice (some ⟨w.heap.size, 0, none⟩) 2 2) zCp k1 ⟨#[119, 111, 114, 100]⟩ 0 _ HL0 (fun hc => by
    rw [← wordK0]
    exact word_how L0 _ zCp _ (HTB.out _ kb) hc)
  rw [chk0] at H1
  have H2 := fun V h => select_any L0 (.slice (some ⟨w.heap.size, 0, none⟩) 2 2) k1 true V h
  rw [show chk L0 k1 = 0 from chk1] at H2
  have H3 := fun V h (ht : Tab V) (hm : MaxAt V) => seek_any L0 (.slice (some ⟨w.heap.size, 0, none⟩) 2 2) k2 k3 sk 0 V h (fun hc => by
    rw [← seekCE0, ← seekCK0]
    exact seek_how L0 _ k2 sk V ht hm hc)
  rw [show chk L0 k2 = 0 from chk2] at H3
  have H4 := fun V h (ht : Tab V) => take_any L0 (.slice (some ⟨w.heap.size, 0, none⟩) 2 2) k3 V h ht
  rw [takeE0, takeT0] at H4
  have q1 : chgK 0 0 k1 = k1 := rfl
  have q2 : chgK 0 0 (selK k1 true) = k2 := rfl
  have q3 : chgK 0 0 k3 = k3 := rfl
  have qe : chgE 0 0 = 0 := rfl
  rw [q1, qe] at H1
  rw [q2, qe] at H2
  rw [q3, qe] at H3
  simp only [Cp.cells, k1, k2, k3] at H1 H2 H3 H4
  clear q1 q2 q3 qe hT hM HL0
  go_enter Tryd.func9, Tryd.ntmps9
  go_wp2_with fail
  refine H1.mono ?_
  rintro e W1 ⟨rfl, b1⟩
  have kk := b1
  have kw1 := kk
  have ka1 := kb.trans (b1.mono kb.size)
  have kc1A : Below W1.heap.size W1 (W1.alloc (.cells #[.int .i64 4, .int .i64 0, .int .i64 0, .int .i64 0, .bool false] 26)) := (Below.refl _ _).alloc (Nat.le_refl _) _
  have x1 : BoxAt (W1.alloc (.cells #[.int .i64 4, .int .i64 0, .int .i64 0, .int .i64 0, .bool false] 26)) W1.heap.size ⟨4, 0, 0, 0, false⟩ := heap_alloc_new W1 (.cells #[.int .i64 4, .int .i64 0, .int .i64 0, .int .i64 0, .bool false] 26)
  have kc1 := kw1.trans (kc1A.mono kw1.size)
  obtain ⟨⟨c0, c1, c2, c3, c4⟩, _⟩ := x1.cells
  simp only [] at c0 c1 c2 c3 c4
  go_wp2_with fail
  refine (H2 _ (HLS.out _ kc1)).mono ?_
  rintro e W2 ⟨rfl, b2⟩
  have y1 := x1.below b2
  have kw2 := kc1.trans (b2.mono kc1.size)
  have kc2A : Below W2.heap.size W2 (W2.alloc (.cells #[.int .i64 4, .int .i64 0, .int .i64 4, .int .i64 0, .bool true] 26)) := (Below.refl _ _).alloc (Nat.le_refl _) _
  have x2 : BoxAt (W2.alloc (.cells #[.int .i64 4, .int .i64 0, .int .i64 4, .int .i64 0, .bool true] 26)) W2.heap.size ⟨4, 0, 4, 0, true⟩ := heap_alloc_new W2 (.cells #[.int .i64 4, .int .i64 0, .int .i64 4, .int .i64 0, .bool true] 26)
  have kc2 := kw2.trans (kc2A.mono kw2.size)
  have y1a := y1.below kc2A
  obtain ⟨⟨d0, d1, d2, d3, d4⟩, _⟩ := x2.cells
  simp only [] at d0 d1 d2 d3 d4
  have ke2 := kb.trans (kc2.mono kb.size)
  clear H2 c0 c1 c2 c3 c4
  go_wp2_with fail
  refine (H3 _ (HLS.out _ kc2) (HTB.out _ ke2) (HMB.out _ ke2)).mono ?_
  rintro e W3 ⟨rfl, b3⟩
  have y1b := y1a.below b3
  have kw3 := kc2.trans (b3.mono kc2.size)
  have kc3A : Below W3.heap.size W3 (W3.alloc (.cells #[.int .i64 2, .int .i64 1, .int .i64 4, .int .i64 0, .bool true] 26)) := (Below.refl _ _).alloc (Nat.le_refl _) _
  have x3 : BoxAt (W3.alloc (.cells #[.int .i64 2, .int .i64 1, .int .i64 4, .int .i64 0, .bool true] 26)) W3.heap.size ⟨2, 1, 4, 0, true⟩ := heap_alloc_new W3 (.cells #[.int .i64 2, .int .i64 1, .int .i64 4, .int .i64 0, .bool true] 26)
  have kc3 := kw3.trans (kc3A.mono kw3.size)
  have y1c := y1b.below kc3A
  obtain ⟨⟨f0, f1, f2, f3, f4⟩, _⟩ := x3.cells
  simp only [] at f0 f1 f2 f3 f4
  have ke3 := kb.trans (kc3.mono kb.size)
  clear H3 d0 d1 d2 d3 d4
  go_wp2_with fail
  refine (H4 _ (HLS.out _ kc3) (HTB.out _ ke3)).mono ?_
  rintro e W4 ⟨rfl, b4⟩
  have y1d := y1c.below b4
  obtain ⟨⟨g0, g1, g2, g3, g4⟩, _⟩ := y1d.cells
  simp only [] at g0 g1 g2 g3 g4
  have ke4 := ke3.trans (b4.mono ke3.size)
  clear H4 f0 f1 f2 f3 f4
  go_wp2_with fail
  go_ret
  exact ⟨rfl, ke4⟩
end Cpy
end Go.Proofs.YtlodmffiengnaaaDoor

/- The law CopyMove. (Written by gen_cpymovel.py.) -/
namespace Go.Proofs.YtlodmffiengnaaaDoor
open Go.ChangeShapes Go.WideShapes Go.ChangeAt Go.RowKit Go.Maps Go.Sort
namespace Cpy
open Txt (Tab)
theorem chk_z {L : List ByteArray} {k : Cp} (h : chk L k = 0) : chk L zCp = 0 := by
  obtain ⟨h1, h2, h3, _, _⟩ := chk_zero h
  unfold chk at h ⊢
  by_cases ho : okL L = true
  · rw [if_pos ho, if_pos (by unfold okM zCp; simp; omega)]
  · rw [if_neg ho] at h; omega
theorem cells5 {w : World} {g : Nat} {a b c d e : Value} {t : TypeId} (h : w.heap[g]? = some (.cells #[a, b, c, d, e] t (0, 0))) : w.cell? ⟨g, 0, none⟩ = some a ∧ w.cell? ⟨g, 1, none⟩ = some b ∧ w.cell? ⟨g, 2, none⟩ = some c ∧ w.cell? ⟨g, 3, none⟩ = some d ∧ w.cell? ⟨g, 4, none⟩ = some e := by
  unfold World.cell?
  rw [h]
  exact ⟨rfl, rfl, rfl, rfl, rfl⟩
set_option maxHeartbeats 16000000 in
set_option maxRecDepth 100000 in
theorem copyMove_walk (L : List ByteArray) (v : Value) (k : Cp) (s : ByteArray) (w : World) (h : LsAt w v L) (hT : Tab w) (hM : MaxAt w) :
    Calls Tryd.prog 3 #[v, .agg k.cells, .string s] w fun e w' => e = .returned (.bool true) ∧ Below w.heap.size w w' := by
  have kb : Below w.heap.size w (w.alloc (.cells k.cells 26)) := (Below.refl _ _).alloc (Nat.le_refl _) _
  have Y0 : BoxAt (w.alloc (.cells k.cells 26)) w.heap.size k := heap_alloc_new w (.cells k.cells 26)
  have HLS : Hid (∀ V, Below w.heap.size w V → LsAt V v L) := fun V hV => h.below hV
  have HTB : Hid (∀ V, Below w.heap.size w V → Tab V) := fun V hV => hT.below hV hT.pos
  have HMB : Hid (∀ V, Below w.heap.size w V → MaxAt V) := fun V hV => hM.below hV
  have HC := fun V (hV : Below w.heap.size w V) => copied_any V (HTB.out V hV) (HMB.out V hV)
  have H1 := fun V (hV : Below w.heap.size w V) => moves_any L v k s V (HLS.out V hV) (HTB.out V hV)
  have H2 := fun V (hV : Below w.heap.size w V) => begin_any L v V (HLS.out V hV)
  have H3 := fun V (hV : Below w.heap.size w V) => bad_any L v k V (HLS.out V hV)
  have H4 := fun V (hV : Below w.heap.size w V) => check_any L v k V (HLS.out V hV)
  have H5 := fun V (hV : Below w.heap.size w V) => bad_any L v zCp V (HLS.out V hV)
  have HCK : Hid (chk L zCp = 0 → 1 ≤ L.length ∧ L.length ≤ 110) := fun h => ⟨(chk_zero h).1, (chk_zero h).2.1⟩
  have HCZ : Hid (chk L k = 0 → chk L zCp = 0) := chk_z
  have HWN := fun V (hV : Below w.heap.size w V) (hc : chk L k = 0) => went_any L v k s V (HLS.out V hV) hc
  have HMR := moveK_rest L k s
  have HME := moveE_cases s
  obtain ⟨a, c, rfl, _⟩ := h
  clear hT hM
  by_cases hF : chk L zCp = 0
  rotate_left
  · have hR : ¬ chk L k = 0 := fun h => hF (HCZ.out h)
    have hk1 : chgK (chk L k) (moveE s) (moveK L k s) = zCp := by unfold chgK; rw [if_neg (fun h => hR h.1)]
    have he1 : chgE (chk L k) (moveE s) = chk L k := by unfold chgE; rw [if_neg hR]
    have hk2 : chgK (chk L zCp) 0 (beginK L zCp) = zCp := by unfold chgK; rw [if_neg (fun h => hF h.1)]
    have he2 : chgE (chk L zCp) 0 = chk L zCp := by unfold chgE; rw [if_neg hF]
    rw [hk1, he1] at H1
    rw [hk2, he2] at H2
    clear hk1 hk2 he1 he2 HCK HCZ HWN HMR HME
    generalize chk L k = R at *
    generalize chk L zCp = F at *
    obtain ⟨x, y, fx, fy, on⟩ := k
    simp only [Cp.cells, zCp] at *
    have jR : (R == 0) = false := by rw [beq_eq_false_iff_ne]; exact hR
    have jn : (R != 0) = true := by rw [bne, jR]; rfl
    have jF : (F == 0) = false := by rw [beq_eq_false_iff_ne]; exact hF
    have jm : (F != 0) = true := by rw [bne, jF]; rfl
    go_enter Tryd.func3, Tryd.ntmps3
    go_wp2_with fail
    refine (H1 _ kb).mono ?_
    rintro e W1 ⟨rfl, b1⟩
    have k1 := kb.trans (b1.mono kb.size)
    have kA : Below W1.heap.size W1 (W1.alloc (.cells #[.int .i64 0, .int .i64 0, .int .i64 0, .int .i64 0, .bool false] 26)) := (Below.refl _ _).alloc (Nat.le_refl _) _
    have X1 := heap_alloc_new W1 (.cells #[.int .i64 0, .int .i64 0, .int .i64 0, .int .i64 0, .bool false] 26)
    have k2 := k1.trans (kA.mono k1.size)
    have Y2 := (Y0.below b1).below kA
    have hW1 : w.heap.size < W1.heap.size := (Y0.below b1).lt
    clear H1 kA b1 Y0
    go_wp2_with fail
    refine (H2 _ k2).mono ?_
    rintro e W2 ⟨rfl, b2⟩
    have k3 := k2.trans (b2.mono k2.size)
    have kB : Below W2.heap.size W2 (W2.alloc (.cells #[.int .i64 0, .int .i64 0, .int .i64 0, .int .i64 0, .bool false] 26)) := (Below.refl _ _).alloc (Nat.le_refl _) _
    have B1 := heap_alloc_new W2 (.cells #[.int .i64 0, .int .i64 0, .int .i64 0, .int .i64 0, .bool false] 26)
    have k4 := k3.trans (kB.mono k3.size)
    have Y3 := (Y2.below b2).below kB
    have X3 := kept (kept X1 b2) kB
    clear H2 kB b2 X1 Y2
    obtain ⟨⟨c0, c1, c2, c3, c4⟩, _⟩ := Y3.cells
    simp only [] at c0 c1 c2 c3 c4
    go_wp2_with fail
    refine (H3 _ k4).mono ?_
    rintro e W3 ⟨rfl, b3⟩
    have k5 := k4.trans (b3.mono k4.size)
    have Y4 := Y3.below b3
    have X4 := kept X3 b3
    have B4 := kept B1 b3
    clear H3 b3 Y3 X3 B1 c0 c1 c2 c3 c4
    go_wp2_with fail
    refine (HC _ k5).mono ?_
    rintro e W4 ⟨rfl, b4⟩
    have k6 := k5.trans (b4.mono k5.size)
    have Y5 := Y4.below b4
    have X5 := kept X4 b4
    have B5 := kept B4 b4
    clear b4 Y4 X4 B4
    obtain ⟨⟨c0, c1, c2, c3, c4⟩, _⟩ := Y5.cells
    simp only [] at c0 c1 c2 c3 c4
    go_wp2_with fail
    refine (H4 _ k6).mono ?_
    rintro e W5 ⟨rfl, b5⟩
    have k7 := k6.trans (b5.mono k6.size)
    have Y6 := Y5.below b5
    have X6 := kept X5 b5
    have B6 := kept B5 b5
    clear H4 b5 Y5 X5 B5 c0 c1 c2 c3 c4
    go_wp2_with fail
    refine (H5 _ k7).mono ?_
    rintro e W6 ⟨rfl, b6⟩
    have k8 := k7.trans (b6.mono k7.size)
    have Y7 := Y6.below b6
    have X7 := cells5 (kept X6 b6)
    have B7 := cells5 (kept B6 b6)
    have X8 := kept X6 b6
    clear H5 b6 Y6 X6 B6
    obtain ⟨⟨c0, c1, c2, c3, c4⟩, hfY⟩ := Y7.cells
    obtain ⟨x0, x1, x2, x3, x4⟩ := X7
    obtain ⟨d0, d1, d2, d3, d4⟩ := B7
    simp only [] at c0 c1 c2 c3 c4
    go_wp2_with fail
    go_ret
    exact ⟨rfl, k8⟩
  · obtain ⟨n1, n2⟩ := HCK.out hF
    have hk2 : chgK (chk L zCp) 0 (beginK L zCp) = ⟨0, (L.length : Int) - 1, 0, 0, false⟩ := by
      unfold chgK
      rw [if_pos ⟨hF, rfl⟩]
      rfl
    have he2 : chgE (chk L zCp) 0 = 0 := by unfold chgE; rw [if_pos hF]
    rw [hk2, he2] at H2
    rw [hF] at H5
    have hwl : wrap64 ((L.length : Int) - 1) = (L.length : Int) - 1 := w64_less (by omega)
    clear hk2 he2 HCK HCZ hF
    by_cases hR : chk L k = 0
    rotate_left
    · have hk1 : chgK (chk L k) (moveE s) (moveK L k s) = zCp := by unfold chgK; rw [if_neg (fun h => hR h.1)]
      have he1 : chgE (chk L k) (moveE s) = chk L k := by unfold chgE; rw [if_neg hR]
      rw [hk1, he1] at H1
      clear hk1 he1 HWN HMR HME
      generalize chk L k = R at *
      obtain ⟨x, y, fx, fy, on⟩ := k
      simp only [Cp.cells, zCp] at *
      have jR : (R == 0) = false := by rw [beq_eq_false_iff_ne]; exact hR
      have jn : (R != 0) = true := by rw [bne, jR]; rfl
      go_enter Tryd.func3, Tryd.ntmps3
      go_wp2_with fail
      refine (H1 _ kb).mono ?_
      rintro e W1 ⟨rfl, b1⟩
      have k1 := kb.trans (b1.mono kb.size)
      have kA : Below W1.heap.size W1 (W1.alloc (.cells #[.int .i64 0, .int .i64 0, .int .i64 0, .int .i64 0, .bool false] 26)) := (Below.refl _ _).alloc (Nat.le_refl _) _
      have X1 := heap_alloc_new W1 (.cells #[.int .i64 0, .int .i64 0, .int .i64 0, .int .i64 0, .bool false] 26)
      have k2 := k1.trans (kA.mono k1.size)
      have Y2 := (Y0.below b1).below kA
      have hW1 : w.heap.size < W1.heap.size := (Y0.below b1).lt
      clear H1 kA b1 Y0
      go_wp2_with fail
      refine (H2 _ k2).mono ?_
      rintro e W2 ⟨rfl, b2⟩
      have k3 := k2.trans (b2.mono k2.size)
      have kB : Below W2.heap.size W2 (W2.alloc (.cells #[.int .i64 0, .int .i64 ((L.length : Int) - 1), .int .i64 0, .int .i64 0, .bool false] 26)) := (Below.refl _ _).alloc (Nat.le_refl _) _
      have B1 := heap_alloc_new W2 (.cells #[.int .i64 0, .int .i64 ((L.length : Int) - 1), .int .i64 0, .int .i64 0, .bool false] 26)
      have k4 := k3.trans (kB.mono k3.size)
      have Y3 := (Y2.below b2).below kB
      have X3 := kept (kept X1 b2) kB
      clear H2 kB b2 X1 Y2
      obtain ⟨⟨c0, c1, c2, c3, c4⟩, _⟩ := Y3.cells
      simp only [] at c0 c1 c2 c3 c4
      go_wp2_with fail
      refine (H3 _ k4).mono ?_
      rintro e W3 ⟨rfl, b3⟩
      have k5 := k4.trans (b3.mono k4.size)
      have Y4 := Y3.below b3
      have X4 := kept X3 b3
      have B4 := kept B1 b3
      clear H3 b3 Y3 X3 B1 c0 c1 c2 c3 c4
      go_wp2_with fail
      refine (HC _ k5).mono ?_
      rintro e W4 ⟨rfl, b4⟩
      have k6 := k5.trans (b4.mono k5.size)
      have Y5 := Y4.below b4
      have X5 := kept X4 b4
      have B5 := kept B4 b4
      clear b4 Y4 X4 B4
      obtain ⟨⟨c0, c1, c2, c3, c4⟩, _⟩ := Y5.cells
      simp only [] at c0 c1 c2 c3 c4
      go_wp2_with fail
      refine (H4 _ k6).mono ?_
      rintro e W5 ⟨rfl, b5⟩
      have k7 := k6.trans (b5.mono k6.size)
      have Y6 := Y5.below b5
      have X6 := kept X5 b5
      have B6 := kept B5 b5
      clear H4 b5 Y5 X5 B5 c0 c1 c2 c3 c4
      go_wp2_with fail
      refine (H5 _ k7).mono ?_
      rintro e W6 ⟨rfl, b6⟩
      have k8 := k7.trans (b6.mono k7.size)
      have Y7 := Y6.below b6
      have X7 := cells5 (kept X6 b6)
      have B7 := cells5 (kept B6 b6)
      have X8 := kept X6 b6
      clear H5 b6 Y6 X6 B6
      obtain ⟨⟨c0, c1, c2, c3, c4⟩, hfY⟩ := Y7.cells
      obtain ⟨x0, x1, x2, x3, x4⟩ := X7
      obtain ⟨d0, d1, d2, d3, d4⟩ := B7
      simp only [] at c0 c1 c2 c3 c4
      go_wp2_with fail
      go_ret
      exact ⟨rfl, k8⟩
    · have HW := fun V hV => HWN V hV hR
      rw [hR] at H1 H3 H4
      clear HWN hR
      rcases HME with hE | hE
      · have hk1 : chgK 0 (moveE s) (moveK L k s) = ⟨min (moveK L k s).x 120, (moveK L k s).y, k.fx, k.fy, k.on⟩ := by
          unfold chgK
          rw [if_pos ⟨rfl, hE⟩, ← HMR.1, ← HMR.2.1, ← HMR.2.2]
        have he1 : chgE 0 (moveE s) = 0 := by unfold chgE; rw [if_pos rfl, hE]
        rw [hk1, he1] at H1
        rw [hE, show ((0 : Int) == 0) = true from rfl] at HW
        clear hk1 he1 HMR hE
        generalize (moveK L k s).x = mx at *
        generalize (moveK L k s).y = my at *
        obtain ⟨x, y, fx, fy, on⟩ := k
        simp only [Cp.cells, zCp] at *
        go_enter Tryd.func3, Tryd.ntmps3
        go_wp2_with fail
        refine (H1 _ kb).mono ?_
        rintro e W1 ⟨rfl, b1⟩
        have k1 := kb.trans (b1.mono kb.size)
        have kA : Below W1.heap.size W1 (W1.alloc (.cells #[.int .i64 (min mx 120), .int .i64 my, .int .i64 fx, .int .i64 fy, .bool on] 26)) := (Below.refl _ _).alloc (Nat.le_refl _) _
        have X1 := heap_alloc_new W1 (.cells #[.int .i64 (min mx 120), .int .i64 my, .int .i64 fx, .int .i64 fy, .bool on] 26)
        have k2 := k1.trans (kA.mono k1.size)
        have Y2 := (Y0.below b1).below kA
        have hW1 : w.heap.size < W1.heap.size := (Y0.below b1).lt
        clear H1 kA b1 Y0
        go_wp2_with fail
        refine (H2 _ k2).mono ?_
        rintro e W2 ⟨rfl, b2⟩
        have k3 := k2.trans (b2.mono k2.size)
        have kB : Below W2.heap.size W2 (W2.alloc (.cells #[.int .i64 0, .int .i64 ((L.length : Int) - 1), .int .i64 0, .int .i64 0, .bool false] 26)) := (Below.refl _ _).alloc (Nat.le_refl _) _
        have B1 := heap_alloc_new W2 (.cells #[.int .i64 0, .int .i64 ((L.length : Int) - 1), .int .i64 0, .int .i64 0, .bool false] 26)
        have k4 := k3.trans (kB.mono k3.size)
        have Y3 := (Y2.below b2).below kB
        have X3 := kept (kept X1 b2) kB
        clear H2 kB b2 X1 Y2
        obtain ⟨⟨c0, c1, c2, c3, c4⟩, _⟩ := Y3.cells
        simp only [] at c0 c1 c2 c3 c4
        go_wp2_with fail
        refine (H3 _ k4).mono ?_
        rintro e W3 ⟨rfl, b3⟩
        have k5 := k4.trans (b3.mono k4.size)
        have Y4 := Y3.below b3
        have X4 := kept X3 b3
        have B4 := kept B1 b3
        clear H3 b3 Y3 X3 B1 c0 c1 c2 c3 c4
        go_wp2_with fail
        refine (HC _ k5).mono ?_
        rintro e W4 ⟨rfl, b4⟩
        have k6 := k5.trans (b4.mono k5.size)
        have Y5 := Y4.below b4
        have X5 := kept X4 b4
        have B5 := kept B4 b4
        clear b4 Y4 X4 B4
        obtain ⟨⟨c0, c1, c2, c3, c4⟩, _⟩ := Y5.cells
        simp only [] at c0 c1 c2 c3 c4
        go_wp2_with fail
        refine (H4 _ k6).mono ?_
        rintro e W5 ⟨rfl, b5⟩
        have k7 := k6.trans (b5.mono k6.size)
        have Y6 := Y5.below b5
        have X6 := kept X5 b5
        have B6 := kept B5 b5
        clear H4 b5 Y5 X5 B5 c0 c1 c2 c3 c4
        go_wp2_with fail
        refine (H5 _ k7).mono ?_
        rintro e W6 ⟨rfl, b6⟩
        have k8 := k7.trans (b6.mono k7.size)
        have Y7 := Y6.below b6
        have X7 := cells5 (kept X6 b6)
        have B7 := cells5 (kept B6 b6)
        have X8 := kept X6 b6
        clear H5 b6 Y6 X6 B6
        obtain ⟨⟨c0, c1, c2, c3, c4⟩, hfY⟩ := Y7.cells
        obtain ⟨x0, x1, x2, x3, x4⟩ := X7
        obtain ⟨d0, d1, d2, d3, d4⟩ := B7
        simp only [] at c0 c1 c2 c3 c4
        go_wp2_with fail
        refine (HW _ k8).mono ?_
        rintro e W7 ⟨rfl, b7⟩
        have k9 := k8.trans (b7.mono k8.size)
        have Y8 := Y7.below b7
        have X9 := cells5 (kept X8 b7)
        have kA : Below W7.heap.size W7 (W7.alloc (.cells #[.int .i64 mx, .int .i64 my] 24)) := (Below.refl _ _).alloc (Nat.le_refl _) _
        have M1 := heap_alloc_new W7 (.cells #[.int .i64 mx, .int .i64 my] 24)
        have Y9 := Y8.below kA
        have hY8 := Y8
        have X10 := kept (kept X8 b7) kA
        have hX7 : W1.heap.size < W7.heap.size := (Array.getElem?_eq_some_iff.1 (kept X8 b7)).1
        obtain ⟨⟨c0, c1, c2, c3, c4⟩, hfY⟩ := Y9.cells
        obtain ⟨x0, x1, x2, x3, x4⟩ := cells5 X10
        obtain ⟨m0, m1⟩ := cells2 M1
        have k10 := k9.trans (kA.mono k9.size)
        clear HW X8 X9 Y7 Y8 k8 b7 kA
        simp only [] at c0 c1 c2 c3 c4
        have f0 := hfY 0
        have f1 := hfY 1
        have hs9 := k9.size
        have hs8 := Y9.lt
        have hlt9 : w.heap.size < W7.heap.size := by
          have := hY8.lt
          clear hwl
          omega
        have hne : W7.heap.size ≠ w.heap.size := by clear hwl; omega
        have hne2 : w.heap.size ≠ W7.heap.size := hne.symm
        have hx7 : W1.heap.size < W7.heap.size := hX7
        have hn3 : W1.heap.size ≠ w.heap.size := by clear hwl; omega
        have hn4 : w.heap.size ≠ W1.heap.size := hn3.symm
        have hn5 : W1.heap.size ≠ W7.heap.size := by clear hwl; omega
        have hn6 : W7.heap.size ≠ W1.heap.size := hn5.symm
        have hwm : wrap64 (min mx 120) = min mx 120 ∨ True := .inr trivial
        clear hwm
        go_upto_region 17 with fail
        generalize W7.alloc (.cells #[.int .i64 mx, .int .i64 my] 24) = W8 at *
        have fm : ∀ i, W8.frozen? ⟨W7.heap.size, i, none⟩ = false := fun i => by simp [World.frozen?, M1]
        have kE := ((k10.setCell (p := ⟨W7.heap.size, 0, none⟩) hs9 (.int .i64 (min mx 120))).setCell (p := ⟨w.heap.size, 0, none⟩) (Nat.le_refl _) (.int .i64 (min mx 120))).setCell (p := ⟨w.heap.size, 1, none⟩) (Nat.le_refl _) (.int .i64 my)
        go_wp2_with fail
        go_ret
        exact ⟨rfl, kE⟩
      · have hk1 : chgK 0 (moveE s) (moveK L k s) = zCp := by
          unfold chgK
          rw [if_neg (fun h => by rw [hE] at h; exact absurd h.2 (by decide))]
        have he1 : chgE 0 (moveE s) = 6 := by unfold chgE; rw [if_pos rfl, hE]
        rw [hk1, he1] at H1
        rw [hE, show ((6 : Int) == 0) = false from rfl] at HW
        clear hk1 he1 HMR hE
        generalize (moveK L k s).x = mx at *
        generalize (moveK L k s).y = my at *
        obtain ⟨x, y, fx, fy, on⟩ := k
        simp only [Cp.cells, zCp] at *
        go_enter Tryd.func3, Tryd.ntmps3
        go_wp2_with fail
        refine (H1 _ kb).mono ?_
        rintro e W1 ⟨rfl, b1⟩
        have k1 := kb.trans (b1.mono kb.size)
        have kA : Below W1.heap.size W1 (W1.alloc (.cells #[.int .i64 0, .int .i64 0, .int .i64 0, .int .i64 0, .bool false] 26)) := (Below.refl _ _).alloc (Nat.le_refl _) _
        have X1 := heap_alloc_new W1 (.cells #[.int .i64 0, .int .i64 0, .int .i64 0, .int .i64 0, .bool false] 26)
        have k2 := k1.trans (kA.mono k1.size)
        have Y2 := (Y0.below b1).below kA
        have hW1 : w.heap.size < W1.heap.size := (Y0.below b1).lt
        clear H1 kA b1 Y0
        go_wp2_with fail
        refine (H2 _ k2).mono ?_
        rintro e W2 ⟨rfl, b2⟩
        have k3 := k2.trans (b2.mono k2.size)
        have kB : Below W2.heap.size W2 (W2.alloc (.cells #[.int .i64 0, .int .i64 ((L.length : Int) - 1), .int .i64 0, .int .i64 0, .bool false] 26)) := (Below.refl _ _).alloc (Nat.le_refl _) _
        have B1 := heap_alloc_new W2 (.cells #[.int .i64 0, .int .i64 ((L.length : Int) - 1), .int .i64 0, .int .i64 0, .bool false] 26)
        have k4 := k3.trans (kB.mono k3.size)
        have Y3 := (Y2.below b2).below kB
        have X3 := kept (kept X1 b2) kB
        clear H2 kB b2 X1 Y2
        obtain ⟨⟨c0, c1, c2, c3, c4⟩, _⟩ := Y3.cells
        simp only [] at c0 c1 c2 c3 c4
        go_wp2_with fail
        refine (H3 _ k4).mono ?_
        rintro e W3 ⟨rfl, b3⟩
        have k5 := k4.trans (b3.mono k4.size)
        have Y4 := Y3.below b3
        have X4 := kept X3 b3
        have B4 := kept B1 b3
        clear H3 b3 Y3 X3 B1 c0 c1 c2 c3 c4
        go_wp2_with fail
        refine (HC _ k5).mono ?_
        rintro e W4 ⟨rfl, b4⟩
        have k6 := k5.trans (b4.mono k5.size)
        have Y5 := Y4.below b4
        have X5 := kept X4 b4
        have B5 := kept B4 b4
        clear b4 Y4 X4 B4
        obtain ⟨⟨c0, c1, c2, c3, c4⟩, _⟩ := Y5.cells
        simp only [] at c0 c1 c2 c3 c4
        go_wp2_with fail
        refine (H4 _ k6).mono ?_
        rintro e W5 ⟨rfl, b5⟩
        have k7 := k6.trans (b5.mono k6.size)
        have Y6 := Y5.below b5
        have X6 := kept X5 b5
        have B6 := kept B5 b5
        clear H4 b5 Y5 X5 B5 c0 c1 c2 c3 c4
        go_wp2_with fail
        refine (H5 _ k7).mono ?_
        rintro e W6 ⟨rfl, b6⟩
        have k8 := k7.trans (b6.mono k7.size)
        have Y7 := Y6.below b6
        have X7 := cells5 (kept X6 b6)
        have B7 := cells5 (kept B6 b6)
        have X8 := kept X6 b6
        clear H5 b6 Y6 X6 B6
        obtain ⟨⟨c0, c1, c2, c3, c4⟩, hfY⟩ := Y7.cells
        obtain ⟨x0, x1, x2, x3, x4⟩ := X7
        obtain ⟨d0, d1, d2, d3, d4⟩ := B7
        simp only [] at c0 c1 c2 c3 c4
        go_wp2_with fail
        refine (HW _ k8).mono ?_
        rintro e W7 ⟨rfl, b7⟩
        have k9 := k8.trans (b7.mono k8.size)
        have X9 := kept X8 b7
        have kA : Below W7.heap.size W7 (W7.alloc (.cells #[.int .i64 mx, .int .i64 my] 24)) := (Below.refl _ _).alloc (Nat.le_refl _) _
        obtain ⟨x0, x1, x2, x3, x4⟩ := cells5 (kept X9 kA)
        have k10 := k9.trans (kA.mono k9.size)
        clear HW X8 Y7 k8 b7 kA X9
        go_wp2_with fail
        go_ret
        exact ⟨rfl, k10⟩
end Cpy
end Go.Proofs.YtlodmffiengnaaaDoor
