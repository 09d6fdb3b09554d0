/- Package copying: between. (Written by gen_cpybet.py.) -/
import Derived.Test.YtlodmffiengnaaaDoorCpyBetM
import Derived.Test.YtlodmffiengnaaaDoorCpyLine
import Derived.Test.YtlodmffiengnaaaDoorCpyFind
import Derived.Deep.MidRow
namespace Go.Proofs.YtlodmffiengnaaaDoor
open Go.ChangeShapes Go.WideShapes Go.ChangeAt Go.RowKit Go.Maps Go.Sort
namespace Cpy
open Txt (runes rn wd spotsL colsL cleanL bs okRune Tab wideL wideS)
theorem info_st : (Tryd.prog.info? 9).map (fun i => (i.zero, i.size, i.bytes)) = some (some (.string ByteArray.empty), 1, 16) := by kernel_rfl
theorem und_st : Tryd.prog.underlying 22 = some (.slice 9) := by kernel_rfl
theorem below_drewN (W : World) (k : Nat) : Below W.heap.size W (W.drewN k) := ⟨rfl, rfl, rfl, Nat.le_refl _, fun _ _ => rfl⟩
theorem joinTail_le (B : Nat) : ∀ (r : List (List UInt8)), (∀ x ∈ r, x.length ≤ B) → (Lib.joinTail [10] r).length ≤ r.length * (B + 1)
  | [], _ => by simp [Lib.joinTail]
  | x :: t, h => by
    have ih := joinTail_le B t (fun y hy => h y (List.mem_cons_of_mem _ hy))
    have hx := h x (List.mem_cons_self ..)
    unfold Lib.joinTail at ih ⊢
    rw [List.map_cons, List.flatten_cons, List.length_append, List.length_cons, Nat.succ_mul]
    simp only [List.length_append, List.length_singleton]
    omega
theorem join_le (xs : List ByteArray) (B : Nat) (h : ∀ s ∈ xs, s.size ≤ B) : (Lib.join (xs.map (·.data.toList)) [10]).length ≤ xs.length * (B + 1) := by
  cases xs with
  | nil => simp [Lib.join, List.intercalate]
  | cons x t =>
    have ht := joinTail_le B (t.map (·.data.toList)) (fun y hy => by
      obtain ⟨z, hz, rfl⟩ := List.mem_map.1 hy
      have := h z (List.mem_cons_of_mem _ hz)
      simpa using this)
    have hx := h x (List.mem_cons_self ..)
    rw [List.map_cons, Lib.join_cons, List.length_append, List.length_cons, Nat.succ_mul]
    rw [List.length_map] at ht
    have : x.data.toList.length = x.size := Array.length_toList
    omega
theorem partsM_size {L : List ByteArray} {ax : Int} {ay : Nat} {bx : Int} {cy n : Nat} {s : ByteArray} (hs : s ∈ partsM L ax ay bx cy n) (hL : ∀ y, (ln L y).size ≤ 4000) : s.size ≤ 16000 := by
  unfold partsM at hs
  obtain ⟨i, _, rfl⟩ := List.mem_map.1 hs
  have h1 := runesBytes_size_le (partM L ax ay bx cy (ay + i))
  have h2 : (partM L ax ay bx cy (ay + i)).length ≤ (sp (ln L (ay + i))).length := by
    unfold partM
    rw [List.length_take, List.length_drop, List.length_map]
    omega
  have h3 := sp_len (ln L (ay + i))
  have h4 := hL (ay + i)
  omega
theorem sub_zero_of {a b c : Nat} (h1 : a ≤ b) (h2 : b ≤ c) (h : c = a) : b - a = 0 := by omega
theorem w64_nat {n : Nat} (h : n ≤ 1000000) : wrap64 (n : Int) = (n : Int) := by unfold wrap64; omega
/-- What stands as it stood while parts are gathered. -/
structure BInv (w : World) (ax ay bx cy : Int) (u : Value) (ps : List ByteArray) (V : World) : Prop where
  kb : Below w.heap.size w V
  a : V.heap[w.heap.size]? = some (.cells #[.int .i64 ax, .int .i64 ay] 24 (0, 0))
  b : V.heap[w.heap.size + 1]? = some (.cells #[.int .i64 bx, .int .i64 cy] 24 (0, 0))
  own : V.ownsRow (w.heap.size + 2) 9 1 u ps.length (ps.map Value.string)
theorem BInv.below {w : World} {ax ay bx cy : Int} {u : Value} {ps : List ByteArray} {V V' : World} (h : BInv w ax ay bx cy u ps V) (hb : Below V.heap.size V V') : BInv w ax ay bx cy u ps V' :=
  ⟨h.kb.trans (hb.mono h.kb.size), kept h.a hb, kept h.b hb, Txt.own_below h.own hb⟩
theorem CK.grown {w a b : World} {row : Option Nat} (h : CK w a) (hg : a.grownBy b row) (hf : ∀ k, row = some k → w.heap.size ≤ k) : CK w b := by
  intro x o v hv
  have hlt := lt_of_cell hv
  have h2 := h x o v hv
  have e := hg.block x (lt_of_cell h2) (by intro e; have := hf x e.symm; omega)
  unfold World.cell? at h2 ⊢
  simp only [e]
  exact h2
theorem BInv.size {w : World} {ax ay bx cy : Int} {u : Value} {ps : List ByteArray} {V : World} (h : BInv w ax ay bx cy u ps V) : w.heap.size + 2 ≤ V.heap.size := (Array.getElem?_eq_some_iff.1 h.b).1
/-- A part of a line as a text. -/
theorem conv_part {V : World} {rb ro fr t9 : Nat} {rs : List Int} (hr : ∀ j r, rs[j]? = some r → V.cell? ⟨rb, ro + j, none⟩ = some (.int .i32 r)) (ht : t9 ≤ rs.length) :
    ∀ (off len cap : Nat), len = t9 - fr → (off = ro + fr ∨ len = 0) → (convert 48 9 (.slice (some ⟨rb, off, none⟩) len cap)).run Tryd.prog V = .ok (.string (runesBytes ((rs.drop fr).take (t9 - fr)))) V := by
  intro off len cap hl ho
  have hlen : ((rs.drop fr).take (t9 - fr)).length = len := by rw [List.length_take, List.length_drop]; omega
  have := run_convert_runes (P := Tryd.prog) V 48 9 21 ⟨rb, off, none⟩ len cap ((rs.drop fr).take (t9 - fr)) (by omega) (by kernel_rfl) (by kernel_rfl) (by kernel_rfl) (by
    intro j hj
    rw [hlen] at hj
    obtain rfl : off = ro + fr := by omega
    rw [Addr.add_mid, Nat.add_assoc]
    have hj2 : fr + j < rs.length := by omega
    refine (hr (fr + j) _ (List.getElem?_eq_getElem hj2)).trans ?_
    rw [List.getD_eq_getElem?_getD, List.getElem?_take_of_lt (by omega), List.getElem?_drop, List.getElem?_eq_getElem hj2]
    rfl)
  rw [this, List.take_of_length_le (by omega)]
theorem BInv.step {w : World} {ax ay bx cy : Int} {u u' : Value} {ps : List ByteArray} {pt : ByteArray} {V V' : World} {ob : Obj} (h : BInv w ax ay bx cy u ps V) (hg : (V.alloc ob).grownBy V' u.ownBlock) (ho : V'.ownsRow (w.heap.size + 2) 9 1 u' (ps.length + 1) (ps.map Value.string ++ [Value.string pt])) : BInv w ax ay bx cy u' (ps ++ [pt]) V' := by
  have hlt := h.own.lt
  have kA : Below V.heap.size V (V.alloc ob) := (Below.refl _ _).alloc (Nat.le_refl _) _
  have hs := h.kb.size
  have key : ∀ i o, i < w.heap.size + 2 → V.heap[i]? = some o → V'.heap[i]? = some o := fun i o hi hh =>
    (hg.block i (Nat.lt_of_lt_of_le (Array.getElem?_eq_some_iff.1 hh).1 kA.size) (fun e => by have := (hlt _ e.symm).1; omega)).trans (kept hh kA)
  exact ⟨(h.kb.trans (kA.mono hs)).grown hg (Nat.le_trans hs kA.size) (fun k hk => by have := (hlt k hk).1; omega), key _ _ (by omega) h.a, key _ _ (by omega) h.b, by simpa using ho⟩
set_option maxHeartbeats 16000000 in
set_option maxRecDepth 100000 in
theorem between_any (L : List ByteArray) (v : Value) (ax : Int) (ay : Nat) (bx : Int) (cy : Nat) (w : World) (h : LsAt w v L) (hT : Tab w) (hL : ∀ s ∈ L, s.size ≤ 4000) (hn : L.length ≤ 110)
    (hab : ay ≤ cy) (hc : cy < L.length) (hx : ay = cy → ax ≤ bx) (hax : 0 ≤ ax) :
    Calls Tryd.prog 35 #[v, .agg #[.int .i64 ax, .int .i64 ay], .agg #[.int .i64 bx, .int .i64 cy]] w fun e w' => e = .returned (.string (betM L ax ay bx cy)) ∧ Below w.heap.size w w' := by
  obtain ⟨R, hR⟩ : ∃ R, betM L ax ay bx cy = R := ⟨_, rfl⟩
  rw [hR]
  have HR : Hid (betM L ax ay bx cy = R) := hR
  have kb0 : Below w.heap.size w ((w.alloc (.cells #[.int .i64 ax, .int .i64 ay] 24)).alloc (.cells #[.int .i64 bx, .int .i64 cy] 24)) := ((Below.refl _ _).alloc (Nat.le_refl _) _).alloc (by rw [World.size_alloc]; omega) _
  have ZB := heap_alloc_new (w.alloc (.cells #[.int .i64 ax, .int .i64 ay] 24)) (.cells #[.int .i64 bx, .int .i64 cy] 24)
  have ZA := (heap_alloc_old (w.alloc (.cells #[.int .i64 ax, .int .i64 ay] 24)) (.cells #[.int .i64 bx, .int .i64 cy] 24) (r := w.heap.size) (by rw [World.size_alloc]; omega)).trans (heap_alloc_new w (.cells #[.int .i64 ax, .int .i64 ay] 24))
  rw [World.size_alloc] at ZB
  have I0 : BInv w ax ay bx cy (.slice none 0 0) [] ((w.alloc (.cells #[.int .i64 ax, .int .i64 ay] 24)).alloc (.cells #[.int .i64 bx, .int .i64 cy] 24)) :=
    ⟨kb0, ZA, ZB, World.ownsRow_nil _ _ _ _⟩
  have HLL : Hid (∀ s ∈ L, s.size ≤ 4000) := hL
  have HI0 : Hid (BInv w ax ay bx cy (.slice none 0 0) [] ((w.alloc (.cells #[.int .i64 ax, .int .i64 ay] 24)).alloc (.cells #[.int .i64 bx, .int .i64 cy] 24))) := I0
  have HLS : Hid (∀ V, Below w.heap.size w V → LsAt V v L) := fun V hV => h.below hV
  have HTB : Hid (∀ V, Below w.heap.size w V → Tab V) := fun V hV => hT.below hV hT.pos
  obtain ⟨b, o, c, rfl, _⟩ := h.get hc
  obtain ⟨i0, hi, hzz⟩ := Option.map_eq_some_iff.1 info_st
  simp only [Prod.mk.injEq] at hzz
  obtain ⟨hz0, hz1, hz2⟩ := hzz
  obtain ⟨a0, a1⟩ := cells2 ZA
  have HX : Hid (ay = cy → ax ≤ bx) := hx
  clear hR hT hL h kb0 ZA ZB I0 hx
  go_enter Tryd.func35, Tryd.ntmps35
  go_wp2_with fail
  clear a0 a1
  go_loopg [7, 8] (cy + 1 - ay) (fun g u7 u8 wr => ∃ n : Nat, u8 = .int .i64 ((ay + n : Nat) : Int) ∧ ay + n ≤ cy + 1 ∧ cy + 1 - (ay + n) ≤ g ∧ BInv w ax ay bx cy u7 (partsM L ax ay bx cy n) wr)
  case atStart => exact ⟨0, rfl, by omega, by omega, HI0.out⟩
  case round =>
    obtain ⟨n, rfl, hn1, hg, hI⟩ := hrel
    have HI : Hid (BInv w ax ay bx cy u7 (partsM L ax ay bx cy n) wr) := hI
    obtain ⟨b0, b1⟩ := cells2 hI.b
    clear HI0 hI
    by_cases hlt : ay + n ≤ cy
    · have iy1 : ((ay + n : Nat) : Int) ≤ (cy : Int) := Int.ofNat_le.2 hlt
      have hyl : ay + n < L.length := by omega
      have HP : Hid (partsM L ax ay bx cy (n + 1) = partsM L ax ay bx cy n ++ [runesBytes (partM L ax ay bx cy (ay + n))]) := partsM_succ L ax ay bx cy n
      have HPL : Hid ((partsM L ax ay bx cy n).length = n) := partsM_len L ax ay bx cy n
      have HP2 : Hid (partM L ax ay bx cy (ay + n) = (((sp (ln L (ay + n))).map (·.1)).drop (frM (ln L (ay + n)) (ay + n == ay) ax)).take (toM (ln L (ay + n)) (ay + n == cy) bx - frM (ln L (ay + n)) (ay + n == ay) ax)) := rfl
      have HFT : Hid (frM (ln L (ay + n)) (ay + n == ay) ax ≤ toM (ln L (ay + n)) (ay + n == cy) bx) := frM_le _ _ _ _ _ (fun h1 h2 => HX.out (by
        have e1 := beq_iff_eq.1 h1
        have e2 := beq_iff_eq.1 h2
        omega))
      have HTL : Hid (toM (ln L (ay + n)) (ay + n == cy) bx ≤ (sp (ln L (ay + n))).length) := toM_le _ _ _
      obtain ⟨b', o', c', hv, q⟩ := (HLS.out _ HI.out.kb).get hyl
      injection hv with e1 e2 e3
      injection e1 with e1
      injection e1 with e1 e4
      subst e1 e4 e3
      have iyl : ((ay + n : Nat) : Int) < (L.length : Int) := Int.ofNat_lt.2 hyl
      have hs := ln_size HLL.out (ay + n)
      have hsl := sp_len (ln L (ay + n))
      have HL := lineOf_any (ln L (ay + n)) wr (HTB.out _ HI.out.kb) (by omega)
      have HSL : Hid ((sp (ln L (ay + n))).length ≤ 4000) := Nat.le_trans hsl hs
      have HSZ : Hid ((ln L (ay + n)).size ≤ 4000) := hs
      generalize hS : sp (ln L (ay + n)) = S at *
      generalize hfr : frM (ln L (ay + n)) (ay + n == ay) ax = fr at *
      generalize hto : toM (ln L (ay + n)) (ay + n == cy) bx = tt at *
      have HA := fun rv cv V (hl : LnAt V rv cv S) x => at_any rv cv S x V hl (by rw [← hS]; exact sp_lt _) (by omega)
      rw [show S.map (·.2) = cols (ln L (ay + n)) by rw [← hS]; rfl] at HA
      have HW := fun V (ht : Tab V) => Txt.wide_any (ln L (ay + n)) V ht (by omega)
      have HS : Hid (sp (ln L (ay + n)) = S) := hS
      have HFR : Hid (frM (ln L (ay + n)) (ay + n == ay) ax = fr) := hfr
      have HTO : Hid (toM (ln L (ay + n)) (ay + n == cy) bx = tt) := hto
      generalize hy : ay + n = y at *
      generalize hsy : ln L y = s at *
      have HYN : Hid (ay + n = y) := hy
      have HSY : Hid (ln L y = s) := hsy
      clear hS hfr hto hsl hs hy hsy
      go_wp2_with fail
      refine HL.mono ?_
      rintro e W1 ⟨rv, cv, rfl, hln, b1'⟩
      have I1 := HI.out.below b1'
      have l2 := heap_alloc_new W1 (.cells #[rv, cv] 82)
      have kA : Below W1.heap.size W1 (W1.alloc (.cells #[rv, cv] 82)) := (Below.refl _ _).alloc (Nat.le_refl _) _
      have I2 := I1.below kA
      have ln2 := hln.below kA
      obtain ⟨⟨rb, ro, rc, rfl, rle, _⟩, ca, cc, rfl, _⟩ := hln
      have HLN : Hid (LnAt (W1.alloc (.cells #[.slice (some ⟨rb, ro, none⟩) S.length rc, .slice ca S.length cc] 82)) (.slice (some ⟨rb, ro, none⟩) S.length rc) (.slice ca S.length cc) S) := ln2
      have HI2 : Hid (BInv w ax ay bx cy u7 (partsM L ax ay bx cy n) (W1.alloc (.cells #[.slice (some ⟨rb, ro, none⟩) S.length rc, .slice ca S.length cc] 82))) := I2
      obtain ⟨p0, p1⟩ := cells2 l2
      clear HL q b0 b1 b1' I1 kA I2 ln2 HI
      go_wp2_with fail
      generalize hW2 : W1.alloc (.cells #[.slice (some ⟨rb, ro, none⟩) S.length rc, .slice ca S.length cc] 82) = W2 at *
      go_quiet (fail)
      have kD : Below W2.heap.size W2 (W2.drewN nq) := below_drewN W2 nq
      have IV := HI2.out.below kD
      have LV := HLN.out.below kD
      have lV := kept l2 kD
      generalize W2.drewN nq = V at *
      clear HI2 HLN l2 kD p0 p1 hW2
      obtain ⟨a0, a1⟩ := cells2 IV.a
      obtain ⟨b', o', c', hv, q⟩ := (HLS.out _ IV.kb).get hyl
      injection hv with e1 e2 e3
      injection e1 with e1
      injection e1 with e1 e4
      subst e1 e4 e3
      rw [HSY.out] at q
      cases hf : (y == ay)
      · have jf : ((y : Int) == (ay : Int)) = false := by
          rw [beq_eq_false_iff_ne]
          intro e
          rw [beq_eq_false_iff_ne] at hf
          exact hf (by omega)
        have g1 := fun d os => cell_regrown a1 d os
        have hfr0 : fr = 0 := by rw [← HFR.out, hf]; rfl
        subst hfr0
        go_wp2_with fail
        refine wp_region_quiet_below (by kernel_rfl) (by kernel_rfl) ?_
        repeat (first | go_big_quiet_skip | quiet_step (fail))
        refine wpQuiet_nil ?_
        intro _ hw'
        obtain ⟨⟨dq, os⟩, hw''⟩ := hw'
        subst hw''
        have kR := below_regrown V dq os
        have I5 := IV.below kR
        have L5 := LV.below kR
        have l5 := kept lV kR
        generalize grow (redrawn V dq) os = V5 at *
        clear IV LV lV a0 a1 g1 q kR
        obtain ⟨a0, a1⟩ := cells2 I5.a
        obtain ⟨b0, b1⟩ := cells2 I5.b
        obtain ⟨p0, p1⟩ := cells2 l5
        cases hl : (y == cy)
        · have jl : ((y : Int) == (cy : Int)) = false := by
            rw [beq_eq_false_iff_ne]
            intro e
            rw [beq_eq_false_iff_ne] at hl
            exact hl (by omega)
          have htt : tt = S.length := by rw [← HTO.out, hl]; unfold toM; rw [← HS.out]; rfl
          subst htt
          have HCV : ∀ (off len cap : Nat), len = S.length - 0 → (off = ro + 0 ∨ len = 0) → (convert 48 9 (.slice (some ⟨rb, off, none⟩) len cap)).run Tryd.prog V5 = .ok (.string (runesBytes (((S.map (·.1)).drop 0).take (S.length - 0)))) V5 := by
            obtain ⟨⟨rb', ro', rc', hv, _, hr⟩, _⟩ := L5
            injection hv with e1 e2 e3
            injection e1 with e1
            injection e1 with e1 e4
            subst e1 e4
            exact conv_part hr (by rw [List.length_map]; exact HTL.out)
          have hp2 := HP2.out
          rw [← hp2] at HCV
          have HOWN : Hid (V5.ownsRow (w.heap.size + 2) 9 1 u7 (partsM L ax ay bx cy n).length ((partsM L ax ay bx cy n).map Value.string)) := I5.own
          have HI9 : Hid (BInv w ax ay bx cy u7 (partsM L ax ay bx cy n) V5) := I5
          clear hp2
          have ift : ((0 : Nat) : Int) ≤ ((S.length : Nat) : Int) := Int.ofNat_le.2 HFT.out
          have itr : ((S.length : Nat) : Int) ≤ (rc : Int) := Int.ofNat_le.2 (Nat.le_trans HTL.out rle)
          have ifr : ((0 : Nat) : Int) ≤ (rc : Int) := Int.le_trans ift itr
          have hzz : rc = 0 → S.length - 0 = 0 := sub_zero_of HFT.out (Nat.le_trans HTL.out rle)
          generalize hpt : runesBytes (partM L ax ay bx cy y) = pt at *
          by_cases hz : rc = 0
          all_goals
            go_wp2_with (first | (at_builtin; refine wpList_append_own _ rfl _ _ 22 rfl (w.heap.size + 2) 9 i0 (.string ByteArray.empty) 1 16 und_st hi hz0 hz1 hz2 rfl (by decide) _ _ _ rfl (HOWN.out.alloc _) ⟨V5.heap.size, 0, none⟩ 1 1 [.string pt] rfl rfl (cell_one_new _ _ _) (by intro u hu; simp at hu; rw [hu]; rfl) (by unfold maxLen; have := HPL.out; have := HYN.out; omega) (by have := HPL.out; have := HYN.out; omega) (by have := HI9.out.size; simp; omega) ?_; intro v' w2 hown' hgrow hnil))
            have hI3 := HI9.out.step hgrow hown'
            rw [← HP.out] at hI3
            have HI3 : Hid (BInv w ax ay bx cy v' (partsM L ax ay bx cy (n + 1)) w2) := hI3
            clear hI3
            go_roundg (cy + 1 - (y + 1))
            case measure => omega
            case rel => exact ⟨n + 1, by rw [show ay + (n + 1) = y + 1 by have := HYN.out; omega]; go_num, by have := HYN.out; omega, by have := HYN.out; omega, HI3.out⟩
        · have jl : ((y : Int) == (cy : Int)) = true := by
            rw [beq_iff_eq]
            have := beq_iff_eq.1 hl
            omega
          obtain ⟨z, hz⟩ : ∃ z, atI (cols s) bx = z := ⟨_, rfl⟩
          have htt : z + 1 = (tt : Int) := by
            have h1 := atI_ge (cols s) bx
            rw [← HTO.out, hl, ← hz]
            unfold toM
            rw [if_pos rfl]
            omega
          have HA2 := fun rv cv V hl => HA rv cv V hl bx
          rw [hz] at HA2
          have hwz : wrap64 (z + 1) = (tt : Int) := by
            rw [htt]
            exact w64_nat (Nat.le_trans HTL.out (Nat.le_trans HSL.out (by decide)))
          clear htt hz
          go_wp2_with fail
          refine (HA2 _ _ V5 L5).mono ?_
          rintro e V7 ⟨rfl, b7⟩
          have I7 := I5.below b7
          have L7 := L5.below b7
          have l7 := kept l5 b7
          clear I5 L5 l5 a0 a1 b0 b1 p0 p1 b7 HA2
          obtain ⟨a0, a1⟩ := cells2 I7.a
          obtain ⟨b0, b1⟩ := cells2 I7.b
          obtain ⟨p0, p1⟩ := cells2 l7
          have HCV : ∀ (off len cap : Nat), len = tt - 0 → (off = ro + 0 ∨ len = 0) → (convert 48 9 (.slice (some ⟨rb, off, none⟩) len cap)).run Tryd.prog V7 = .ok (.string (runesBytes (((S.map (·.1)).drop 0).take (tt - 0)))) V7 := by
            obtain ⟨⟨rb', ro', rc', hv, _, hr⟩, _⟩ := L7
            injection hv with e1 e2 e3
            injection e1 with e1
            injection e1 with e1 e4
            subst e1 e4
            exact conv_part hr (by rw [List.length_map]; exact HTL.out)
          have hp2 := HP2.out
          rw [← hp2] at HCV
          have HOWN : Hid (V7.ownsRow (w.heap.size + 2) 9 1 u7 (partsM L ax ay bx cy n).length ((partsM L ax ay bx cy n).map Value.string)) := I7.own
          have HI9 : Hid (BInv w ax ay bx cy u7 (partsM L ax ay bx cy n) V7) := I7
          clear hp2
          have ift : ((0 : Nat) : Int) ≤ ((tt : Nat) : Int) := Int.ofNat_le.2 HFT.out
          have itr : ((tt : Nat) : Int) ≤ (rc : Int) := Int.ofNat_le.2 (Nat.le_trans HTL.out rle)
          have ifr : ((0 : Nat) : Int) ≤ (rc : Int) := Int.le_trans ift itr
          have hzz : rc = 0 → tt - 0 = 0 := sub_zero_of HFT.out (Nat.le_trans HTL.out rle)
          generalize hpt : runesBytes (partM L ax ay bx cy y) = pt at *
          by_cases hz : rc = 0
          all_goals
            go_wp2_with (first | (at_builtin; refine wpList_append_own _ rfl _ _ 22 rfl (w.heap.size + 2) 9 i0 (.string ByteArray.empty) 1 16 und_st hi hz0 hz1 hz2 rfl (by decide) _ _ _ rfl (HOWN.out.alloc _) ⟨V7.heap.size, 0, none⟩ 1 1 [.string pt] rfl rfl (cell_one_new _ _ _) (by intro u hu; simp at hu; rw [hu]; rfl) (by clear hwz; unfold maxLen; have := HPL.out; have := HYN.out; omega) (by clear hwz; have := HPL.out; have := HYN.out; omega) (by clear hwz; have := HI9.out.size; simp; omega) ?_; intro v' w2 hown' hgrow hnil))
            have hI3 := HI9.out.step hgrow hown'
            rw [← HP.out] at hI3
            have HI3 : Hid (BInv w ax ay bx cy v' (partsM L ax ay bx cy (n + 1)) w2) := hI3
            clear hI3
            clear hwz
            go_roundg (cy + 1 - (y + 1))
            case measure => omega
            case rel => exact ⟨n + 1, by rw [show ay + (n + 1) = y + 1 by have := HYN.out; omega]; go_num, by have := HYN.out; omega, by have := HYN.out; omega, HI3.out⟩
      · have jf : ((y : Int) == (ay : Int)) = true := by
          rw [beq_iff_eq]
          have := beq_iff_eq.1 hf
          omega
        have g0 := fun d os => cell_regrown a0 d os
        have g1 := fun d os => cell_regrown a1 d os
        have gq := fun d os => cell_regrown q d os
        obtain ⟨ww, hww⟩ : ∃ ww, wideS s = ww := ⟨_, rfl⟩
        have K1 : Hid (∀ d os, Calls Tryd.prog 49 #[.string s] (grow (redrawn V d) os) fun e w'' => e = .returned (.int .i64 ww) ∧ ∃ p : Regrown, w'' = grow (redrawn V p.d) p.os) := fun d os => Calls.regrown_of (by rw [← hww]; exact HW _ (HTB.out _ (IV.kb.trans ((below_regrown V d os).mono IV.kb.size))))
        by_cases hw : ww ≤ ax
        · have hfr0 : fr = S.length := by rw [← HFR.out, hf]; unfold frM; rw [if_pos rfl, hww, if_pos hw, HS.out]
          subst hfr0
          go_wp2_with fail
          refine wp_region_quiet_below (by kernel_rfl) (by kernel_rfl) ?_
          repeat (first | go_big_quiet_skip | quiet_step (first | (go_at_call 49; exact K1.out _ _)))
          refine wpQuiet_nil ?_
          intro _ hw'
          obtain ⟨⟨dq, os⟩, hw''⟩ := hw'
          subst hw''
          have kR := below_regrown V dq os
          have I5 := IV.below kR
          have L5 := LV.below kR
          have l5 := kept lV kR
          generalize grow (redrawn V dq) os = V5 at *
          clear IV LV lV a0 a1 g0 g1 gq K1 q kR
          obtain ⟨a0, a1⟩ := cells2 I5.a
          obtain ⟨b0, b1⟩ := cells2 I5.b
          obtain ⟨p0, p1⟩ := cells2 l5
          cases hl : (y == cy)
          · have jl : ((y : Int) == (cy : Int)) = false := by
              rw [beq_eq_false_iff_ne]
              intro e
              rw [beq_eq_false_iff_ne] at hl
              exact hl (by omega)
            have htt : tt = S.length := by rw [← HTO.out, hl]; unfold toM; rw [← HS.out]; rfl
            subst htt
            have HCV : ∀ (off len cap : Nat), len = S.length - S.length → (off = ro + S.length ∨ len = 0) → (convert 48 9 (.slice (some ⟨rb, off, none⟩) len cap)).run Tryd.prog V5 = .ok (.string (runesBytes (((S.map (·.1)).drop S.length).take (S.length - S.length)))) V5 := by
              obtain ⟨⟨rb', ro', rc', hv, _, hr⟩, _⟩ := L5
              injection hv with e1 e2 e3
              injection e1 with e1
              injection e1 with e1 e4
              subst e1 e4
              exact conv_part hr (by rw [List.length_map]; exact HTL.out)
            have hp2 := HP2.out
            rw [← hp2] at HCV
            have HOWN : Hid (V5.ownsRow (w.heap.size + 2) 9 1 u7 (partsM L ax ay bx cy n).length ((partsM L ax ay bx cy n).map Value.string)) := I5.own
            have HI9 : Hid (BInv w ax ay bx cy u7 (partsM L ax ay bx cy n) V5) := I5
            clear hp2
            have ift : ((S.length : Nat) : Int) ≤ ((S.length : Nat) : Int) := Int.ofNat_le.2 HFT.out
            have itr : ((S.length : Nat) : Int) ≤ (rc : Int) := Int.ofNat_le.2 (Nat.le_trans HTL.out rle)
            have ifr : ((S.length : Nat) : Int) ≤ (rc : Int) := Int.le_trans ift itr
            have hzz : rc = S.length → S.length - S.length = 0 := sub_zero_of HFT.out (Nat.le_trans HTL.out rle)
            generalize hpt : runesBytes (partM L ax ay bx cy y) = pt at *
            by_cases hz : rc = S.length
            all_goals
              go_wp2_with (first | (at_builtin; refine wpList_append_own _ rfl _ _ 22 rfl (w.heap.size + 2) 9 i0 (.string ByteArray.empty) 1 16 und_st hi hz0 hz1 hz2 rfl (by decide) _ _ _ rfl (HOWN.out.alloc _) ⟨V5.heap.size, 0, none⟩ 1 1 [.string pt] rfl rfl (cell_one_new _ _ _) (by intro u hu; simp at hu; rw [hu]; rfl) (by unfold maxLen; have := HPL.out; have := HYN.out; omega) (by have := HPL.out; have := HYN.out; omega) (by have := HI9.out.size; simp; omega) ?_; intro v' w2 hown' hgrow hnil))
              have hI3 := HI9.out.step hgrow hown'
              rw [← HP.out] at hI3
              have HI3 : Hid (BInv w ax ay bx cy v' (partsM L ax ay bx cy (n + 1)) w2) := hI3
              clear hI3
              go_roundg (cy + 1 - (y + 1))
              case measure => omega
              case rel => exact ⟨n + 1, by rw [show ay + (n + 1) = y + 1 by have := HYN.out; omega]; go_num, by have := HYN.out; omega, by have := HYN.out; omega, HI3.out⟩
          · have jl : ((y : Int) == (cy : Int)) = true := by
              rw [beq_iff_eq]
              have := beq_iff_eq.1 hl
              omega
            obtain ⟨z, hz⟩ : ∃ z, atI (cols s) bx = z := ⟨_, rfl⟩
            have htt : z + 1 = (tt : Int) := by
              have h1 := atI_ge (cols s) bx
              rw [← HTO.out, hl, ← hz]
              unfold toM
              rw [if_pos rfl]
              omega
            have HA2 := fun rv cv V hl => HA rv cv V hl bx
            rw [hz] at HA2
            have hwz : wrap64 (z + 1) = (tt : Int) := by
              rw [htt]
              exact w64_nat (Nat.le_trans HTL.out (Nat.le_trans HSL.out (by decide)))
            clear htt hz
            go_wp2_with fail
            refine (HA2 _ _ V5 L5).mono ?_
            rintro e V7 ⟨rfl, b7⟩
            have I7 := I5.below b7
            have L7 := L5.below b7
            have l7 := kept l5 b7
            clear I5 L5 l5 a0 a1 b0 b1 p0 p1 b7 HA2
            obtain ⟨a0, a1⟩ := cells2 I7.a
            obtain ⟨b0, b1⟩ := cells2 I7.b
            obtain ⟨p0, p1⟩ := cells2 l7
            have HCV : ∀ (off len cap : Nat), len = tt - S.length → (off = ro + S.length ∨ len = 0) → (convert 48 9 (.slice (some ⟨rb, off, none⟩) len cap)).run Tryd.prog V7 = .ok (.string (runesBytes (((S.map (·.1)).drop S.length).take (tt - S.length)))) V7 := by
              obtain ⟨⟨rb', ro', rc', hv, _, hr⟩, _⟩ := L7
              injection hv with e1 e2 e3
              injection e1 with e1
              injection e1 with e1 e4
              subst e1 e4
              exact conv_part hr (by rw [List.length_map]; exact HTL.out)
            have hp2 := HP2.out
            rw [← hp2] at HCV
            have HOWN : Hid (V7.ownsRow (w.heap.size + 2) 9 1 u7 (partsM L ax ay bx cy n).length ((partsM L ax ay bx cy n).map Value.string)) := I7.own
            have HI9 : Hid (BInv w ax ay bx cy u7 (partsM L ax ay bx cy n) V7) := I7
            clear hp2
            have ift : ((S.length : Nat) : Int) ≤ ((tt : Nat) : Int) := Int.ofNat_le.2 HFT.out
            have itr : ((tt : Nat) : Int) ≤ (rc : Int) := Int.ofNat_le.2 (Nat.le_trans HTL.out rle)
            have ifr : ((S.length : Nat) : Int) ≤ (rc : Int) := Int.le_trans ift itr
            have hzz : rc = S.length → tt - S.length = 0 := sub_zero_of HFT.out (Nat.le_trans HTL.out rle)
            generalize hpt : runesBytes (partM L ax ay bx cy y) = pt at *
            by_cases hz : rc = S.length
            all_goals
              go_wp2_with (first | (at_builtin; refine wpList_append_own _ rfl _ _ 22 rfl (w.heap.size + 2) 9 i0 (.string ByteArray.empty) 1 16 und_st hi hz0 hz1 hz2 rfl (by decide) _ _ _ rfl (HOWN.out.alloc _) ⟨V7.heap.size, 0, none⟩ 1 1 [.string pt] rfl rfl (cell_one_new _ _ _) (by intro u hu; simp at hu; rw [hu]; rfl) (by clear hwz; unfold maxLen; have := HPL.out; have := HYN.out; omega) (by clear hwz; have := HPL.out; have := HYN.out; omega) (by clear hwz; have := HI9.out.size; simp; omega) ?_; intro v' w2 hown' hgrow hnil))
              have hI3 := HI9.out.step hgrow hown'
              rw [← HP.out] at hI3
              have HI3 : Hid (BInv w ax ay bx cy v' (partsM L ax ay bx cy (n + 1)) w2) := hI3
              clear hI3
              clear hwz
              go_roundg (cy + 1 - (y + 1))
              case measure => omega
              case rel => exact ⟨n + 1, by rw [show ay + (n + 1) = y + 1 by have := HYN.out; omega]; go_num, by have := HYN.out; omega, by have := HYN.out; omega, HI3.out⟩
        · have hfr0 : atI (cols s) ax = (fr : Int) := by
            have h1 := atI_zero s ax (by omega) hax
            rw [← HFR.out, hf]
            unfold frM
            rw [if_pos rfl, hww, if_neg hw]
            omega
          have HA1 := fun rv cv V hl => HA rv cv V hl ax
          rw [hfr0] at HA1
          clear hfr0
          go_wp2_with fail
          refine wp_region_quiet_below (by kernel_rfl) (by kernel_rfl) ?_
          repeat (first | go_big_quiet_skip | quiet_step (first | (go_at_call 49; exact K1.out _ _)))
          refine wpQuiet_nil ?_
          intro _ hw'
          obtain ⟨⟨dq, os⟩, hw''⟩ := hw'
          subst hw''
          have kR := below_regrown V dq os
          have I5 := IV.below kR
          have L5 := LV.below kR
          have l5 := kept lV kR
          generalize grow (redrawn V dq) os = V5 at *
          clear IV LV lV a0 a1 g0 g1 gq K1 q kR
          obtain ⟨a0, a1⟩ := cells2 I5.a
          obtain ⟨b0, b1⟩ := cells2 I5.b
          obtain ⟨p0, p1⟩ := cells2 l5
          go_wp2_with fail
          refine (HA1 _ _ V5 L5).mono ?_
          rintro e V6 ⟨rfl, b6⟩
          have I6 := I5.below b6
          have L6 := L5.below b6
          have l6 := kept l5 b6
          clear I5 L5 l5 a0 a1 b0 b1 p0 p1 b6 HA1
          obtain ⟨a0, a1⟩ := cells2 I6.a
          obtain ⟨b0, b1⟩ := cells2 I6.b
          obtain ⟨p0, p1⟩ := cells2 l6
          cases hl : (y == cy)
          · have jl : ((y : Int) == (cy : Int)) = false := by
              rw [beq_eq_false_iff_ne]
              intro e
              rw [beq_eq_false_iff_ne] at hl
              exact hl (by omega)
            have htt : tt = S.length := by rw [← HTO.out, hl]; unfold toM; rw [← HS.out]; rfl
            subst htt
            have HCV : ∀ (off len cap : Nat), len = S.length - fr → (off = ro + fr ∨ len = 0) → (convert 48 9 (.slice (some ⟨rb, off, none⟩) len cap)).run Tryd.prog V6 = .ok (.string (runesBytes (((S.map (·.1)).drop fr).take (S.length - fr)))) V6 := by
              obtain ⟨⟨rb', ro', rc', hv, _, hr⟩, _⟩ := L6
              injection hv with e1 e2 e3
              injection e1 with e1
              injection e1 with e1 e4
              subst e1 e4
              exact conv_part hr (by rw [List.length_map]; exact HTL.out)
            have hp2 := HP2.out
            rw [← hp2] at HCV
            have HOWN : Hid (V6.ownsRow (w.heap.size + 2) 9 1 u7 (partsM L ax ay bx cy n).length ((partsM L ax ay bx cy n).map Value.string)) := I6.own
            have HI9 : Hid (BInv w ax ay bx cy u7 (partsM L ax ay bx cy n) V6) := I6
            clear hp2
            have ift : ((fr : Nat) : Int) ≤ ((S.length : Nat) : Int) := Int.ofNat_le.2 HFT.out
            have itr : ((S.length : Nat) : Int) ≤ (rc : Int) := Int.ofNat_le.2 (Nat.le_trans HTL.out rle)
            have ifr : ((fr : Nat) : Int) ≤ (rc : Int) := Int.le_trans ift itr
            have hzz : rc = fr → S.length - fr = 0 := sub_zero_of HFT.out (Nat.le_trans HTL.out rle)
            generalize hpt : runesBytes (partM L ax ay bx cy y) = pt at *
            by_cases hz : rc = fr
            all_goals
              go_wp2_with (first | (at_builtin; refine wpList_append_own _ rfl _ _ 22 rfl (w.heap.size + 2) 9 i0 (.string ByteArray.empty) 1 16 und_st hi hz0 hz1 hz2 rfl (by decide) _ _ _ rfl (HOWN.out.alloc _) ⟨V6.heap.size, 0, none⟩ 1 1 [.string pt] rfl rfl (cell_one_new _ _ _) (by intro u hu; simp at hu; rw [hu]; rfl) (by unfold maxLen; have := HPL.out; have := HYN.out; omega) (by have := HPL.out; have := HYN.out; omega) (by have := HI9.out.size; simp; omega) ?_; intro v' w2 hown' hgrow hnil))
              have hI3 := HI9.out.step hgrow hown'
              rw [← HP.out] at hI3
              have HI3 : Hid (BInv w ax ay bx cy v' (partsM L ax ay bx cy (n + 1)) w2) := hI3
              clear hI3
              go_roundg (cy + 1 - (y + 1))
              case measure => omega
              case rel => exact ⟨n + 1, by rw [show ay + (n + 1) = y + 1 by have := HYN.out; omega]; go_num, by have := HYN.out; omega, by have := HYN.out; omega, HI3.out⟩
          · have jl : ((y : Int) == (cy : Int)) = true := by
              rw [beq_iff_eq]
              have := beq_iff_eq.1 hl
              omega
            obtain ⟨z, hz⟩ : ∃ z, atI (cols s) bx = z := ⟨_, rfl⟩
            have htt : z + 1 = (tt : Int) := by
              have h1 := atI_ge (cols s) bx
              rw [← HTO.out, hl, ← hz]
              unfold toM
              rw [if_pos rfl]
              omega
            have HA2 := fun rv cv V hl => HA rv cv V hl bx
            rw [hz] at HA2
            have hwz : wrap64 (z + 1) = (tt : Int) := by
              rw [htt]
              exact w64_nat (Nat.le_trans HTL.out (Nat.le_trans HSL.out (by decide)))
            clear htt hz
            go_wp2_with fail
            refine (HA2 _ _ V6 L6).mono ?_
            rintro e V7 ⟨rfl, b7⟩
            have I7 := I6.below b7
            have L7 := L6.below b7
            have l7 := kept l6 b7
            clear I6 L6 l6 a0 a1 b0 b1 p0 p1 b7 HA2
            obtain ⟨a0, a1⟩ := cells2 I7.a
            obtain ⟨b0, b1⟩ := cells2 I7.b
            obtain ⟨p0, p1⟩ := cells2 l7
            have HCV : ∀ (off len cap : Nat), len = tt - fr → (off = ro + fr ∨ len = 0) → (convert 48 9 (.slice (some ⟨rb, off, none⟩) len cap)).run Tryd.prog V7 = .ok (.string (runesBytes (((S.map (·.1)).drop fr).take (tt - fr)))) V7 := by
              obtain ⟨⟨rb', ro', rc', hv, _, hr⟩, _⟩ := L7
              injection hv with e1 e2 e3
              injection e1 with e1
              injection e1 with e1 e4
              subst e1 e4
              exact conv_part hr (by rw [List.length_map]; exact HTL.out)
            have hp2 := HP2.out
            rw [← hp2] at HCV
            have HOWN : Hid (V7.ownsRow (w.heap.size + 2) 9 1 u7 (partsM L ax ay bx cy n).length ((partsM L ax ay bx cy n).map Value.string)) := I7.own
            have HI9 : Hid (BInv w ax ay bx cy u7 (partsM L ax ay bx cy n) V7) := I7
            clear hp2
            have ift : ((fr : Nat) : Int) ≤ ((tt : Nat) : Int) := Int.ofNat_le.2 HFT.out
            have itr : ((tt : Nat) : Int) ≤ (rc : Int) := Int.ofNat_le.2 (Nat.le_trans HTL.out rle)
            have ifr : ((fr : Nat) : Int) ≤ (rc : Int) := Int.le_trans ift itr
            have hzz : rc = fr → tt - fr = 0 := sub_zero_of HFT.out (Nat.le_trans HTL.out rle)
            generalize hpt : runesBytes (partM L ax ay bx cy y) = pt at *
            by_cases hz : rc = fr
            all_goals
              go_wp2_with (first | (at_builtin; refine wpList_append_own _ rfl _ _ 22 rfl (w.heap.size + 2) 9 i0 (.string ByteArray.empty) 1 16 und_st hi hz0 hz1 hz2 rfl (by decide) _ _ _ rfl (HOWN.out.alloc _) ⟨V7.heap.size, 0, none⟩ 1 1 [.string pt] rfl rfl (cell_one_new _ _ _) (by intro u hu; simp at hu; rw [hu]; rfl) (by clear hwz; unfold maxLen; have := HPL.out; have := HYN.out; omega) (by clear hwz; have := HPL.out; have := HYN.out; omega) (by clear hwz; have := HI9.out.size; simp; omega) ?_; intro v' w2 hown' hgrow hnil))
              have hI3 := HI9.out.step hgrow hown'
              rw [← HP.out] at hI3
              have HI3 : Hid (BInv w ax ay bx cy v' (partsM L ax ay bx cy (n + 1)) w2) := hI3
              clear hI3
              clear hwz
              go_roundg (cy + 1 - (y + 1))
              case measure => omega
              case rel => exact ⟨n + 1, by rw [show ay + (n + 1) = y + 1 by have := HYN.out; omega]; go_num, by have := HYN.out; omega, by have := HYN.out; omega, HI3.out⟩
    · have e9 : ay + n = cy + 1 := by omega
      have iy1 : ¬ ((ay + n : Nat) : Int) ≤ (cy : Int) := by omega
      have hI := HI.out
      have hn9 : cy + 1 - ay = n := by omega
      have hr := HR.out
      unfold betM at hr
      rw [hn9] at hr
      have hne : partsM L ax ay bx cy n ≠ [] := by
        intro e
        have := congrArg List.length e
        rw [partsM_len] at this
        simp at this
        omega
      obtain ⟨b0, b1⟩ := cells2 hI.b
      have kb := hI.kb
      have hj := join_le (partsM L ax ay bx cy n) 16000 (fun s hs => partsM_size hs (fun y => ln_size HLL.out y))
      rw [partsM_len] at hj
      obtain ⟨g, cap, cur, hv, hgb, hh, hcap, _, _, htk⟩ := hI.own.2.resolve_left (fun h => hne (by
        have := h.2
        rw [partsM_len] at this
        exact List.length_eq_zero_iff.1 (by rw [partsM_len]; exact this)))
      subst hv
      have hcells : ∀ (j : Nat) x, (partsM L ax ay bx cy n)[j]? = some x → wr.cell? ⟨g, 0 + j, none⟩ = some (.string x) := by
        intro j x hx
        rw [Nat.mul_one] at htk
        obtain ⟨hj, _⟩ := List.getElem?_eq_some_iff.1 hx
        have h1 : (cur.toList.take (partsM L ax ay bx cy n).length)[j]? = some (.string x) := by rw [htk, List.getElem?_map, hx]; rfl
        rw [List.getElem?_take_of_lt hj, Array.getElem?_toList] at h1
        unfold World.cell?
        rw [hh, Nat.zero_add]
        exact h1
      have HJ := Tryd.strings_Join g 0 cap (partsM L ax ay bx cy n) ⟨#[10]⟩ wr hcells (Array.getElem?_eq_some_iff.1 hh).1 (by rw [partsM_len]; omega) hcap (by
        show (Lib.join _ [10]).length ≤ _
        omega)
      rw [show (⟨(Lib.join ((partsM L ax ay bx cy n).map (·.data.toList)) (⟨#[10]⟩ : ByteArray).data.toList).toArray⟩ : ByteArray) = R from hr] at HJ
      rw [partsM_len] at *
      clear hcells hh htk hI HI hne hr
      go_wp2_with fail
      refine HJ.mono ?_
      rintro e W9 ⟨rfl, b9⟩
      have k9 := kb.trans (b9.mono kb.size)
      go_wp2_with fail
      go_ret
      exact ⟨rfl, k9⟩
end Cpy
end Go.Proofs.YtlodmffiengnaaaDoor
