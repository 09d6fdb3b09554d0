/- Package split: the reader of a text: parts in brackets. -/
import Derived.Test.YtckkbmgdaplaaaaDoorSplRest
namespace Go.Proofs.YtckkbmgdaplaaaaDoor
open Go.ChangeShapes Go.WideShapes Go.ChangeAt Go.RowKit Go.Maps Go.Sort
namespace Spl
open Fo
theorem app_len : ∀ f g : Fo, (f.app g).len = f.len + g.len
  | nil, g => by rw [Fo.app, Fo.len, Nat.zero_add]
  | cons _ _ _ _ rs, g => by rw [Fo.app, Fo.len, Fo.len, app_len rs g]; omega
theorem old_at (w : World) (o : Obj) (i : Nat) (h : i < w.heap.size) : (w.alloc o).heap[i]? = w.heap[i]? := by
  show (w.heap.push o)[i]? = _
  rw [Array.getElem?_push_lt h, Array.getElem?_eq_getElem h]
/-- A round of the brackets' loop: one more tree is read, and stands in the row. -/
theorem row_step {w W3 W4 W5 : World} {R X : Nat} {t b0 b1 b2 : ByteArray} {o m : Nat} {wy0 wy pn sz : Int} {v kv v5 : Value} {L : List (Int × Int × Int × Value)} {f ks : Fo}
    (hRn : R < w.heap.size) (hNX : w.heap.size + 1 < X) (hX3 : X < W3.heap.size) (row3 : RowAt W3 (w.heap.size + 1) X v L f)
    (eX3 : W3.heap[X]? = some (.cells #[.int .i64 wy0, .int .i64 0, .int .i64 0, v] 24 (0, 0)))
    (e43 : W3.heap[w.heap.size]? = some (.cells #[.int .i64 0, .int .i64 0, .int .i64 0, .slice none 0 0] 24 (0, 0)))
    (k3 : But R w W3) (hB : BrTab W3 b0 b1 b2) (hgR : 0 ≠ R) (hgl : 0 < w.heap.size) (b4 : But R W3 W4) (r4 : RdAt W4 R t m o) (hk : KAt (low W4 W3.heap.size) kv ks)
    (ho : W5.ownsRow (w.heap.size + 1) 24 4 v5 (L.length + 1) (L.flatMap trc ++ [.int .i64 wy, .int .i64 pn, .int .i64 sz, kv]))
    (hg : (W4.alloc (.cells #[.int .i64 wy, .int .i64 pn, .int .i64 sz, kv] 24)).grownBy W5 v.ownBlock)
    (hb : v5.ownBlock = v.ownBlock ∨ v5.ownBlock = some (W4.alloc (.cells #[.int .i64 wy, .int .i64 pn, .int .i64 sz, kv] 24)).heap.size) :
    RowAt (W5.setCell ⟨X, 3, none⟩ v5) (w.heap.size + 1) X v5 (L ++ [(wy, pn, sz, kv)]) (f.app (cons wy pn sz ks nil)) ∧
    (W5.setCell ⟨X, 3, none⟩ v5).heap[X]? = some (.cells #[.int .i64 wy0, .int .i64 0, .int .i64 0, v5] 24 (0, 0)) ∧
    RdAt (W5.setCell ⟨X, 3, none⟩ v5) R t m o ∧ But R w (W5.setCell ⟨X, 3, none⟩ v5) ∧ BrTab (W5.setCell ⟨X, 3, none⟩ v5) b0 b1 b2 ∧
    (W5.setCell ⟨X, 3, none⟩ v5).heap[w.heap.size]? = some (.cells #[.int .i64 0, .int .i64 0, .int .i64 0, .slice none 0 0] 24 (0, 0)) := by
  have hvN : ∀ g, v.ownBlock = some g → w.heap.size + 1 ≤ g ∧ g < W3.heap.size := fun g hg => by
    rcases row3.1.2 with ⟨hv, _⟩ | ⟨q, cap, cur, hv, hq, hh, _⟩
    · rw [hv] at hg; cases hg
    · rw [hv] at hg
      injection hg with hg
      subst hg
      exact ⟨hq, (Array.getElem?_eq_some_iff.1 hh).1⟩
  have h34 := b4.size
  have kA : Below W4.heap.size W4 (W4.alloc (.cells #[.int .i64 wy, .int .i64 pn, .int .i64 sz, kv] 24)) := (Below.refl _ _).alloc (Nat.le_refl _) _
  have bA : But R W3 (W4.alloc (.cells #[.int .i64 wy, .int .i64 pn, .int .i64 sz, kv] 24)) := b4.trans (But.of_below kA)
  have rowA := row3.but bA (Nat.lt_succ_of_lt hRn)
  have hkA : KAt (but1 (W4.alloc (.cells #[.int .i64 wy, .int .i64 pn, .int .i64 sz, kv] 24)) (w.heap.size + 1) X v) kv ks :=
    (hk.ck (low_but1 (by omega) hX3 (fun g h => (hvN g h).2))).ck (but1_but (But.of_below (M := R) kA) (Nat.lt_succ_of_lt hRn))
  have sA := kA.size
  have k5 : But R w W5 := by
    have kw := k3.trans bA
    refine ⟨hg.os.trans kw.os, hg.tape.trans kw.tape, hg.output.trans kw.output, Nat.le_trans kw.size hg.size, fun i hi hne => ?_⟩
    rw [hg.block i (Nat.lt_of_lt_of_le hi kw.size) (fun e => by have := (hvN i e.symm).1; omega)]
    exact kw.block i hi hne
  have at5 : ∀ i, i < W3.heap.size → i ≠ R → v.ownBlock ≠ some i → W5.heap[i]? = W3.heap[i]? := fun i hi hne hv => by
    rw [hg.block i (by omega) (fun e => hv e.symm)]
    exact bA.block i hi hne
  have row5 := RowAt.snoc rowA hkA ho hg hb (by omega)
  have hw := k3.size
  have e5X : W5.heap[X]? = some (.cells #[.int .i64 wy0, .int .i64 0, .int .i64 0, v] 24 (0, 0)) := (at5 X hX3 (by omega) row3.2.2).trans eX3
  have hRA : (W4.alloc (.cells #[.int .i64 wy, .int .i64 pn, .int .i64 sz, kv] 24)).heap[R]? = W4.heap[R]? := kA.block R (by omega)
  have r5 : RdAt W5 R t m o := by
    show W5.heap[R]? = _
    rw [hg.block R (by omega) (fun e => by have := (hvN R e.symm).1; omega), hRA]
    exact r4
  obtain ⟨tt, fr, hbr⟩ := hB
  have hbl := (Array.getElem?_eq_some_iff.1 hbr).1
  have bt5 : W5.heap[0]? = some (.cells #[.string b0, .string b1, .string b2] tt fr) := by
    refine (at5 _ hbl hgR (fun e => ?_)).trans hbr
    have := (hvN _ e).1
    omega
  have hneX : 0 ≠ X := fun e => by
    rw [e, e5X] at bt5
    simp at bt5
  refine ⟨row5.set v5 (.inr rfl), heap_setCell_same _ _ 3 _ _ _ e5X, r5.fresh v5 (by omega), k5.fresh v5 (by omega), ⟨tt, fr, ?_⟩, ?_⟩
  · rw [RowKit.Below.heap_setCell _ _ _ _ hneX]
    exact bt5
  · rw [RowKit.Below.heap_setCell _ _ _ _ (show w.heap.size ≠ X by omega)]
    exact (at5 _ (by omega) (by omega) (fun e => by have := (hvN _ e).1; omega)).trans e43
set_option maxHeartbeats 4000000 in
set_option maxRecDepth 100000 in
theorem parts_1 (R : Nat) (t b0 b1 b2 : ByteArray) (p m0 o : Nat) (ks : Fo) (w : World) (hr : RdAt w R t p o) (hts : t.size ≤ 100000) (hB : BrTab w b0 b1 b2) (hb : Br b1 b2) (ho : o < 12) (hps : p + 1 ≤ t.size) (hT : Row1 R t b0 b1 b2 (o + 1) ks (p + 1) m0) (hlen : ks.len ≤ 100000) (hc : nextIs t m0 125 = true) :
    Calls Tryd.prog 83 #[.pointer (some ⟨R, 0, none⟩), .int .i64 1] w fun e w' => ∃ kv, e = .returned (.agg #[.int .i64 1, .int .i64 0, .int .i64 0, kv]) ∧ KAt (low w' w.heap.size) kv ks ∧ RdAt w' R t (m0 + 1) o ∧ But R w w' := by
  have hRn : R < w.heap.size := by unfold RdAt at hr; exact (Array.getElem?_eq_some_iff.1 hr).1
  have hgR := hB.apart hr
  have hgl : 0 < w.heap.size := by
    obtain ⟨_, _, h⟩ := hB
    exact (Array.getElem?_eq_some_iff.1 h).1
  have kb : Below w.heap.size w (w.alloc (.cells #[.int .i64 0, .int .i64 0, .int .i64 0, .slice none 0 0] 24)) := (Below.refl _ _).alloc (Nat.le_refl _) _
  have e4 := heap_alloc_new w (.cells #[.int .i64 0, .int .i64 0, .int .i64 0, .slice none 0 0] 24)
  have hr1 := hr.below kb
  have hB1 := hB.below kb
  obtain ⟨⟨c0, c1, c2⟩, f0, f1, f2⟩ := hr1.cells
  obtain ⟨⟨a0, a1, a2⟩, g0, g1, g2⟩ := hr.cells
  have jo : ((o : Int) == 12) = false := by rw [beq_eq_false_iff_ne]; omega
  have jo' : ¬ (o : Int) = 12 := by omega
  have hw1 : wrap64 ((p : Int) + 1) = (p : Int) + 1 := by unfold wrap64; omega
  have hw2 : wrap64 ((o : Int) + 1) = (o : Int) + 1 := by unfold wrap64; omega
  have rV : RdAt (((w.setCell ⟨R, 1, none⟩ (.int .i64 ((p : Int) + 1))).setCell ⟨R, 2, none⟩ (.int .i64 ((o : Int) + 1))).alloc (.cells #[.int .i64 0, .int .i64 0, .int .i64 0, .slice none 0 0] 24)) R t (p + 1) (o + 1) := (rd_seto (rd_set hr (p + 1)) (o + 1)).below ((Below.refl _ _).alloc (Nat.le_refl _) _)
  have bV : But R w (((w.setCell ⟨R, 1, none⟩ (.int .i64 ((p : Int) + 1))).setCell ⟨R, 2, none⟩ (.int .i64 ((o : Int) + 1))).alloc (.cells #[.int .i64 0, .int .i64 0, .int .i64 0, .slice none 0 0] 24)) := (((But.refl R w).setCell _).setCell _).trans (But.of_below ((Below.refl _ _).alloc (Nat.le_refl _) _))
  have sV : (((w.setCell ⟨R, 1, none⟩ (.int .i64 ((p : Int) + 1))).setCell ⟨R, 2, none⟩ (.int .i64 ((o : Int) + 1))).alloc (.cells #[.int .i64 0, .int .i64 0, .int .i64 0, .slice none 0 0] 24)).heap.size = w.heap.size + 1 := by simp [World.alloc, World.setCell]
  have eV : (((w.setCell ⟨R, 1, none⟩ (.int .i64 ((p : Int) + 1))).setCell ⟨R, 2, none⟩ (.int .i64 ((o : Int) + 1))).alloc (.cells #[.int .i64 0, .int .i64 0, .int .i64 0, .slice none 0 0] 24)).heap[w.heap.size]? = some (.cells #[.int .i64 0, .int .i64 0, .int .i64 0, .slice none 0 0] 24 (0, 0)) := by
    have := heap_alloc_new ((w.setCell ⟨R, 1, none⟩ (.int .i64 ((p : Int) + 1))).setCell ⟨R, 2, none⟩ (.int .i64 ((o : Int) + 1))) (.cells #[.int .i64 0, .int .i64 0, .int .i64 0, .slice none 0 0] 24)
    rwa [show ((w.setCell ⟨R, 1, none⟩ (.int .i64 ((p : Int) + 1))).setCell ⟨R, 2, none⟩ (.int .i64 ((o : Int) + 1))).heap.size = w.heap.size by simp [World.setCell]] at this
  have tV := hB.but bV hgR
  have HT : Hid (Row1 R t b0 b1 b2 (o + 1) ks (p + 1) m0) := hT
  have HC : Hid (nextIs t m0 125 = true) := hc
  have HR1 : Hid (RdAt (w.alloc (.cells #[.int .i64 0, .int .i64 0, .int .i64 0, .slice none 0 0] 24)) R t p o) := hr1
  have HB : Hid (BrTab (w.alloc (.cells #[.int .i64 0, .int .i64 0, .int .i64 0, .slice none 0 0] 24)) b0 b1 b2) := hB1
  clear hr hB hr1 hB1 hT hc
  go_enter Tryd.func83, Tryd.ntmps83
  go_wp2_with fail
  generalize ((w.setCell ⟨R, 1, none⟩ (.int .i64 ((p : Int) + 1))).setCell ⟨R, 2, none⟩ (.int .i64 ((o : Int) + 1))).alloc (.cells #[.int .i64 0, .int .i64 0, .int .i64 0, .slice none 0 0] 24) = V at *
  clear c0 c1 c2 f0 f1 f2 a0 a1 a2 g0 g1 g2 e4 kb HB HR1 jo jo' hw1 hw2
  cases hks : ks with
  | nil => rw [hks] at HT; exact absurd HT.out id
  | cons wy1 pn1 sz1 k1 rs1 =>
    obtain ⟨m1, hm1, hP, hrest⟩ : ∃ m, m ≤ t.size ∧ PartOk R t b0 b1 b2 wy1 pn1 sz1 k1 (p + 1) m (o + 1) ∧ ((rs1 = nil ∧ m0 = m ∧ nextIs t m 44 = false) ∨ (nextIs t m 44 = true ∧ Row1 R t b0 b1 b2 (o + 1) rs1 (m + 1) m0)) := by
      have := HT.out
      rw [hks] at this
      exact this
    have HRE : Hid (Rest R t b0 b1 b2 (o + 1) rs1 m1 m0) := hrest
    have HKS : Hid (ks = cons wy1 pn1 sz1 k1 rs1) := hks
    clear HT hrest hks
    refine (hP _ rV tV).mono ?_
    rintro e W2 ⟨kv, rfl, hkv, rW2, bW2⟩
    obtain ⟨ka, kc, rfl, _⟩ := id hkv
    have e4 := (bW2.block _ (Array.getElem?_eq_some_iff.1 eV).1 (by omega)).trans eV
    have k2 := bV.trans bW2
    have t2 := tV.but bW2 hgR
    have s2 := bW2.size
    rw [sV] at hkv s2
    clear rV bV tV eV sV bW2 hP
    go_wp2_with fail
    have kb : Below W2.heap.size W2 ((W2.alloc (.cells #[.int .i64 wy1, .int .i64 pn1, .int .i64 sz1, .slice ka k1.len kc] 24)).alloc (.cells #[.int .i64 1, .int .i64 0, .int .i64 0, .slice (some ⟨W2.heap.size, 0, none⟩) 1 1] 24)) := ((Below.refl _ _).alloc (Nat.le_refl _) _).alloc (by show W2.heap.size ≤ (W2.heap.push _).size; rw [Array.size_push]; omega) _
    have e5 := heap_alloc2_new W2 (.cells #[.int .i64 wy1, .int .i64 pn1, .int .i64 sz1, .slice ka k1.len kc] 24) (.cells #[.int .i64 1, .int .i64 0, .int .i64 0, .slice (some ⟨W2.heap.size, 0, none⟩) 1 1] 24)
    have eg : ((W2.alloc (.cells #[.int .i64 wy1, .int .i64 pn1, .int .i64 sz1, .slice ka k1.len kc] 24)).alloc (.cells #[.int .i64 1, .int .i64 0, .int .i64 0, .slice (some ⟨W2.heap.size, 0, none⟩) 1 1] 24)).heap[W2.heap.size]? = some (.cells #[.int .i64 wy1, .int .i64 pn1, .int .i64 sz1, .slice ka k1.len kc] 24 (0, 0)) := by
      show ((W2.heap.push _).push _)[W2.heap.size]? = _
      rw [Array.getElem?_push, if_neg (by rw [Array.size_push]; omega), Array.getElem?_push, if_pos rfl]
    have sz0 : ((W2.alloc (.cells #[.int .i64 wy1, .int .i64 pn1, .int .i64 sz1, .slice ka k1.len kc] 24)).alloc (.cells #[.int .i64 1, .int .i64 0, .int .i64 0, .slice (some ⟨W2.heap.size, 0, none⟩) 1 1] 24)).heap.size = W2.heap.size + 2 := by
      show ((W2.heap.push _).push _).size = _
      rw [Array.size_push, Array.size_push]
    generalize (W2.alloc (.cells #[.int .i64 wy1, .int .i64 pn1, .int .i64 sz1, .slice ka k1.len kc] 24)).alloc (.cells #[.int .i64 1, .int .i64 0, .int .i64 0, .slice (some ⟨W2.heap.size, 0, none⟩) 1 1] 24) = V2 at *
    have r3 := rW2.below kb
    have t3 := t2.below kb
    have k3 := k2.trans (But.of_below kb)
    have e4' := (kb.block _ (Array.getElem?_eq_some_iff.1 e4).1).trans e4
    have row0 : RowAt V2 (w.heap.size + 1) (W2.heap.size + 1) (.slice (some ⟨W2.heap.size, 0, none⟩) 1 1) [(wy1, pn1, sz1, .slice ka k1.len kc)] (cons wy1 pn1 sz1 k1 nil) :=
      ⟨⟨rfl, .inr ⟨W2.heap.size, 1, _, rfl, s2, eg, Nat.le_refl _, by unfold maxLen; omega, rfl, rfl⟩⟩, ⟨rfl, rfl, rfl, hkv.ck (low_new kb rfl (Nat.le_refl _) (Nat.le_succ _)), trivial⟩, by intro e; simp [Value.ownBlock] at e⟩
    have hs3 : W2.heap.size + 1 < V2.heap.size := by omega
    generalize hX : W2.heap.size + 1 = X at *
    have hNX : w.heap.size + 1 < X := by omega
    clear rW2 t2 k2 kb e4 eg hkv sz0 
    go_loopg [32] rs1.len (fun g _ wr => ∃ (v : Value) (L : List (Int × Int × Int × Value)) (f rs : Fo) (q : Nat), RowAt wr (w.heap.size + 1) X v L f ∧ wr.heap[X]? = some (.cells #[.int .i64 1, .int .i64 0, .int .i64 0, v] 24 (0, 0)) ∧ RdAt wr R t q (o + 1) ∧ But R w wr ∧ BrTab wr b0 b1 b2 ∧ wr.heap[w.heap.size]? = some (.cells #[.int .i64 0, .int .i64 0, .int .i64 0, .slice none 0 0] 24 (0, 0)) ∧ f.app rs = ks ∧ q ≤ t.size ∧ rs.len ≤ g ∧ Rest R t b0 b1 b2 (o + 1) rs q m0)
    case atStart => exact ⟨_, _, _, rs1, m1, row0, e5, r3, k3, t3, e4', by rw [HKS.out]; rfl, hm1, Nat.le_refl _, HRE.out⟩
    case round =>
      obtain ⟨v, L, f, rs, q, row, eX, hrd, hbt, htb, e4, hks, hq, hg, hre⟩ := hrel
      have HT : Calls Tryd.prog 94 #[.pointer (some ⟨R, 0, none⟩), .int .u8 44] wr fun e w' => e = .returned (.bool (nextIs t q 44)) ∧ RdAt w' R t (if nextIs t q 44 then q + 1 else q) (o + 1) ∧ But R wr w' := took_any R t q (o + 1) 44 wr hrd hts hq
      rcases hre with ⟨hnil, hmq, hnx⟩ | ⟨hnx, hrow⟩
      · rw [hnx] at HT
        simp only [Bool.false_eq_true, if_false] at HT
        obtain rfl := hmq
        obtain ⟨vs, vc, rfl⟩ : ∃ (a : Option Addr) (c : Nat), v = .slice a L.length c := by
          rcases row.1.2 with ⟨h, h0⟩ | ⟨g, cap, _, h, _⟩
          · exact ⟨none, 0, by rw [h, h0]⟩
          · exact ⟨_, _, h⟩
        obtain rfl : f = ks := by rw [← hks, hnil, app_nil]
        have h21 : 1 < b1.size := by have := hb.s1; omega
        have l1b : (1 : Int) < (b1.size : Int) := by omega
        have H5 : ∀ W, RdAt W R t m0 (o + 1) → Calls Tryd.prog 94 #[.pointer (some ⟨R, 0, none⟩), .int .u8 (b1[1]'h21).toNat] W fun e w' => e = .returned (.bool true) ∧ RdAt w' R t (m0 + 1) (o + 1) ∧ But R W w' := by
          intro W h
          have := took_any R t m0 (o + 1) (b1[1]'h21) W h hts hq
          rwa [hb.e1, HC.out, if_pos rfl, ← hb.e1] at this
        clear hnil hks hnx hlen HKS HRE
        go_wp2_with fail
        refine HT.mono ?_
        rintro e W3 ⟨rfl, rW3, bW3⟩
        have row3 := row.but bW3 (Nat.lt_succ_of_lt hRn)
        have eX3 := (bW3.block _ (Array.getElem?_eq_some_iff.1 eX).1 (by omega)).trans eX
        have e43 := (bW3.block _ (Array.getElem?_eq_some_iff.1 e4).1 (by omega)).trans e4
        have k3 := hbt.trans bW3
        have t3 := htb.but bW3 hgR
        obtain ⟨d1, d2⟩ := t3.cells
        clear row eX hrd hbt htb e4 bW3 HT e5 r3 e4' row0 hs3
        go_wp2_with fail
        refine (H5 _ rW3).mono ?_
        rintro e W5 ⟨rfl, r5, b5⟩
        have row5 := row3.but b5 (Nat.lt_succ_of_lt hRn)
        have eX5 := (b5.block _ (Array.getElem?_eq_some_iff.1 eX3).1 (by omega)).trans eX3
        have e45 := (b5.block _ (Array.getElem?_eq_some_iff.1 e43).1 (by omega)).trans e43
        have k5 := k3.trans b5
        have hw3 : wrap64 (((o + 1 : Nat) : Int) - 1) = (o : Int) := by unfold wrap64; omega
        have hw4 : wrap64 ((o : Int) + 1 - 1) = (o : Int) := by unfold wrap64; omega
        obtain ⟨⟨a0, a1, a2⟩, q0, q1, q2⟩ := r5.cells
        have r6 := rd_seto r5 o
        have k6 := k5.setCell (i := 2) (.int .i64 (o : Int))
        have hXR : X ≠ R := by omega
        have hwR : w.heap.size ≠ R := by omega
        have eX6 : (W5.setCell ⟨R, 2, none⟩ (.int .i64 (o : Int))).heap[X]? = _ := (RowKit.Below.heap_setCell _ _ _ _ hXR).trans eX5
        have e46 : (W5.setCell ⟨R, 2, none⟩ (.int .i64 (o : Int))).heap[w.heap.size]? = _ := (RowKit.Below.heap_setCell _ _ _ _ hwR).trans e45
        have row6 := row5.set (.int .i64 (o : Int)) (.inl (Nat.lt_succ_of_lt hRn)) (i := 2)
        obtain ⟨⟨z0, z1, z2, z3⟩, _⟩ := four_at eX6
        obtain ⟨⟨x0, x1, x2, x3⟩, _⟩ := four_at e46
        have y0 : (W5.setCell ⟨R, 2, none⟩ (.int .i64 (o : Int))).frozen? ⟨w.heap.size, 0, none⟩ = false := by simp only [World.frozen?, e46]; rfl
        have y1 : (W5.setCell ⟨R, 2, none⟩ (.int .i64 (o : Int))).frozen? ⟨w.heap.size, 1, none⟩ = false := by simp only [World.frozen?, e46]; rfl
        have y2 : (W5.setCell ⟨R, 2, none⟩ (.int .i64 (o : Int))).frozen? ⟨w.heap.size, 2, none⟩ = false := by simp only [World.frozen?, e46]; rfl
        have y3 : (W5.setCell ⟨R, 2, none⟩ (.int .i64 (o : Int))).frozen? ⟨w.heap.size, 3, none⟩ = false := by simp only [World.frozen?, e46]; rfl
        have hne : R ≠ w.heap.size := fun e => hwR e.symm
        have hN0 : w.heap.size < w.heap.size + 1 := Nat.lt_succ_self _
        have t6 := row6.kat
        have HALL : Hid (KAt (low (W5.setCell ⟨R, 2, none⟩ (.int .i64 (o : Int))) (w.heap.size + 1)) (.slice vs L.length vc) f ∧ RdAt (W5.setCell ⟨R, 2, none⟩ (.int .i64 (o : Int))) R t (m0 + 1) o ∧ But R w (W5.setCell ⟨R, 2, none⟩ (.int .i64 (o : Int))) ∧ (W5.setCell ⟨R, 2, none⟩ (.int .i64 (o : Int))).heap[w.heap.size]? = some (.cells #[.int .i64 0, .int .i64 0, .int .i64 0, .slice none 0 0] 24 (0, 0))) := ⟨t6, r6, k6, e46⟩
        clear row3 eX3 e43 k3 t3 d1 d2 row5 eX5 e45 k5 r5 b5 row6 eX6 e46 k6 r6 t6 H5 rW3
        go_wp2_with fail
        generalize W5.setCell ⟨R, 2, none⟩ (.int .i64 (o : Int)) = W6 at *
        obtain ⟨t6, r6, k6, e46⟩ := HALL.out
        have k11 := (((k6.fresh (i := 0) (.int .i64 1) (Nat.le_refl w.heap.size)).fresh (i := 1) (.int .i64 0) (Nat.le_refl w.heap.size)).fresh (i := 2) (.int .i64 0) (Nat.le_refl w.heap.size)).fresh (i := 3) (.slice vs L.length vc) (Nat.le_refl w.heap.size)
        have r11 := (((r6.fresh (i := 0) (.int .i64 1) hne).fresh (i := 1) (.int .i64 0) hne).fresh (i := 2) (.int .i64 0) hne).fresh (i := 3) (.slice vs L.length vc) hne
        have t11 := ((((t6.set (i := 0) (.int .i64 1) hN0).set (i := 1) (.int .i64 0) hN0).set (i := 2) (.int .i64 0) hN0).set (i := 3) (.slice vs L.length vc) hN0).down (Nat.le_of_lt hN0)
        have z : ((((W6.setCell ⟨w.heap.size, 0, none⟩ (.int .i64 1)).setCell ⟨w.heap.size, 1, none⟩ (.int .i64 0)).setCell ⟨w.heap.size, 2, none⟩ (.int .i64 0)).setCell ⟨w.heap.size, 3, none⟩ (.slice vs L.length vc)).heap[w.heap.size]? = some (.cells #[.int .i64 1, .int .i64 0, .int .i64 0, .slice vs L.length vc] 24 (0, 0)) :=
          heap_setCell_same _ _ 3 _ _ _ (heap_setCell_same _ _ 2 _ _ _ (heap_setCell_same _ _ 1 _ _ _ (heap_setCell_same _ _ 0 _ _ _ e46)))
        exact bodyPost_ret (v := .agg #[.int .i64 1, .int .i64 0, .int .i64 0, .slice vs L.length vc]) (results_cell_row rfl _ _ w.heap.size _ _ _ _ rfl z Tryd.underlying24 rfl (by kernel_rfl)) rfl ⟨_, rfl, t11, r11, k11⟩
      · rw [hnx] at HT
        simp only [if_true] at HT
        cases hrs : rs with
        | nil => rw [hrs] at hrow; exact absurd hrow id
        | cons wy2 pn2 sz2 k2 rs2 =>
          rw [hrs] at hrow hg hks
          obtain ⟨m2, hm2, hP2, hrest2⟩ := hrow
          have HP2 : Hid (PartOk R t b0 b1 b2 wy2 pn2 sz2 k2 (q + 1) m2 (o + 1)) := hP2
          have HR2 : Hid (Rest R t b0 b1 b2 (o + 1) rs2 m2 m0) := hrest2
          clear hP2 hrest2 hnx hrs
          go_wp2_with fail
          refine HT.mono ?_
          rintro e W3 ⟨rfl, rW3, bW3⟩
          have row3 := row.but bW3 (Nat.lt_succ_of_lt hRn)
          have eX3 := (bW3.block _ (Array.getElem?_eq_some_iff.1 eX).1 (by omega)).trans eX
          have e43 := (bW3.block _ (Array.getElem?_eq_some_iff.1 e4).1 (by omega)).trans e4
          have k3 := hbt.trans bW3
          have t3 := htb.but bW3 hgR
          obtain ⟨vs, hvs⟩ : ∃ (a : Option Addr) (c : Nat), v = .slice a L.length c := by
            rcases row3.1.2 with ⟨h, h0⟩ | ⟨g, cap, _, h, _⟩
            · exact ⟨none, 0, by rw [h, h0]⟩
            · exact ⟨_, _, h⟩
          obtain ⟨vc, rfl⟩ := hvs
          have xc := (four_at eX3).1.2.2.2
          have xc' : W3.drew.cell? ⟨X, 3, none⟩ = some (.slice vs L.length vc) := xc
          clear row eX hrd hbt htb e4 bW3 HT e5 r3 e4' row0 hs3
          obtain ⟨i0, hi, hzz⟩ := Option.map_eq_some_iff.1 sp_info
          simp only [Prod.mk.injEq] at hzz
          obtain ⟨hz0, hz1, hz2⟩ := hzz
          have hfl : L.length ≤ 100000 := by
            have h1 := Reads.len L f row3.2.1
            have h2 := app_len f (cons wy2 pn2 sz2 k2 rs2)
            rw [hks] at h2
            omega
          have hXlt : X < W3.heap.size := (Array.getElem?_eq_some_iff.1 eX3).1
          go_wp2_with fail
          go_region_law (first
            | (refine step_go rfl 74 #[.pointer (some ⟨R, 0, none⟩)] (by go_simp) _ (HP2.out _ (show RdAt W3.drew R t (q + 1) (o + 1) from rW3) (show BrTab W3.drew b0 b1 b2 from t3)) ?_
               rintro e W4 ⟨kv2, rfl, hkv2, rW4, bW4⟩
               obtain ⟨ka2, kc2, rfl, _⟩ := id hkv2
               refine ⟨_, rfl, ?_⟩
               have row4 := row3.but (show But R W3 W4 from ⟨bW4.os, bW4.tape, bW4.output, bW4.size, bW4.block⟩) (Nat.lt_succ_of_lt hRn)
               have eX4 := (bW4.block X hXlt (by omega)).trans eX3
               have xcs := (four_at eX4).1.2.2.2
               have own4 := World.ownsRow.alloc row4.1 (.cells #[.int .i64 wy2, .int .i64 pn2, .int .i64 sz2, .slice ka2 k2.len kc2] 24)
               have hnk := cells_of_row (L := [.int .i64 wy2, .int .i64 pn2, .int .i64 sz2, .slice ka2 k2.len kc2]) (heap_alloc_new W4 (.cells #[.int .i64 wy2, .int .i64 pn2, .int .i64 sz2, .slice ka2 k2.len kc2] 24))
               have hX4 : X < W4.heap.size := (Array.getElem?_eq_some_iff.1 eX4).1
               have szA : (W4.alloc (.cells #[.int .i64 wy2, .int .i64 pn2, .int .i64 sz2, .slice ka2 k2.len kc2] 24)).heap.size = W4.heap.size + 1 := by rw [show (W4.alloc (.cells #[.int .i64 wy2, .int .i64 pn2, .int .i64 sz2, .slice ka2 k2.len kc2] 24)).heap = W4.heap.push (.cells #[.int .i64 wy2, .int .i64 pn2, .int .i64 sz2, .slice ka2 k2.len kc2] 24 (0, 0)) from rfl, Array.size_push]
               have hXa : X < (W4.alloc (.cells #[.int .i64 wy2, .int .i64 pn2, .int .i64 sz2, .slice ka2 k2.len kc2] 24)).heap.size := by omega
               have hbs : w.heap.size + 1 ≤ (W4.alloc (.cells #[.int .i64 wy2, .int .i64 pn2, .int .i64 sz2, .slice ka2 k2.len kc2] 24)).heap.size := by omega
               have eXa := (old_at W4 (.cells #[.int .i64 wy2, .int .i64 pn2, .int .i64 sz2, .slice ka2 k2.len kc2] 24) X hX4).trans eX4
               have hne4 : some X ≠ (Value.slice vs L.length vc).ownBlock := fun e => row4.2.2 e.symm)
            | (refine step_app_at rfl (.tmp 35) (.tmp 38) 22 rfl (w.heap.size + 1) 24 i0 (.agg #[.int .i64 0, .int .i64 0, .int .i64 0, .slice none 0 0]) 4 48 sp_und hi hz0 hz1 hz2 rfl (by decide) _ L.length (L.flatMap trc) (by simp [Act.eval]) own4 ⟨W4.heap.size, 0, none⟩ 1 1 [.int .i64 wy2, .int .i64 pn2, .int .i64 sz2, .slice ka2 k2.len kc2] (by simp [Act.eval]) rfl hnk (by intro u hu; simp at hu; rcases hu with rfl | rfl | rfl | rfl <;> rfl) (by unfold maxLen; omega) (by omega) hbs ?_
               intro v5 W5 hown5 hgrow5 hblk5
               obtain ⟨vs5, vc5, rfl⟩ : ∃ (a : Option Addr) (c : Nat), v5 = .slice a (L.length + 1) c := by
                 rcases hown5.2 with ⟨h, h0⟩ | ⟨g, cap, _, h, _⟩
                 · exact absurd h0 (by omega)
                 · exact ⟨_, _, h⟩
               have eX5 := (hgrow5.block X hXa hne4).trans eXa
               have xc5 := (four_at eX5).1.2.2.2
               have fx5 : W5.frozen? ⟨X, 3, none⟩ = false := by simp [World.frozen?, eX5]))
          all_goals
            have HROW := row_step (wy := wy2) (pn := pn2) (sz := sz2) (kv := .slice ka2 k2.len kc2) hRn hNX hXlt row3 eX3 e43 k3 t3 hgR hgl (show But R W3 W4 from ⟨bW4.os, bW4.tape, bW4.output, bW4.size, bW4.block⟩) rW4 hkv2 hown5 hgrow5 hblk5
            obtain ⟨row6, eX6, r6, k6, t6, e46⟩ := HROW
            clear row3 eX3 e43 k3 t3 xc xc' hkv2 rW4 bW4 row4 eX4 xcs own4 hnk hX4 szA hXa hbs eXa hne4 hown5 hgrow5 hblk5 eX5 xc5 fx5
            generalize W5.setCell ⟨X, 3, none⟩ (.slice vs5 (L.length + 1) vc5) = W6 at *
            go_wp2_with fail
            go_roundg rs2.len
            case measure => rw [Fo.len] at hg; omega
            case rel => exact ⟨_, _, _, rs2, m2, row6, eX6, r6, k6, t6, e46, by rw [app_app]; exact hks, hm2, Nat.le_refl _, HR2.out⟩
end Spl
end Go.Proofs.YtckkbmgdaplaaaaDoor
