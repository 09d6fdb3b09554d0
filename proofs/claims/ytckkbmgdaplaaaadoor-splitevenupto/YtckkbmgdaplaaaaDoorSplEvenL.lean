/- The law SplitEven. (Written by gen_splevenl.py.) -/
import Derived.Test.YtckkbmgdaplaaaaDoorSplEven
import Derived.Test.YtckkbmgdaplaaaaDoorSplParted
import Derived.Test.YtckkbmgdaplaaaaDoorSplRef2
import Derived.Test.YtckkbmgdaplaaaaDoorSplSame
namespace Go.Proofs.YtckkbmgdaplaaaaDoor
open Go.ChangeShapes Go.WideShapes Go.ChangeAt Go.RowKit Go.Maps
namespace Spl
open Fo
theorem kat_nil (w : World) : KAt w (.slice none 0 0) nil := KAt.nil w
set_option maxHeartbeats 4000000 in
set_option maxRecDepth 100000 in
theorem noSplit_any (w : World) : Calls Tryd.prog 24 #[.agg #[.int .i64 0, .int .i64 0, .int .i64 0, .slice none 0 0]] w fun e w' => e = .returned (.bool true) ∧ Below w.heap.size w w' := by
  have kb : Below w.heap.size w (w.alloc (.cells #[.int .i64 0, .int .i64 0, .int .i64 0, .slice none 0 0] 24)) := (Below.refl _ _).alloc (Nat.le_refl _) _
  have HS := same_any 0 0 0 0 0 0 nil nil (.slice none 0 0) (.slice none 0 0) (w.alloc (.cells #[.int .i64 0, .int .i64 0, .int .i64 0, .slice none 0 0] 24)) (by decide) (KAt.nil _) (KAt.nil _)
  rw [decide_eq_true rfl] at HS
  go_enter Tryd.func24, Tryd.ntmps24
  go_wp2_with fail
  refine HS.mono ?_
  rintro e W ⟨rfl, b⟩
  go_wp2_with fail
  go_ret
  exact ⟨rfl, kb.trans (b.mono kb.size)⟩
theorem chk_panes {wy pn sz : Int} {ks : Fo} (h : (chk (cons wy pn sz ks nil)).1 = 0) : (chk (cons wy pn sz ks nil)).2 = panesOf wy pn ks := by
  have := (chkF_ok _ _ _ h).1
  unfold chk
  rw [this, pnF_cons]
  simp [panesOf, pnF]
set_option maxHeartbeats 8000000 in
set_option maxRecDepth 100000 in
theorem even_bad (wy pn sz : Int) (ks : Fo) (kv : Value) (way : Int) (w : World) (b0 b1 b2 : ByteArray) (hB : BrTab w b0 b1 b2) (hb : Br b1 b2) (hk : KAt w kv ks) (hcnt : ks.cnt ≤ 2000000) (hc : (chk (cons wy pn sz ks nil)).1 ≠ 0) :
    Calls Tryd.prog 6 #[.agg #[.int .i64 wy, .int .i64 pn, .int .i64 sz, kv], .int .i64 way] w fun e w' => e = .returned (.bool true) ∧ Below w.heap.size w w' := by
  have HPT := fun V (hV : Below w.heap.size w V) => parted_any b0 b1 b2 V (hB.below hV) hb
  have HK : Hid (∀ V, Below w.heap.size w V → KAt V kv ks) := fun V hV => kat_below hk hV
  have kb : Below w.heap.size w (w.alloc (.cells #[.int .i64 wy, .int .i64 pn, .int .i64 sz, kv] 24)) := (Below.refl _ _).alloc (Nat.le_refl _) _
  have xb := heap_alloc_new w (.cells #[.int .i64 wy, .int .i64 pn, .int .i64 sz, kv] 24)
  have HR := fun V (hV : Below w.heap.size w V) => checkR_any wy pn sz ks kv V (HK.out V hV) hcnt
  have HE := Even_bad wy pn sz ks kv way _ (HK.out _ kb) hcnt hc
  obtain ⟨er, her⟩ : ∃ er, (chk (cons wy pn sz ks nil)).1 = er := ⟨_, rfl⟩
  rw [her] at HE hc HR
  have ie : (er == 0) = false := beq_eq_false_iff_ne.2 hc
  clear her hk hB hb
  go_enter Tryd.func6, Tryd.ntmps6
  go_wp2_with fail
  refine HE.mono ?_
  rintro e W1 ⟨rfl, bE⟩
  have k1 := kb.trans (bE.mono kb.size)
  have t1 := (bE.block _ (Array.getElem?_eq_some_iff.1 xb).1).trans xb
  have kA : Below W1.heap.size W1 (W1.alloc (.cells #[.int .i64 0, .int .i64 0, .int .i64 0, .slice none 0 0] 24)) := (Below.refl _ _).alloc (Nat.le_refl _) _
  have e1 := heap_alloc_new W1 (.cells #[.int .i64 0, .int .i64 0, .int .i64 0, .slice none 0 0] 24)
  have t2 := (kA.block _ (Array.getElem?_eq_some_iff.1 t1).1).trans t1
  have k2 := k1.trans (kA.mono k1.size)
  obtain ⟨⟨c0, c1, c2, c3⟩, _⟩ := four_at t2
  have HRA := HR _ k2
  clear HE kb xb t1 k1 bE HR
  go_wp2_with fail
  refine HRA.mono ?_
  rintro e W2 ⟨vl, rfl, oL, bR⟩
  have k3 := k2.trans (bR.mono k2.size)
  have e2 := (bR.block _ (Array.getElem?_eq_some_iff.1 e1).1).trans e1
  obtain ⟨⟨x0, x1, x2, x3⟩, _⟩ := four_at e2
  clear HRA oL bR k2 kA e1 t2 c0 c1 c2 c3
  go_wp2_with fail
  refine (HPT _ k3).mono ?_
  rintro e W3 ⟨rfl, b3⟩
  have k4 := k3.trans (b3.mono k3.size)
  have e3 := (b3.block _ (Array.getElem?_eq_some_iff.1 e2).1).trans e2
  clear x0 x1 x2 x3
  go_wp2_with fail
  refine (HPT _ k4).mono ?_
  rintro e W4 ⟨rfl, b4⟩
  have k5 := k4.trans (b4.mono k4.size)
  have e4 := (b4.block _ (Array.getElem?_eq_some_iff.1 e3).1).trans e3
  obtain ⟨⟨x0, x1, x2, x3⟩, _⟩ := four_at e4
  clear HPT b3 b4 e2 e3 e4 k3 k4
  go_wp2_with fail
  refine (noSplit_any _).mono ?_
  rintro e W5 ⟨rfl, b5⟩
  go_wp2_with fail
  go_ret
  exact ⟨rfl, k5.trans (b5.mono k5.size)⟩
set_option maxHeartbeats 8000000 in
set_option maxRecDepth 100000 in
theorem even_way (wy pn sz : Int) (ks : Fo) (kv : Value) (way : Int) (w : World) (b0 b1 b2 : ByteArray) (hB : BrTab w b0 b1 b2) (hb : Br b1 b2) (hk : KAt w kv ks) (hcnt : ks.cnt ≤ 2000000) (hc : (chk (cons wy pn sz ks nil)).1 = 0) (hw : ¬ (way = 1 ∨ way = 2)) :
    Calls Tryd.prog 6 #[.agg #[.int .i64 wy, .int .i64 pn, .int .i64 sz, kv], .int .i64 way] w fun e w' => e = .returned (.bool true) ∧ Below w.heap.size w w' := by
  have HPT := fun V (hV : Below w.heap.size w V) => parted_any b0 b1 b2 V (hB.below hV) hb
  have HK : Hid (∀ V, Below w.heap.size w V → KAt V kv ks) := fun V hV => kat_below hk hV
  have kb : Below w.heap.size w (w.alloc (.cells #[.int .i64 wy, .int .i64 pn, .int .i64 sz, kv] 24)) := (Below.refl _ _).alloc (Nat.le_refl _) _
  have xb := heap_alloc_new w (.cells #[.int .i64 wy, .int .i64 pn, .int .i64 sz, kv] 24)
  have HR := fun V (hV : Below w.heap.size w V) => checkR_any wy pn sz ks kv V (HK.out V hV) hcnt
  have HE := Even_way wy pn sz ks kv way _ (HK.out _ kb) hcnt hc hw
  rw [hc] at HR
  have i1 : (way == 1) = false := beq_eq_false_iff_ne.2 (fun h => hw (.inl h))
  have i2 : (way == 2) = false := beq_eq_false_iff_ne.2 (fun h => hw (.inr h))
  have i3 : (way != 1) = true := by simpa using fun h => hw (.inl h)
  have i4 : (way != 2) = true := by simpa using fun h => hw (.inr h)
  have i5 : ¬ way = 1 := fun h => hw (.inl h)
  have i6 : ¬ way = 2 := fun h => hw (.inr h)
  clear hk hB hb
  go_enter Tryd.func6, Tryd.ntmps6
  go_wp2_with fail
  refine HE.mono ?_
  rintro e W1 ⟨rfl, bE⟩
  have k1 := kb.trans (bE.mono kb.size)
  have t1 := (bE.block _ (Array.getElem?_eq_some_iff.1 xb).1).trans xb
  have kA : Below W1.heap.size W1 (W1.alloc (.cells #[.int .i64 0, .int .i64 0, .int .i64 0, .slice none 0 0] 24)) := (Below.refl _ _).alloc (Nat.le_refl _) _
  have e1 := heap_alloc_new W1 (.cells #[.int .i64 0, .int .i64 0, .int .i64 0, .slice none 0 0] 24)
  have t2 := (kA.block _ (Array.getElem?_eq_some_iff.1 t1).1).trans t1
  have k2 := k1.trans (kA.mono k1.size)
  obtain ⟨⟨c0, c1, c2, c3⟩, _⟩ := four_at t2
  have HRA := HR _ k2
  clear HE kb xb t1 k1 bE HR
  go_wp2_with fail
  refine HRA.mono ?_
  rintro e W2 ⟨vl, rfl, oL, bR⟩
  have k3 := k2.trans (bR.mono k2.size)
  have e2 := (bR.block _ (Array.getElem?_eq_some_iff.1 e1).1).trans e1
  obtain ⟨⟨x0, x1, x2, x3⟩, _⟩ := four_at e2
  clear HRA oL bR k2 kA e1 t2 c0 c1 c2 c3
  go_wp2_with fail
  refine (HPT _ k3).mono ?_
  rintro e W3 ⟨rfl, b3⟩
  have k4 := k3.trans (b3.mono k3.size)
  have e3 := (b3.block _ (Array.getElem?_eq_some_iff.1 e2).1).trans e2
  clear x0 x1 x2 x3
  go_wp2_with fail
  refine (HPT _ k4).mono ?_
  rintro e W4 ⟨rfl, b4⟩
  have k5 := k4.trans (b4.mono k4.size)
  have e4 := (b4.block _ (Array.getElem?_eq_some_iff.1 e3).1).trans e3
  obtain ⟨⟨x0, x1, x2, x3⟩, _⟩ := four_at e4
  clear HPT b3 b4 e2 e3 e4 k3 k4
  go_wp2_with fail
  refine (noSplit_any _).mono ?_
  rintro e W5 ⟨rfl, b5⟩
  go_wp2_with fail
  go_ret
  exact ⟨rfl, k5.trans (b5.mono k5.size)⟩
set_option maxHeartbeats 8000000 in
set_option maxRecDepth 100000 in
theorem even_one (wy pn sz : Int) (ks : Fo) (kv : Value) (way : Int) (w : World) (b0 b1 b2 : ByteArray) (hB : BrTab w b0 b1 b2) (hb : Br b1 b2) (hk : KAt w kv ks) (hcnt : ks.cnt ≤ 2000000) (hc : (chk (cons wy pn sz ks nil)).1 = 0) (hw : way = 1 ∨ way = 2) (pp : Int) (hl : panesOf wy pn ks = [pp]) :
    Calls Tryd.prog 6 #[.agg #[.int .i64 wy, .int .i64 pn, .int .i64 sz, kv], .int .i64 way] w fun e w' => e = .returned (.bool true) ∧ Below w.heap.size w w' := by
  have HPT := fun V (hV : Below w.heap.size w V) => parted_any b0 b1 b2 V (hB.below hV) hb
  have HK : Hid (∀ V, Below w.heap.size w V → KAt V kv ks) := fun V hV => kat_below hk hV
  have kb : Below w.heap.size w (w.alloc (.cells #[.int .i64 wy, .int .i64 pn, .int .i64 sz, kv] 24)) := (Below.refl _ _).alloc (Nat.le_refl _) _
  have xb := heap_alloc_new w (.cells #[.int .i64 wy, .int .i64 pn, .int .i64 sz, kv] 24)
  have HR := fun V (hV : Below w.heap.size w V) => checkR_any wy pn sz ks kv V (HK.out V hV) hcnt
  have HE := Even_one wy pn sz ks kv way _ (HK.out _ kb) hcnt hc hw pp hl
  rw [chk_panes hc, hc, hl] at HR
  obtain ⟨LL, hLL⟩ : ∃ LL, [pp] = LL := ⟨_, rfl⟩
  have hL9 : LL.length ≤ 2000000 := by rw [← hLL]; simp
  have HLL : Hid ([pp] = LL) := hLL
  have HIL : Hid (LL.length = 1) := by
    unfold Hid
    rw [← hLL]
    rfl
  rw [hLL] at HR
  obtain ⟨i0, hi, hzz⟩ := Option.map_eq_some_iff.1 sp_info
  simp only [Prod.mk.injEq] at hzz
  obtain ⟨hz0, hz1, hz2⟩ := hzz
  have iw : way = 1 ∨ way = 2 := hw
  clear hk hB hb hLL hc hl
  rcases iw with rfl | rfl
  · go_enter Tryd.func6, Tryd.ntmps6
    go_wp2_with fail
    refine HE.mono ?_
    rintro e W1 ⟨rfl, bE⟩
    have k1 := kb.trans (bE.mono kb.size)
    have t1 := (bE.block _ (Array.getElem?_eq_some_iff.1 xb).1).trans xb
    have kA : Below W1.heap.size W1 (W1.alloc (.cells #[.int .i64 0, .int .i64 pp, .int .i64 1, .slice none 0 0] 24)) := (Below.refl _ _).alloc (Nat.le_refl _) _
    have e1 := heap_alloc_new W1 (.cells #[.int .i64 0, .int .i64 pp, .int .i64 1, .slice none 0 0] 24)
    have t2 := (kA.block _ (Array.getElem?_eq_some_iff.1 t1).1).trans t1
    have k2 := k1.trans (kA.mono k1.size)
    obtain ⟨⟨c0, c1, c2, c3⟩, _⟩ := four_at t2
    have HRA := HR _ k2
    clear HE kb xb t1 k1 bE HR
    go_wp2_with fail
    refine HRA.mono ?_
    rintro e W2 ⟨vl, rfl, oL, bR⟩
    have k3 := k2.trans (bR.mono k2.size)
    have e2 := (bR.block _ (Array.getElem?_eq_some_iff.1 e1).1).trans e1
    obtain ⟨⟨x0, x1, x2, x3⟩, _⟩ := four_at e2
    clear HRA bR k2 kA e1 t2 c0 c1 c2 c3
    go_wp2_with fail
    refine (HPT _ k3).mono ?_
    rintro e W3 ⟨rfl, b3⟩
    have k4 := k3.trans (b3.mono k3.size)
    have e3 := (b3.block _ (Array.getElem?_eq_some_iff.1 e2).1).trans e2
    have hsl := oL.sl.ck (CK.below b3)
    obtain ⟨ai, ci, rfl⟩ := hsl.slice
    have kV : Below W3.heap.size W3 (W3.alloc (.cells #[.int .i64 1, .int .i64 0, .int .i64 1, .slice none 0 0] 24)) := (Below.refl _ _).alloc (Nat.le_refl _) _
    have eV := heap_alloc_new W3 (.cells #[.int .i64 1, .int .i64 0, .int .i64 1, .slice none 0 0] 24)
    have sV : (W3.alloc (.cells #[.int .i64 1, .int .i64 0, .int .i64 1, .slice none 0 0] 24)).heap.size = W3.heap.size + 1 := by rw [World.size_alloc]
    have h0 : OwnL (W3.alloc (.cells #[.int .i64 1, .int .i64 0, .int .i64 1, .slice none 0 0] 24)) (W3.heap.size + 1) (.slice none 0 0) [] := World.ownsRow_nil _ _ _ _
    have HS : Hid (SlI W3 (.slice ai LL.length ci) LL) := hsl
    clear oL hsl b3 e2 x0 x1 x2 x3 HPT k3
    go_wp2_with fail
    go_loopg [53] (LL.length + 1) (fun g v53 wr => ∃ (i : Nat) (v : Value), v53 = .int .i64 (i : Int) ∧ i ≤ LL.length ∧ LL.length - i < g ∧ OwnL wr (W3.heap.size + 1) v (LL.take i) ∧ wr.heap[W3.heap.size]? = some (.cells #[.int .i64 1, .int .i64 0, .int .i64 1, v] 24 (0, 0)) ∧ Below W3.heap.size W3 wr)
    case atStart => exact ⟨0, _, rfl, Nat.zero_le _, by omega, h0, eV, kV⟩
    case round =>
      obtain ⟨i, v, rfl, hi', hg, hown, hX, hbel⟩ := hrel
      clear h0 eV kV sV
      by_cases hil : i < LL.length
      · have iin : (i : Int) < (LL.length : Int) := Int.ofNat_lt.2 hil
        obtain ⟨bb, oo, c', hv, hc'⟩ := HS.out.get (by intro h; rw [h] at hil; simp at hil)
        injection hv with q1 q2 q3
        subst q1 q3
        have z0 := hc' i LL[i] (List.getElem?_eq_getElem hil)
        have z1 : wr.cell? ⟨bb, oo + i, none⟩ = some (.int .i64 LL[i]) := by rw [hbel.cell (lt_of_cell z0)]; exact z0
        obtain ⟨p, hp⟩ : ∃ p, LL[i] = p := ⟨_, rfl⟩
        rw [hp] at z1
        have HTK : Hid (LL.take (i + 1) = LL.take i ++ [p]) := by
          show _ = _
          rw [List.take_succ_eq_append_getElem hil, hp]
        have hXl : W3.heap.size < wr.heap.size := (Array.getElem?_eq_some_iff.1 hX).1
        have htl : (LL.take i).length = i := by rw [List.length_take]; omega
        obtain ⟨va, vc, rfl⟩ : ∃ a c, v = .slice a i c := by
          rcases hown.2 with ⟨h, h0⟩ | ⟨g, cap, _, h, _⟩
          · exact ⟨none, 0, by rw [h, ← htl, h0]⟩
          · exact ⟨_, _, by rw [h, htl]⟩
        have HO : Hid (OwnL (wr.alloc (.cells #[.int .i64 0, .int .i64 p, .int .i64 1, .slice none 0 0] 24)) (W3.heap.size + 1) (.slice va i vc) (LL.take i)) := World.ownsRow.alloc hown _
        have kA := hbel.alloc hbel.size (.cells #[.int .i64 0, .int .i64 p, .int .i64 1, .slice none 0 0] 24)
        have xA : (wr.alloc (.cells #[.int .i64 0, .int .i64 p, .int .i64 1, .slice none 0 0] 24)).heap[W3.heap.size]? = _ := (old_at' wr _ _ hXl).trans hX
        have sA : (wr.alloc (.cells #[.int .i64 0, .int .i64 p, .int .i64 1, .slice none 0 0] 24)).heap.size = wr.heap.size + 1 := by rw [World.size_alloc]
        have hnk := cells_of_row (L := [.int .i64 0, .int .i64 p, .int .i64 1, .slice none 0 0]) (heap_alloc_new wr (.cells #[.int .i64 0, .int .i64 p, .int .i64 1, .slice none 0 0] 24))
        have hfr := hown.from
        obtain ⟨⟨u0, u1, u2, u3⟩, _⟩ := four_at hX
        have hii : i ≤ 2000000 := by omega
        clear hown hc' z0 hp hX
        go_wp2_with (at_builtin; refine wpList_append_own _ rfl _ _ 22 rfl (W3.heap.size + 1) 24 i0 (.agg #[.int .i64 0, .int .i64 0, .int .i64 0, .slice none 0 0]) 4 48 sp_und hi hz0 hz1 hz2 rfl (by decide) _ _ _ rfl HO.out ⟨wr.heap.size, 0, none⟩ 1 1 [.int .i64 0, .int .i64 p, .int .i64 1, .slice none 0 0] rfl rfl hnk (by intro u hu; simp at hu; rcases hu with rfl | rfl | rfl | rfl <;> rfl) (by unfold maxLen; omega) (by omega) (by omega) ?_; intro v3 W4 hown3 hgrow hnil; obtain ⟨v3a, v3c, rfl⟩ : ∃ a c, v3 = .slice a (i + 1) c := (by rcases hown3.2 with ⟨h, h0⟩ | ⟨g, cap, _, h, _⟩; exact absurd h0 (by omega); exact ⟨_, _, by rw [h, htl]⟩); have x4 := (hgrow.block W3.heap.size (by omega) (fun e => by have := hfr _ e.symm; omega)).trans xA; obtain ⟨⟨s0, s1, s2, s3⟩, _⟩ := four_at x4; have fr4 : ∀ i, W4.frozen? ⟨W3.heap.size, i, none⟩ = false := fun i => by simp only [World.frozen?, x4]; rfl)
        have x5 := heap_setCell_same W4 W3.heap.size 3 _ _ (.slice v3a (i + 1) v3c) x4
        have hne5 : ∀ q, Value.ownBlock (.slice v3a (i + 1) v3c) = some q → q ≠ W3.heap.size := fun q hq => by
          have h9 : OwnL W4 (W3.heap.size + 1) (.slice v3a (i + 1) v3c) (LL.take (i + 1)) := by
            unfold OwnL
            rw [HTK.out, List.length_append, List.flatMap_append]
            exact hown3
          have := h9.from q hq
          omega
        go_roundg (LL.length - i)
        case measure => omega
        case rel =>
          refine ⟨i + 1, _, by go_num, by omega, by omega, ?_, x5, (kA.grown hgrow kA.size (fun k hk => by have := hfr k hk; omega)).setCell (p := ⟨W3.heap.size, 3, none⟩) (Nat.le_refl _) _⟩
          refine OwnL.put ?_ hne5
          unfold OwnL
          rw [HTK.out, List.length_append, List.flatMap_append]
          exact hown3
      · have iex : ¬ (i : Int) < (LL.length : Int) := fun h => hil (Int.ofNat_lt.1 h)
        have hlt : LL.take i = LL := List.take_of_length_le (by omega)
        rw [hlt] at hown
        have e5 := (hbel.block _ (Array.getElem?_eq_some_iff.1 e3).1).trans e3
        have k6 := k4.trans (hbel.mono k4.size)
        obtain ⟨⟨x0, x1, x2, x3⟩, _⟩ := four_at e5
        obtain ⟨⟨u0, u1, u2, u3⟩, _⟩ := four_at hX
        have hlow := hown.low
        rcases hown.2 with ⟨_, h⟩ | ⟨g, cap, cur, rfl, hg2, hh, hcc, _, hs, ht⟩
        · exfalso
          have := HIL.out
          rw [h] at this
          cases this
        have cell : ∀ j u, j < 4 → (lfc pp)[j]? = some u → wr.cell? ⟨g, j, none⟩ = some u := fun j u hj hu => by
          have hl1 : LL.length = 1 := HIL.out
          have e9 : LL.flatMap lfc = lfc pp := by rw [← HLL.out]; simp
          rw [e9, hl1] at ht
          unfold World.cell?
          rw [hh]
          rw [← ht, List.getElem?_take_of_lt (by simpa using hj)] at hu
          simpa using hu
        have g0 := cell 0 _ (by decide) rfl
        have g1 := cell 1 _ (by decide) rfl
        have g2 := cell 2 _ (by decide) rfl
        have g3 := cell 3 _ (by decide) rfl
        have frX : ∀ i, wr.frozen? ⟨W3.heap.size, i, none⟩ = false := fun i => by simp only [World.frozen?, hX]; rfl
        have v5 := set4_same (.int .i64 0) (.int .i64 pp) (.int .i64 1) (.slice none 0 0) hX
        have k7 := set4_below (.int .i64 0) (.int .i64 pp) (.int .i64 1) (.slice none 0 0) k6 (show w.heap.size ≤ W3.heap.size from k4.size)
        have hneX : W1.heap.size ≠ W3.heap.size := by
          have := (Array.getElem?_eq_some_iff.1 e3).1
          omega
        have e6 := (set4_other (.int .i64 0) (.int .i64 pp) (.int .i64 1) (.slice none 0 0) hneX).trans e5
        have hl1 : LL.length = 1 := HIL.out
        have iex1 : ¬ (i : Int) < 1 := by omega
        unfold set4 at v5 k7 e6
        obtain ⟨⟨y0, y1, y2, y3⟩, _⟩ := four_at v5
        obtain ⟨⟨o0, o1, o2, o3⟩, _⟩ := four_at e6
        have HSM := fun V => same_any 0 pp 1 0 pp 1 nil nil (.slice none 0 0) (.slice none 0 0) V (by decide) (KAt.nil V) (KAt.nil V)
        rw [decide_eq_true rfl] at HSM
        clear hown hX hbel e5 e3 HS hlow hh ht hs cell v5 e6 k6 iex hil hi' hg hlt
        go_wp2_with fail
        refine (HSM _).mono ?_
        rintro e W6 ⟨rfl, b6⟩
        go_wp2_with fail
        go_ret
        exact ⟨rfl, k7.trans (b6.mono k7.size)⟩
  · go_enter Tryd.func6, Tryd.ntmps6
    go_wp2_with fail
    refine HE.mono ?_
    rintro e W1 ⟨rfl, bE⟩
    have k1 := kb.trans (bE.mono kb.size)
    have t1 := (bE.block _ (Array.getElem?_eq_some_iff.1 xb).1).trans xb
    have kA : Below W1.heap.size W1 (W1.alloc (.cells #[.int .i64 0, .int .i64 pp, .int .i64 1, .slice none 0 0] 24)) := (Below.refl _ _).alloc (Nat.le_refl _) _
    have e1 := heap_alloc_new W1 (.cells #[.int .i64 0, .int .i64 pp, .int .i64 1, .slice none 0 0] 24)
    have t2 := (kA.block _ (Array.getElem?_eq_some_iff.1 t1).1).trans t1
    have k2 := k1.trans (kA.mono k1.size)
    obtain ⟨⟨c0, c1, c2, c3⟩, _⟩ := four_at t2
    have HRA := HR _ k2
    clear HE kb xb t1 k1 bE HR
    go_wp2_with fail
    refine HRA.mono ?_
    rintro e W2 ⟨vl, rfl, oL, bR⟩
    have k3 := k2.trans (bR.mono k2.size)
    have e2 := (bR.block _ (Array.getElem?_eq_some_iff.1 e1).1).trans e1
    obtain ⟨⟨x0, x1, x2, x3⟩, _⟩ := four_at e2
    clear HRA bR k2 kA e1 t2 c0 c1 c2 c3
    go_wp2_with fail
    refine (HPT _ k3).mono ?_
    rintro e W3 ⟨rfl, b3⟩
    have k4 := k3.trans (b3.mono k3.size)
    have e3 := (b3.block _ (Array.getElem?_eq_some_iff.1 e2).1).trans e2
    have hsl := oL.sl.ck (CK.below b3)
    obtain ⟨ai, ci, rfl⟩ := hsl.slice
    have kV : Below W3.heap.size W3 (W3.alloc (.cells #[.int .i64 2, .int .i64 0, .int .i64 1, .slice none 0 0] 24)) := (Below.refl _ _).alloc (Nat.le_refl _) _
    have eV := heap_alloc_new W3 (.cells #[.int .i64 2, .int .i64 0, .int .i64 1, .slice none 0 0] 24)
    have sV : (W3.alloc (.cells #[.int .i64 2, .int .i64 0, .int .i64 1, .slice none 0 0] 24)).heap.size = W3.heap.size + 1 := by rw [World.size_alloc]
    have h0 : OwnL (W3.alloc (.cells #[.int .i64 2, .int .i64 0, .int .i64 1, .slice none 0 0] 24)) (W3.heap.size + 1) (.slice none 0 0) [] := World.ownsRow_nil _ _ _ _
    have HS : Hid (SlI W3 (.slice ai LL.length ci) LL) := hsl
    clear oL hsl b3 e2 x0 x1 x2 x3 HPT k3
    go_wp2_with fail
    go_loopg [53] (LL.length + 1) (fun g v53 wr => ∃ (i : Nat) (v : Value), v53 = .int .i64 (i : Int) ∧ i ≤ LL.length ∧ LL.length - i < g ∧ OwnL wr (W3.heap.size + 1) v (LL.take i) ∧ wr.heap[W3.heap.size]? = some (.cells #[.int .i64 2, .int .i64 0, .int .i64 1, v] 24 (0, 0)) ∧ Below W3.heap.size W3 wr)
    case atStart => exact ⟨0, _, rfl, Nat.zero_le _, by omega, h0, eV, kV⟩
    case round =>
      obtain ⟨i, v, rfl, hi', hg, hown, hX, hbel⟩ := hrel
      clear h0 eV kV sV
      by_cases hil : i < LL.length
      · have iin : (i : Int) < (LL.length : Int) := Int.ofNat_lt.2 hil
        obtain ⟨bb, oo, c', hv, hc'⟩ := HS.out.get (by intro h; rw [h] at hil; simp at hil)
        injection hv with q1 q2 q3
        subst q1 q3
        have z0 := hc' i LL[i] (List.getElem?_eq_getElem hil)
        have z1 : wr.cell? ⟨bb, oo + i, none⟩ = some (.int .i64 LL[i]) := by rw [hbel.cell (lt_of_cell z0)]; exact z0
        obtain ⟨p, hp⟩ : ∃ p, LL[i] = p := ⟨_, rfl⟩
        rw [hp] at z1
        have HTK : Hid (LL.take (i + 1) = LL.take i ++ [p]) := by
          show _ = _
          rw [List.take_succ_eq_append_getElem hil, hp]
        have hXl : W3.heap.size < wr.heap.size := (Array.getElem?_eq_some_iff.1 hX).1
        have htl : (LL.take i).length = i := by rw [List.length_take]; omega
        obtain ⟨va, vc, rfl⟩ : ∃ a c, v = .slice a i c := by
          rcases hown.2 with ⟨h, h0⟩ | ⟨g, cap, _, h, _⟩
          · exact ⟨none, 0, by rw [h, ← htl, h0]⟩
          · exact ⟨_, _, by rw [h, htl]⟩
        have HO : Hid (OwnL (wr.alloc (.cells #[.int .i64 0, .int .i64 p, .int .i64 1, .slice none 0 0] 24)) (W3.heap.size + 1) (.slice va i vc) (LL.take i)) := World.ownsRow.alloc hown _
        have kA := hbel.alloc hbel.size (.cells #[.int .i64 0, .int .i64 p, .int .i64 1, .slice none 0 0] 24)
        have xA : (wr.alloc (.cells #[.int .i64 0, .int .i64 p, .int .i64 1, .slice none 0 0] 24)).heap[W3.heap.size]? = _ := (old_at' wr _ _ hXl).trans hX
        have sA : (wr.alloc (.cells #[.int .i64 0, .int .i64 p, .int .i64 1, .slice none 0 0] 24)).heap.size = wr.heap.size + 1 := by rw [World.size_alloc]
        have hnk := cells_of_row (L := [.int .i64 0, .int .i64 p, .int .i64 1, .slice none 0 0]) (heap_alloc_new wr (.cells #[.int .i64 0, .int .i64 p, .int .i64 1, .slice none 0 0] 24))
        have hfr := hown.from
        obtain ⟨⟨u0, u1, u2, u3⟩, _⟩ := four_at hX
        have hii : i ≤ 2000000 := by omega
        clear hown hc' z0 hp hX
        go_wp2_with (at_builtin; refine wpList_append_own _ rfl _ _ 22 rfl (W3.heap.size + 1) 24 i0 (.agg #[.int .i64 0, .int .i64 0, .int .i64 0, .slice none 0 0]) 4 48 sp_und hi hz0 hz1 hz2 rfl (by decide) _ _ _ rfl HO.out ⟨wr.heap.size, 0, none⟩ 1 1 [.int .i64 0, .int .i64 p, .int .i64 1, .slice none 0 0] rfl rfl hnk (by intro u hu; simp at hu; rcases hu with rfl | rfl | rfl | rfl <;> rfl) (by unfold maxLen; omega) (by omega) (by omega) ?_; intro v3 W4 hown3 hgrow hnil; obtain ⟨v3a, v3c, rfl⟩ : ∃ a c, v3 = .slice a (i + 1) c := (by rcases hown3.2 with ⟨h, h0⟩ | ⟨g, cap, _, h, _⟩; exact absurd h0 (by omega); exact ⟨_, _, by rw [h, htl]⟩); have x4 := (hgrow.block W3.heap.size (by omega) (fun e => by have := hfr _ e.symm; omega)).trans xA; obtain ⟨⟨s0, s1, s2, s3⟩, _⟩ := four_at x4; have fr4 : ∀ i, W4.frozen? ⟨W3.heap.size, i, none⟩ = false := fun i => by simp only [World.frozen?, x4]; rfl)
        have x5 := heap_setCell_same W4 W3.heap.size 3 _ _ (.slice v3a (i + 1) v3c) x4
        have hne5 : ∀ q, Value.ownBlock (.slice v3a (i + 1) v3c) = some q → q ≠ W3.heap.size := fun q hq => by
          have h9 : OwnL W4 (W3.heap.size + 1) (.slice v3a (i + 1) v3c) (LL.take (i + 1)) := by
            unfold OwnL
            rw [HTK.out, List.length_append, List.flatMap_append]
            exact hown3
          have := h9.from q hq
          omega
        go_roundg (LL.length - i)
        case measure => omega
        case rel =>
          refine ⟨i + 1, _, by go_num, by omega, by omega, ?_, x5, (kA.grown hgrow kA.size (fun k hk => by have := hfr k hk; omega)).setCell (p := ⟨W3.heap.size, 3, none⟩) (Nat.le_refl _) _⟩
          refine OwnL.put ?_ hne5
          unfold OwnL
          rw [HTK.out, List.length_append, List.flatMap_append]
          exact hown3
      · have iex : ¬ (i : Int) < (LL.length : Int) := fun h => hil (Int.ofNat_lt.1 h)
        have hlt : LL.take i = LL := List.take_of_length_le (by omega)
        rw [hlt] at hown
        have e5 := (hbel.block _ (Array.getElem?_eq_some_iff.1 e3).1).trans e3
        have k6 := k4.trans (hbel.mono k4.size)
        obtain ⟨⟨x0, x1, x2, x3⟩, _⟩ := four_at e5
        obtain ⟨⟨u0, u1, u2, u3⟩, _⟩ := four_at hX
        have hlow := hown.low
        rcases hown.2 with ⟨_, h⟩ | ⟨g, cap, cur, rfl, hg2, hh, hcc, _, hs, ht⟩
        · exfalso
          have := HIL.out
          rw [h] at this
          cases this
        have cell : ∀ j u, j < 4 → (lfc pp)[j]? = some u → wr.cell? ⟨g, j, none⟩ = some u := fun j u hj hu => by
          have hl1 : LL.length = 1 := HIL.out
          have e9 : LL.flatMap lfc = lfc pp := by rw [← HLL.out]; simp
          rw [e9, hl1] at ht
          unfold World.cell?
          rw [hh]
          rw [← ht, List.getElem?_take_of_lt (by simpa using hj)] at hu
          simpa using hu
        have g0 := cell 0 _ (by decide) rfl
        have g1 := cell 1 _ (by decide) rfl
        have g2 := cell 2 _ (by decide) rfl
        have g3 := cell 3 _ (by decide) rfl
        have frX : ∀ i, wr.frozen? ⟨W3.heap.size, i, none⟩ = false := fun i => by simp only [World.frozen?, hX]; rfl
        have v5 := set4_same (.int .i64 0) (.int .i64 pp) (.int .i64 1) (.slice none 0 0) hX
        have k7 := set4_below (.int .i64 0) (.int .i64 pp) (.int .i64 1) (.slice none 0 0) k6 (show w.heap.size ≤ W3.heap.size from k4.size)
        have hneX : W1.heap.size ≠ W3.heap.size := by
          have := (Array.getElem?_eq_some_iff.1 e3).1
          omega
        have e6 := (set4_other (.int .i64 0) (.int .i64 pp) (.int .i64 1) (.slice none 0 0) hneX).trans e5
        have hl1 : LL.length = 1 := HIL.out
        have iex1 : ¬ (i : Int) < 1 := by omega
        unfold set4 at v5 k7 e6
        obtain ⟨⟨y0, y1, y2, y3⟩, _⟩ := four_at v5
        obtain ⟨⟨o0, o1, o2, o3⟩, _⟩ := four_at e6
        have HSM := fun V => same_any 0 pp 1 0 pp 1 nil nil (.slice none 0 0) (.slice none 0 0) V (by decide) (KAt.nil V) (KAt.nil V)
        rw [decide_eq_true rfl] at HSM
        clear hown hX hbel e5 e3 HS hlow hh ht hs cell v5 e6 k6 iex hil hi' hg hlt
        go_wp2_with fail
        refine (HSM _).mono ?_
        rintro e W6 ⟨rfl, b6⟩
        go_wp2_with fail
        go_ret
        exact ⟨rfl, k7.trans (b6.mono k7.size)⟩
set_option maxHeartbeats 8000000 in
set_option maxRecDepth 100000 in
theorem even_many (wy pn sz : Int) (ks : Fo) (kv : Value) (way : Int) (w : World) (b0 b1 b2 : ByteArray) (hB : BrTab w b0 b1 b2) (hb : Br b1 b2) (hk : KAt w kv ks) (hcnt : ks.cnt ≤ 2000000) (hc : (chk (cons wy pn sz ks nil)).1 = 0) (hw : way = 1 ∨ way = 2) (hl : (panesOf wy pn ks).length ≠ 1) :
    Calls Tryd.prog 6 #[.agg #[.int .i64 wy, .int .i64 pn, .int .i64 sz, kv], .int .i64 way] w fun e w' => e = .returned (.bool true) ∧ Below w.heap.size w w' := by
  have HPT := fun V (hV : Below w.heap.size w V) => parted_any b0 b1 b2 V (hB.below hV) hb
  have HK : Hid (∀ V, Below w.heap.size w V → KAt V kv ks) := fun V hV => kat_below hk hV
  have kb : Below w.heap.size w (w.alloc (.cells #[.int .i64 wy, .int .i64 pn, .int .i64 sz, kv] 24)) := (Below.refl _ _).alloc (Nat.le_refl _) _
  have xb := heap_alloc_new w (.cells #[.int .i64 wy, .int .i64 pn, .int .i64 sz, kv] 24)
  have HR := fun V (hV : Below w.heap.size w V) => checkR_any wy pn sz ks kv V (HK.out V hV) hcnt
  have HE := Even_many wy pn sz ks kv way _ (HK.out _ kb) hcnt hc hw hl
  rw [chk_panes hc, hc] at HR
  obtain ⟨LL, hLL⟩ : ∃ LL, panesOf wy pn ks = LL := ⟨_, rfl⟩
  have hL9 : LL.length ≤ 2000000 := by
    rw [← hLL]
    unfold panesOf
    have := pnF_len ks
    split
    · simp
    · omega
  rw [hLL] at HE HR hl
  have il : ¬ (LL.length : Int) = 1 := by omega
  have ilb : ((LL.length : Int) == 1) = false := beq_eq_false_iff_ne.2 il
  obtain ⟨i0, hi, hzz⟩ := Option.map_eq_some_iff.1 sp_info
  simp only [Prod.mk.injEq] at hzz
  obtain ⟨hz0, hz1, hz2⟩ := hzz
  have iw : way = 1 ∨ way = 2 := hw
  clear hk hB hb hLL hc hl
  rcases iw with rfl | rfl
  · go_enter Tryd.func6, Tryd.ntmps6
    go_wp2_with fail
    refine HE.mono ?_
    rintro e W1 ⟨vE, rfl, hE, bE⟩
    have k1 := kb.trans (bE.mono kb.size)
    have t1 := (bE.block _ (Array.getElem?_eq_some_iff.1 xb).1).trans xb
    obtain ⟨vEa, vEc, rfl, _⟩ := id hE
    rw [lfF_len] at *
    have kA : Below W1.heap.size W1 (W1.alloc (.cells #[.int .i64 1, .int .i64 0, .int .i64 1, .slice vEa LL.length vEc] 24)) := (Below.refl _ _).alloc (Nat.le_refl _) _
    have e1 := heap_alloc_new W1 (.cells #[.int .i64 1, .int .i64 0, .int .i64 1, .slice vEa LL.length vEc] 24)
    have t2 := (kA.block _ (Array.getElem?_eq_some_iff.1 t1).1).trans t1
    have k2 := k1.trans (kA.mono k1.size)
    obtain ⟨⟨c0, c1, c2, c3⟩, _⟩ := four_at t2
    have HRA := HR _ k2
    clear HE kb xb t1 k1 bE HR
    go_wp2_with fail
    refine HRA.mono ?_
    rintro e W2 ⟨vl, rfl, oL, bR⟩
    have k3 := k2.trans (bR.mono k2.size)
    have e2 := (bR.block _ (Array.getElem?_eq_some_iff.1 e1).1).trans e1
    obtain ⟨⟨x0, x1, x2, x3⟩, _⟩ := four_at e2
    have hE2 := kat_below hE (kA.trans (bR.mono kA.size))
    clear HRA bR k2 kA e1 t2 c0 c1 c2 c3
    go_wp2_with fail
    refine (HPT _ k3).mono ?_
    rintro e W3 ⟨rfl, b3⟩
    have k4 := k3.trans (b3.mono k3.size)
    have e3 := (b3.block _ (Array.getElem?_eq_some_iff.1 e2).1).trans e2
    have hsl := oL.sl.ck (CK.below b3)
    obtain ⟨ai, ci, rfl⟩ := hsl.slice
    have kV : Below W3.heap.size W3 (W3.alloc (.cells #[.int .i64 1, .int .i64 0, .int .i64 1, .slice none 0 0] 24)) := (Below.refl _ _).alloc (Nat.le_refl _) _
    have eV := heap_alloc_new W3 (.cells #[.int .i64 1, .int .i64 0, .int .i64 1, .slice none 0 0] 24)
    have sV : (W3.alloc (.cells #[.int .i64 1, .int .i64 0, .int .i64 1, .slice none 0 0] 24)).heap.size = W3.heap.size + 1 := by rw [World.size_alloc]
    have h0 : OwnL (W3.alloc (.cells #[.int .i64 1, .int .i64 0, .int .i64 1, .slice none 0 0] 24)) (W3.heap.size + 1) (.slice none 0 0) [] := World.ownsRow_nil _ _ _ _
    have HS : Hid (SlI W3 (.slice ai LL.length ci) LL) := hsl
    have b3H : Hid (Below W2.heap.size W2 W3) := b3
    clear oL hsl b3 e2 x0 x1 x2 x3 HPT k3
    go_wp2_with fail
    go_loopg [53] (LL.length + 1) (fun g v53 wr => ∃ (i : Nat) (v : Value), v53 = .int .i64 (i : Int) ∧ i ≤ LL.length ∧ LL.length - i < g ∧ OwnL wr (W3.heap.size + 1) v (LL.take i) ∧ wr.heap[W3.heap.size]? = some (.cells #[.int .i64 1, .int .i64 0, .int .i64 1, v] 24 (0, 0)) ∧ Below W3.heap.size W3 wr)
    case atStart => exact ⟨0, _, rfl, Nat.zero_le _, by omega, h0, eV, kV⟩
    case round =>
      obtain ⟨i, v, rfl, hi', hg, hown, hX, hbel⟩ := hrel
      clear h0 eV kV sV
      by_cases hil : i < LL.length
      · have iin : (i : Int) < (LL.length : Int) := Int.ofNat_lt.2 hil
        obtain ⟨bb, oo, c', hv, hc'⟩ := HS.out.get (by intro h; rw [h] at hil; simp at hil)
        injection hv with q1 q2 q3
        subst q1 q3
        have z0 := hc' i LL[i] (List.getElem?_eq_getElem hil)
        have z1 : wr.cell? ⟨bb, oo + i, none⟩ = some (.int .i64 LL[i]) := by rw [hbel.cell (lt_of_cell z0)]; exact z0
        obtain ⟨p, hp⟩ : ∃ p, LL[i] = p := ⟨_, rfl⟩
        rw [hp] at z1
        have HTK : Hid (LL.take (i + 1) = LL.take i ++ [p]) := by
          show _ = _
          rw [List.take_succ_eq_append_getElem hil, hp]
        have hXl : W3.heap.size < wr.heap.size := (Array.getElem?_eq_some_iff.1 hX).1
        have htl : (LL.take i).length = i := by rw [List.length_take]; omega
        obtain ⟨va, vc, rfl⟩ : ∃ a c, v = .slice a i c := by
          rcases hown.2 with ⟨h, h0⟩ | ⟨g, cap, _, h, _⟩
          · exact ⟨none, 0, by rw [h, ← htl, h0]⟩
          · exact ⟨_, _, by rw [h, htl]⟩
        have HO : Hid (OwnL (wr.alloc (.cells #[.int .i64 0, .int .i64 p, .int .i64 1, .slice none 0 0] 24)) (W3.heap.size + 1) (.slice va i vc) (LL.take i)) := World.ownsRow.alloc hown _
        have kA := hbel.alloc hbel.size (.cells #[.int .i64 0, .int .i64 p, .int .i64 1, .slice none 0 0] 24)
        have xA : (wr.alloc (.cells #[.int .i64 0, .int .i64 p, .int .i64 1, .slice none 0 0] 24)).heap[W3.heap.size]? = _ := (old_at' wr _ _ hXl).trans hX
        have sA : (wr.alloc (.cells #[.int .i64 0, .int .i64 p, .int .i64 1, .slice none 0 0] 24)).heap.size = wr.heap.size + 1 := by rw [World.size_alloc]
        have hnk := cells_of_row (L := [.int .i64 0, .int .i64 p, .int .i64 1, .slice none 0 0]) (heap_alloc_new wr (.cells #[.int .i64 0, .int .i64 p, .int .i64 1, .slice none 0 0] 24))
        have hfr := hown.from
        obtain ⟨⟨u0, u1, u2, u3⟩, _⟩ := four_at hX
        have hii : i ≤ 2000000 := by omega
        clear hown hc' z0 hp hX
        go_wp2_with (at_builtin; refine wpList_append_own _ rfl _ _ 22 rfl (W3.heap.size + 1) 24 i0 (.agg #[.int .i64 0, .int .i64 0, .int .i64 0, .slice none 0 0]) 4 48 sp_und hi hz0 hz1 hz2 rfl (by decide) _ _ _ rfl HO.out ⟨wr.heap.size, 0, none⟩ 1 1 [.int .i64 0, .int .i64 p, .int .i64 1, .slice none 0 0] rfl rfl hnk (by intro u hu; simp at hu; rcases hu with rfl | rfl | rfl | rfl <;> rfl) (by unfold maxLen; omega) (by omega) (by omega) ?_; intro v3 W4 hown3 hgrow hnil; obtain ⟨v3a, v3c, rfl⟩ : ∃ a c, v3 = .slice a (i + 1) c := (by rcases hown3.2 with ⟨h, h0⟩ | ⟨g, cap, _, h, _⟩; exact absurd h0 (by omega); exact ⟨_, _, by rw [h, htl]⟩); have x4 := (hgrow.block W3.heap.size (by omega) (fun e => by have := hfr _ e.symm; omega)).trans xA; obtain ⟨⟨s0, s1, s2, s3⟩, _⟩ := four_at x4; have fr4 : ∀ i, W4.frozen? ⟨W3.heap.size, i, none⟩ = false := fun i => by simp only [World.frozen?, x4]; rfl)
        have x5 := heap_setCell_same W4 W3.heap.size 3 _ _ (.slice v3a (i + 1) v3c) x4
        have hne5 : ∀ q, Value.ownBlock (.slice v3a (i + 1) v3c) = some q → q ≠ W3.heap.size := fun q hq => by
          have h9 : OwnL W4 (W3.heap.size + 1) (.slice v3a (i + 1) v3c) (LL.take (i + 1)) := by
            unfold OwnL
            rw [HTK.out, List.length_append, List.flatMap_append]
            exact hown3
          have := h9.from q hq
          omega
        go_roundg (LL.length - i)
        case measure => omega
        case rel =>
          refine ⟨i + 1, _, by go_num, by omega, by omega, ?_, x5, (kA.grown hgrow kA.size (fun k hk => by have := hfr k hk; omega)).setCell (p := ⟨W3.heap.size, 3, none⟩) (Nat.le_refl _) _⟩
          refine OwnL.put ?_ hne5
          unfold OwnL
          rw [HTK.out, List.length_append, List.flatMap_append]
          exact hown3
      · have iex : ¬ (i : Int) < (LL.length : Int) := fun h => hil (Int.ofNat_lt.1 h)
        have hlt : LL.take i = LL := List.take_of_length_le (by omega)
        rw [hlt] at hown
        have e5 := (hbel.block _ (Array.getElem?_eq_some_iff.1 e3).1).trans e3
        have k6 := k4.trans (hbel.mono k4.size)
        obtain ⟨⟨x0, x1, x2, x3⟩, _⟩ := four_at e5
        obtain ⟨⟨u0, u1, u2, u3⟩, _⟩ := four_at hX
        have hE3 := kat_below (kat_below hE2 b3H.out) hbel
        have hE4 := hown.low.whole
        obtain ⟨wa, wc, rfl⟩ : ∃ a c, v = .slice a LL.length c := by
          rcases hown.2 with ⟨h, h0⟩ | ⟨g, cap, _, h, _⟩
          · exact ⟨none, 0, by rw [h, h0]⟩
          · exact ⟨_, _, h⟩
        have HSM := same_any 1 0 1 1 0 1 (lfF LL) (lfF LL) _ _ wr (by rw [lfF_cnt]; exact hL9) hE3 hE4
        rw [decide_eq_true rfl] at HSM
        clear hown hX hbel e5 hE3 hE4 hE2 e3 HS
        go_wp2_with fail
        refine HSM.mono ?_
        rintro e W6 ⟨rfl, b6⟩
        go_wp2_with fail
        go_ret
        exact ⟨rfl, k6.trans (b6.mono k6.size)⟩
  · go_enter Tryd.func6, Tryd.ntmps6
    go_wp2_with fail
    refine HE.mono ?_
    rintro e W1 ⟨vE, rfl, hE, bE⟩
    have k1 := kb.trans (bE.mono kb.size)
    have t1 := (bE.block _ (Array.getElem?_eq_some_iff.1 xb).1).trans xb
    obtain ⟨vEa, vEc, rfl, _⟩ := id hE
    rw [lfF_len] at *
    have kA : Below W1.heap.size W1 (W1.alloc (.cells #[.int .i64 2, .int .i64 0, .int .i64 1, .slice vEa LL.length vEc] 24)) := (Below.refl _ _).alloc (Nat.le_refl _) _
    have e1 := heap_alloc_new W1 (.cells #[.int .i64 2, .int .i64 0, .int .i64 1, .slice vEa LL.length vEc] 24)
    have t2 := (kA.block _ (Array.getElem?_eq_some_iff.1 t1).1).trans t1
    have k2 := k1.trans (kA.mono k1.size)
    obtain ⟨⟨c0, c1, c2, c3⟩, _⟩ := four_at t2
    have HRA := HR _ k2
    clear HE kb xb t1 k1 bE HR
    go_wp2_with fail
    refine HRA.mono ?_
    rintro e W2 ⟨vl, rfl, oL, bR⟩
    have k3 := k2.trans (bR.mono k2.size)
    have e2 := (bR.block _ (Array.getElem?_eq_some_iff.1 e1).1).trans e1
    obtain ⟨⟨x0, x1, x2, x3⟩, _⟩ := four_at e2
    have hE2 := kat_below hE (kA.trans (bR.mono kA.size))
    clear HRA bR k2 kA e1 t2 c0 c1 c2 c3
    go_wp2_with fail
    refine (HPT _ k3).mono ?_
    rintro e W3 ⟨rfl, b3⟩
    have k4 := k3.trans (b3.mono k3.size)
    have e3 := (b3.block _ (Array.getElem?_eq_some_iff.1 e2).1).trans e2
    have hsl := oL.sl.ck (CK.below b3)
    obtain ⟨ai, ci, rfl⟩ := hsl.slice
    have kV : Below W3.heap.size W3 (W3.alloc (.cells #[.int .i64 2, .int .i64 0, .int .i64 1, .slice none 0 0] 24)) := (Below.refl _ _).alloc (Nat.le_refl _) _
    have eV := heap_alloc_new W3 (.cells #[.int .i64 2, .int .i64 0, .int .i64 1, .slice none 0 0] 24)
    have sV : (W3.alloc (.cells #[.int .i64 2, .int .i64 0, .int .i64 1, .slice none 0 0] 24)).heap.size = W3.heap.size + 1 := by rw [World.size_alloc]
    have h0 : OwnL (W3.alloc (.cells #[.int .i64 2, .int .i64 0, .int .i64 1, .slice none 0 0] 24)) (W3.heap.size + 1) (.slice none 0 0) [] := World.ownsRow_nil _ _ _ _
    have HS : Hid (SlI W3 (.slice ai LL.length ci) LL) := hsl
    have b3H : Hid (Below W2.heap.size W2 W3) := b3
    clear oL hsl b3 e2 x0 x1 x2 x3 HPT k3
    go_wp2_with fail
    go_loopg [53] (LL.length + 1) (fun g v53 wr => ∃ (i : Nat) (v : Value), v53 = .int .i64 (i : Int) ∧ i ≤ LL.length ∧ LL.length - i < g ∧ OwnL wr (W3.heap.size + 1) v (LL.take i) ∧ wr.heap[W3.heap.size]? = some (.cells #[.int .i64 2, .int .i64 0, .int .i64 1, v] 24 (0, 0)) ∧ Below W3.heap.size W3 wr)
    case atStart => exact ⟨0, _, rfl, Nat.zero_le _, by omega, h0, eV, kV⟩
    case round =>
      obtain ⟨i, v, rfl, hi', hg, hown, hX, hbel⟩ := hrel
      clear h0 eV kV sV
      by_cases hil : i < LL.length
      · have iin : (i : Int) < (LL.length : Int) := Int.ofNat_lt.2 hil
        obtain ⟨bb, oo, c', hv, hc'⟩ := HS.out.get (by intro h; rw [h] at hil; simp at hil)
        injection hv with q1 q2 q3
        subst q1 q3
        have z0 := hc' i LL[i] (List.getElem?_eq_getElem hil)
        have z1 : wr.cell? ⟨bb, oo + i, none⟩ = some (.int .i64 LL[i]) := by rw [hbel.cell (lt_of_cell z0)]; exact z0
        obtain ⟨p, hp⟩ : ∃ p, LL[i] = p := ⟨_, rfl⟩
        rw [hp] at z1
        have HTK : Hid (LL.take (i + 1) = LL.take i ++ [p]) := by
          show _ = _
          rw [List.take_succ_eq_append_getElem hil, hp]
        have hXl : W3.heap.size < wr.heap.size := (Array.getElem?_eq_some_iff.1 hX).1
        have htl : (LL.take i).length = i := by rw [List.length_take]; omega
        obtain ⟨va, vc, rfl⟩ : ∃ a c, v = .slice a i c := by
          rcases hown.2 with ⟨h, h0⟩ | ⟨g, cap, _, h, _⟩
          · exact ⟨none, 0, by rw [h, ← htl, h0]⟩
          · exact ⟨_, _, by rw [h, htl]⟩
        have HO : Hid (OwnL (wr.alloc (.cells #[.int .i64 0, .int .i64 p, .int .i64 1, .slice none 0 0] 24)) (W3.heap.size + 1) (.slice va i vc) (LL.take i)) := World.ownsRow.alloc hown _
        have kA := hbel.alloc hbel.size (.cells #[.int .i64 0, .int .i64 p, .int .i64 1, .slice none 0 0] 24)
        have xA : (wr.alloc (.cells #[.int .i64 0, .int .i64 p, .int .i64 1, .slice none 0 0] 24)).heap[W3.heap.size]? = _ := (old_at' wr _ _ hXl).trans hX
        have sA : (wr.alloc (.cells #[.int .i64 0, .int .i64 p, .int .i64 1, .slice none 0 0] 24)).heap.size = wr.heap.size + 1 := by rw [World.size_alloc]
        have hnk := cells_of_row (L := [.int .i64 0, .int .i64 p, .int .i64 1, .slice none 0 0]) (heap_alloc_new wr (.cells #[.int .i64 0, .int .i64 p, .int .i64 1, .slice none 0 0] 24))
        have hfr := hown.from
        obtain ⟨⟨u0, u1, u2, u3⟩, _⟩ := four_at hX
        have hii : i ≤ 2000000 := by omega
        clear hown hc' z0 hp hX
        go_wp2_with (at_builtin; refine wpList_append_own _ rfl _ _ 22 rfl (W3.heap.size + 1) 24 i0 (.agg #[.int .i64 0, .int .i64 0, .int .i64 0, .slice none 0 0]) 4 48 sp_und hi hz0 hz1 hz2 rfl (by decide) _ _ _ rfl HO.out ⟨wr.heap.size, 0, none⟩ 1 1 [.int .i64 0, .int .i64 p, .int .i64 1, .slice none 0 0] rfl rfl hnk (by intro u hu; simp at hu; rcases hu with rfl | rfl | rfl | rfl <;> rfl) (by unfold maxLen; omega) (by omega) (by omega) ?_; intro v3 W4 hown3 hgrow hnil; obtain ⟨v3a, v3c, rfl⟩ : ∃ a c, v3 = .slice a (i + 1) c := (by rcases hown3.2 with ⟨h, h0⟩ | ⟨g, cap, _, h, _⟩; exact absurd h0 (by omega); exact ⟨_, _, by rw [h, htl]⟩); have x4 := (hgrow.block W3.heap.size (by omega) (fun e => by have := hfr _ e.symm; omega)).trans xA; obtain ⟨⟨s0, s1, s2, s3⟩, _⟩ := four_at x4; have fr4 : ∀ i, W4.frozen? ⟨W3.heap.size, i, none⟩ = false := fun i => by simp only [World.frozen?, x4]; rfl)
        have x5 := heap_setCell_same W4 W3.heap.size 3 _ _ (.slice v3a (i + 1) v3c) x4
        have hne5 : ∀ q, Value.ownBlock (.slice v3a (i + 1) v3c) = some q → q ≠ W3.heap.size := fun q hq => by
          have h9 : OwnL W4 (W3.heap.size + 1) (.slice v3a (i + 1) v3c) (LL.take (i + 1)) := by
            unfold OwnL
            rw [HTK.out, List.length_append, List.flatMap_append]
            exact hown3
          have := h9.from q hq
          omega
        go_roundg (LL.length - i)
        case measure => omega
        case rel =>
          refine ⟨i + 1, _, by go_num, by omega, by omega, ?_, x5, (kA.grown hgrow kA.size (fun k hk => by have := hfr k hk; omega)).setCell (p := ⟨W3.heap.size, 3, none⟩) (Nat.le_refl _) _⟩
          refine OwnL.put ?_ hne5
          unfold OwnL
          rw [HTK.out, List.length_append, List.flatMap_append]
          exact hown3
      · have iex : ¬ (i : Int) < (LL.length : Int) := fun h => hil (Int.ofNat_lt.1 h)
        have hlt : LL.take i = LL := List.take_of_length_le (by omega)
        rw [hlt] at hown
        have e5 := (hbel.block _ (Array.getElem?_eq_some_iff.1 e3).1).trans e3
        have k6 := k4.trans (hbel.mono k4.size)
        obtain ⟨⟨x0, x1, x2, x3⟩, _⟩ := four_at e5
        obtain ⟨⟨u0, u1, u2, u3⟩, _⟩ := four_at hX
        have hE3 := kat_below (kat_below hE2 b3H.out) hbel
        have hE4 := hown.low.whole
        obtain ⟨wa, wc, rfl⟩ : ∃ a c, v = .slice a LL.length c := by
          rcases hown.2 with ⟨h, h0⟩ | ⟨g, cap, _, h, _⟩
          · exact ⟨none, 0, by rw [h, h0]⟩
          · exact ⟨_, _, h⟩
        have HSM := same_any 2 0 1 2 0 1 (lfF LL) (lfF LL) _ _ wr (by rw [lfF_cnt]; exact hL9) hE3 hE4
        rw [decide_eq_true rfl] at HSM
        clear hown hX hbel e5 hE3 hE4 hE2 e3 HS
        go_wp2_with fail
        refine HSM.mono ?_
        rintro e W6 ⟨rfl, b6⟩
        go_wp2_with fail
        go_ret
        exact ⟨rfl, k6.trans (b6.mono k6.size)⟩
theorem splitEven_any (wy pn sz : Int) (ks : Fo) (kv : Value) (way : Int) (w : World) (b0 b1 b2 : ByteArray) (hB : BrTab w b0 b1 b2) (hb : Br b1 b2) (hk : KAt w kv ks) (hcnt : ks.cnt ≤ 2000000) :
    Calls Tryd.prog 6 #[.agg #[.int .i64 wy, .int .i64 pn, .int .i64 sz, kv], .int .i64 way] w fun e w' => e = .returned (.bool true) ∧ Below w.heap.size w w' := by
  by_cases hc : (chk (cons wy pn sz ks nil)).1 = 0
  · by_cases hw : way = 1 ∨ way = 2
    · by_cases hl : (panesOf wy pn ks).length = 1
      · obtain ⟨p, hp⟩ := List.length_eq_one_iff.1 hl
        exact even_one wy pn sz ks kv way w b0 b1 b2 hB hb hk hcnt hc hw p hp
      · exact even_many wy pn sz ks kv way w b0 b1 b2 hB hb hk hcnt hc hw hl
    · exact even_way wy pn sz ks kv way w b0 b1 b2 hB hb hk hcnt hc hw
  · exact even_bad wy pn sz ks kv way w b0 b1 b2 hB hb hk hcnt hc
end Spl
end Go.Proofs.YtckkbmgdaplaaaaDoor
