/- The law SplitLay. (Written by gen_spllayl.py.) -/
import Derived.Test.YtckkbmgdaplaaaaDoorSplPanes
import Derived.Test.YtckkbmgdaplaaaaDoorSplParted
import Derived.Test.YtckkbmgdaplaaaaDoorSplLayOf
import Derived.Test.YtckkbmgdaplaaaaDoorSplOwn2
import Derived.Test.YtckkbmgdaplaaaaDoorSplRef2
import Derived.Test.YtckkbmgdaplaaaaDoorSplSame
namespace Go.Proofs.YtckkbmgdaplaaaaDoor
open Go.ChangeShapes Go.WideShapes Go.ChangeAt Go.RowKit Go.Maps
namespace Spl
open Fo
theorem chk_list {wy pn sz : Int} {ks : Fo} (h : (chk (cons wy pn sz ks nil)).1 = 0) : (chk (cons wy pn sz ks nil)).2 = if wy = 0 then [pn] else pnF ks := by
  have := (chkF_ok _ _ _ h).1
  unfold chk
  rw [this, pnF_cons]
  simp [pnF]
set_option maxHeartbeats 8000000 in
set_option maxRecDepth 100000 in
theorem lay_bad (wy pn sz : Int) (ks : Fo) (kv : Value) (W H : Int) (w : World) (b0 b1 b2 : ByteArray) (hB : BrTab w b0 b1 b2) (hb : Br b1 b2) (hk : KAt w kv ks) (hcnt : ks.cnt ≤ 2000000) (hc : (chk (cons wy pn sz ks nil)).1 ≠ 0) :
    Calls Tryd.prog 3 #[.agg #[.int .i64 wy, .int .i64 pn, .int .i64 sz, kv], .int .i64 W, .int .i64 H] w fun e w' => e = .returned (.bool true) ∧ Below w.heap.size w w' := by
  have HPT := fun V (hV : Below w.heap.size w V) => parted_any b0 b1 b2 V (hB.below hV) hb
  have HK : Hid (∀ V, Below w.heap.size w V → KAt V kv ks) := fun V hV => kat_below hk hV
  have kb : Below w.heap.size w (w.alloc (.cells #[.int .i64 wy, .int .i64 pn, .int .i64 sz, kv] 24)) := (Below.refl _ _).alloc (Nat.le_refl _) _
  have xb := heap_alloc_new w (.cells #[.int .i64 wy, .int .i64 pn, .int .i64 sz, kv] 24)
  have HR := fun V (hV : Below w.heap.size w V) => checkR_any wy pn sz ks kv V (HK.out V hV) hcnt
  have HO := own_rec (ks.cnt + 1) wy pn sz ks kv _ (Nat.lt_succ_self _) hcnt (HK.out _ kb)
  have HCK := fun V kv' (hV : KAt V kv' ks) => check_any wy pn sz ks kv' V hV hcnt
  have HSM : ∀ V kv', KAt V kv' ks → KAt V kv ks → Calls Tryd.prog 15 #[.agg #[.int .i64 wy, .int .i64 pn, .int .i64 sz, kv'], .agg #[.int .i64 wy, .int .i64 pn, .int .i64 sz, kv]] V fun e w' => e = .returned (.bool true) ∧ Below V.heap.size V w' := fun V kv' hV hV2 => by
    have := same_any wy pn sz wy pn sz ks ks kv' kv V hcnt hV hV2
    rwa [decide_eq_true rfl] at this
  have HL := fun V kv' (hV : KAt V kv' ks) => Least_bad wy pn sz ks kv' V hV hcnt hc
  have HY := fun V kv' (hV : KAt V kv' ks) => Lay_bad wy pn sz ks kv' W H V hV hcnt hc
  obtain ⟨er, her⟩ : ∃ er, (chk (cons wy pn sz ks nil)).1 = er := ⟨_, rfl⟩
  rw [her] at HL HY HR HCK hc
  have ie : (er == 0) = false := beq_eq_false_iff_ne.2 hc
  clear her hk hB hb
  go_enter Tryd.func3, Tryd.ntmps3
  go_wp2_with fail
  refine HO.mono ?_
  rintro e W1 ⟨kvo, rfl, hko, bO⟩
  obtain ⟨oa, oc, rfl, _⟩ := id hko
  have kA : Below W1.heap.size W1 (W1.alloc (.cells #[.int .i64 wy, .int .i64 pn, .int .i64 sz, .slice oa ks.len oc] 24)) := (Below.refl _ _).alloc (Nat.le_refl _) _
  have o0 := heap_alloc_new W1 (.cells #[.int .i64 wy, .int .i64 pn, .int .i64 sz, .slice oa ks.len oc] 24)
  have t0 := (kA.block _ (Array.getElem?_eq_some_iff.1 ((bO.block _ (Array.getElem?_eq_some_iff.1 xb).1).trans xb)).1).trans ((bO.block _ (Array.getElem?_eq_some_iff.1 xb).1).trans xb)
  have k0 := (kb.trans (bO.mono kb.size)).trans (kA.mono (Nat.le_trans kb.size bO.size))
  have ko0 := kat_below hko.whole kA
  clear HO kb xb bO hko kA
  obtain ⟨⟨ct0, ct1, ct2, ct3⟩, _⟩ := four_at t0
  obtain ⟨⟨co0, co1, co2, co3⟩, _⟩ := four_at o0
  go_wp2_with fail
  refine (HL _ _ ko0).mono ?_
  rintro e W2 ⟨rfl, bb⟩
  have k1 := k0.trans (bb.mono k0.size)
  have t1 := (bb.block _ (Array.getElem?_eq_some_iff.1 t0).1).trans t0
  have o1 := (bb.block _ (Array.getElem?_eq_some_iff.1 o0).1).trans o0
  have ko1 := kat_below ko0 bb
  clear bb k0 t0 o0 ko0
  try clear ct0 ct1 ct2 ct3 co0 co1 co2 co3
  obtain ⟨⟨ct0, ct1, ct2, ct3⟩, _⟩ := four_at t1
  obtain ⟨⟨co0, co1, co2, co3⟩, _⟩ := four_at o1
  go_wp2_with fail
  refine (HY _ _ ko1).mono ?_
  rintro e W3 ⟨rfl, bb⟩
  have k2 := k1.trans (bb.mono k1.size)
  have t2 := (bb.block _ (Array.getElem?_eq_some_iff.1 t1).1).trans t1
  have o2 := (bb.block _ (Array.getElem?_eq_some_iff.1 o1).1).trans o1
  have ko2 := kat_below ko1 bb
  clear bb k1 t1 o1 ko1
  try clear ct0 ct1 ct2 ct3 co0 co1 co2 co3
  obtain ⟨⟨ct0, ct1, ct2, ct3⟩, _⟩ := four_at t2
  obtain ⟨⟨co0, co1, co2, co3⟩, _⟩ := four_at o2
  go_wp2_with fail
  refine (HR _ k2).mono ?_
  rintro e W4 ⟨vl, rfl, _, bb⟩
  have k3 := k2.trans (bb.mono k2.size)
  have t3 := (bb.block _ (Array.getElem?_eq_some_iff.1 t2).1).trans t2
  have o3 := (bb.block _ (Array.getElem?_eq_some_iff.1 o2).1).trans o2
  have ko3 := kat_below ko2 bb
  clear bb k2 t2 o2 ko2
  try clear ct0 ct1 ct2 ct3 co0 co1 co2 co3
  obtain ⟨⟨ct0, ct1, ct2, ct3⟩, _⟩ := four_at t3
  obtain ⟨⟨co0, co1, co2, co3⟩, _⟩ := four_at o3
  go_wp2_with fail
  refine (HPT _ k3).mono ?_
  rintro e W5 ⟨rfl, bb⟩
  have k4 := k3.trans (bb.mono k3.size)
  have t4 := (bb.block _ (Array.getElem?_eq_some_iff.1 t3).1).trans t3
  have o4 := (bb.block _ (Array.getElem?_eq_some_iff.1 o3).1).trans o3
  have ko4 := kat_below ko3 bb
  clear bb k3 t3 o3 ko3
  try clear ct0 ct1 ct2 ct3 co0 co1 co2 co3
  obtain ⟨⟨ct0, ct1, ct2, ct3⟩, _⟩ := four_at t4
  obtain ⟨⟨co0, co1, co2, co3⟩, _⟩ := four_at o4
  go_wp2_with fail
  refine (HSM _ _ ko4 (HK.out _ k4)).mono ?_
  rintro e W6 ⟨rfl, bb⟩
  have k5 := k4.trans (bb.mono k4.size)
  have t5 := (bb.block _ (Array.getElem?_eq_some_iff.1 t4).1).trans t4
  have o5 := (bb.block _ (Array.getElem?_eq_some_iff.1 o4).1).trans o4
  have ko5 := kat_below ko4 bb
  clear bb k4 t4 o4 ko4
  try clear ct0 ct1 ct2 ct3 co0 co1 co2 co3
  obtain ⟨⟨ct0, ct1, ct2, ct3⟩, _⟩ := four_at t5
  obtain ⟨⟨co0, co1, co2, co3⟩, _⟩ := four_at o5
  go_wp2_with fail
  refine (HCK _ _ ko5).mono ?_
  rintro e W7 ⟨rfl, bb⟩
  have k6 := k5.trans (bb.mono k5.size)
  have t6 := (bb.block _ (Array.getElem?_eq_some_iff.1 t5).1).trans t5
  have o6 := (bb.block _ (Array.getElem?_eq_some_iff.1 o5).1).trans o5
  have ko6 := kat_below ko5 bb
  clear bb k5 t5 o5 ko5
  try clear ct0 ct1 ct2 ct3 co0 co1 co2 co3
  obtain ⟨⟨ct0, ct1, ct2, ct3⟩, _⟩ := four_at t6
  obtain ⟨⟨co0, co1, co2, co3⟩, _⟩ := four_at o6
  go_wp2_with fail
  go_ret
  exact ⟨rfl, k6⟩
set_option maxHeartbeats 8000000 in
set_option maxRecDepth 100000 in
theorem lay_size1 (wy pn sz : Int) (ks : Fo) (kv : Value) (W H : Int) (w : World) (b0 b1 b2 : ByteArray) (hB : BrTab w b0 b1 b2) (hb : Br b1 b2) (hk : KAt w kv ks) (hcnt : ks.cnt ≤ 2000000) (hc : (chk (cons wy pn sz ks nil)).1 = 0) (i1 : W < ((ls wy ks).1 : Int)) :
    Calls Tryd.prog 3 #[.agg #[.int .i64 wy, .int .i64 pn, .int .i64 sz, kv], .int .i64 W, .int .i64 H] w fun e w' => e = .returned (.bool true) ∧ Below w.heap.size w w' := by
  have HPT := fun V (hV : Below w.heap.size w V) => parted_any b0 b1 b2 V (hB.below hV) hb
  have HK : Hid (∀ V, Below w.heap.size w V → KAt V kv ks) := fun V hV => kat_below hk hV
  have kb : Below w.heap.size w (w.alloc (.cells #[.int .i64 wy, .int .i64 pn, .int .i64 sz, kv] 24)) := (Below.refl _ _).alloc (Nat.le_refl _) _
  have xb := heap_alloc_new w (.cells #[.int .i64 wy, .int .i64 pn, .int .i64 sz, kv] 24)
  have HR := fun V (hV : Below w.heap.size w V) => checkR_any wy pn sz ks kv V (HK.out V hV) hcnt
  have HO := own_rec (ks.cnt + 1) wy pn sz ks kv _ (Nat.lt_succ_self _) hcnt (HK.out _ kb)
  have HCK := fun V kv' (hV : KAt V kv' ks) => check_any wy pn sz ks kv' V hV hcnt
  have HSM : ∀ V kv', KAt V kv' ks → KAt V kv ks → Calls Tryd.prog 15 #[.agg #[.int .i64 wy, .int .i64 pn, .int .i64 sz, kv'], .agg #[.int .i64 wy, .int .i64 pn, .int .i64 sz, kv]] V fun e w' => e = .returned (.bool true) ∧ Below V.heap.size V w' := fun V kv' hV hV2 => by
    have := same_any wy pn sz wy pn sz ks ks kv' kv V hcnt hV hV2
    rwa [decide_eq_true rfl] at this
  have HL := fun V kv' (hV : KAt V kv' ks) => Least_good wy pn sz ks kv' V hV hcnt hc
  have HY := fun V kv' (hV : KAt V kv' ks) => Lay_size wy pn sz ks kv' W H V hV hcnt hc (.inl i1)
  obtain ⟨q1, q2⟩ := chk_ok hc
  have HLO := fun V (hV : Below w.heap.size w V) => leastOf_any wy pn sz ks kv V hcnt q1 q2 (HK.out V hV)
  have HPN := fun V kv' (hV : KAt V kv' ks) => Panes_good wy pn sz ks kv' V hV hcnt hc
  rw [hc] at HCK
  rw [chk_list hc, hc] at HR
  have hLL : (if wy = 0 then [pn] else pnF ks).length ≤ 3000000 := by
    have := pnF_len ks
    split
    · simp
    · omega
  have HEQ := fun V v1 v2 h1 h2 => equalI_any v1 v2 _ V h1 h2 hLL
  generalize (if wy = 0 then [pn] else pnF ks) = LL at *
  generalize ls wy ks = L2 at *
  clear hk hB hb hc q1 q2 hLL
  go_enter Tryd.func3, Tryd.ntmps3
  go_wp2_with fail
  refine HO.mono ?_
  rintro e W1 ⟨kvo, rfl, hko, bO⟩
  obtain ⟨oa, oc, rfl, _⟩ := id hko
  have kA : Below W1.heap.size W1 (W1.alloc (.cells #[.int .i64 wy, .int .i64 pn, .int .i64 sz, .slice oa ks.len oc] 24)) := (Below.refl _ _).alloc (Nat.le_refl _) _
  have o0 := heap_alloc_new W1 (.cells #[.int .i64 wy, .int .i64 pn, .int .i64 sz, .slice oa ks.len oc] 24)
  have t0 := (kA.block _ (Array.getElem?_eq_some_iff.1 ((bO.block _ (Array.getElem?_eq_some_iff.1 xb).1).trans xb)).1).trans ((bO.block _ (Array.getElem?_eq_some_iff.1 xb).1).trans xb)
  have k0 := (kb.trans (bO.mono kb.size)).trans (kA.mono (Nat.le_trans kb.size bO.size))
  have ko0 := kat_below hko.whole kA
  clear HO kb xb bO hko kA
  obtain ⟨⟨ct0, ct1, ct2, ct3⟩, _⟩ := four_at t0
  obtain ⟨⟨co0, co1, co2, co3⟩, _⟩ := four_at o0
  go_wp2_with fail
  refine (HL _ _ ko0).mono ?_
  rintro e W2 ⟨rfl, bb⟩
  have k1 := k0.trans (bb.mono k0.size)
  have t1 := (bb.block _ (Array.getElem?_eq_some_iff.1 t0).1).trans t0
  have o1 := (bb.block _ (Array.getElem?_eq_some_iff.1 o0).1).trans o0
  have ko1 := kat_below ko0 bb
  clear bb k0 t0 o0 ko0
  try clear ct0 ct1 ct2 ct3 co0 co1 co2 co3
  obtain ⟨⟨ct0, ct1, ct2, ct3⟩, _⟩ := four_at t1
  obtain ⟨⟨co0, co1, co2, co3⟩, _⟩ := four_at o1
  go_wp2_with fail
  refine (HY _ _ ko1).mono ?_
  rintro e W3 ⟨rfl, bb⟩
  have k2 := k1.trans (bb.mono k1.size)
  have t2 := (bb.block _ (Array.getElem?_eq_some_iff.1 t1).1).trans t1
  have o2 := (bb.block _ (Array.getElem?_eq_some_iff.1 o1).1).trans o1
  have ko2 := kat_below ko1 bb
  clear bb k1 t1 o1 ko1
  try clear ct0 ct1 ct2 ct3 co0 co1 co2 co3
  obtain ⟨⟨ct0, ct1, ct2, ct3⟩, _⟩ := four_at t2
  obtain ⟨⟨co0, co1, co2, co3⟩, _⟩ := four_at o2
  go_wp2_with fail
  refine (HR _ k2).mono ?_
  rintro e W4 ⟨vl, rfl, oL, bb⟩
  have k3 := k2.trans (bb.mono k2.size)
  have t3 := (bb.block _ (Array.getElem?_eq_some_iff.1 t2).1).trans t2
  have o3 := (bb.block _ (Array.getElem?_eq_some_iff.1 o2).1).trans o2
  have ko3 := kat_below ko2 bb
  have sl3 := oL.sl
  clear bb k2 t2 o2 ko2
  try clear ct0 ct1 ct2 ct3 co0 co1 co2 co3
  obtain ⟨⟨ct0, ct1, ct2, ct3⟩, _⟩ := four_at t3
  obtain ⟨⟨co0, co1, co2, co3⟩, _⟩ := four_at o3
  go_wp2_with fail
  refine (HPT _ k3).mono ?_
  rintro e W5 ⟨rfl, bb⟩
  have k4 := k3.trans (bb.mono k3.size)
  have t4 := (bb.block _ (Array.getElem?_eq_some_iff.1 t3).1).trans t3
  have o4 := (bb.block _ (Array.getElem?_eq_some_iff.1 o3).1).trans o3
  have ko4 := kat_below ko3 bb
  have sl4 := sl3.ck (CK.below bb)
  clear bb k3 t3 o3 ko3 sl3
  try clear ct0 ct1 ct2 ct3 co0 co1 co2 co3
  obtain ⟨⟨ct0, ct1, ct2, ct3⟩, _⟩ := four_at t4
  obtain ⟨⟨co0, co1, co2, co3⟩, _⟩ := four_at o4
  go_wp2_with fail
  refine (HSM _ _ ko4 (HK.out _ k4)).mono ?_
  rintro e W6 ⟨rfl, bb⟩
  have k5 := k4.trans (bb.mono k4.size)
  have t5 := (bb.block _ (Array.getElem?_eq_some_iff.1 t4).1).trans t4
  have o5 := (bb.block _ (Array.getElem?_eq_some_iff.1 o4).1).trans o4
  have ko5 := kat_below ko4 bb
  have sl5 := sl4.ck (CK.below bb)
  clear bb k4 t4 o4 ko4 sl4
  try clear ct0 ct1 ct2 ct3 co0 co1 co2 co3
  obtain ⟨⟨ct0, ct1, ct2, ct3⟩, _⟩ := four_at t5
  obtain ⟨⟨co0, co1, co2, co3⟩, _⟩ := four_at o5
  go_wp2_with fail
  refine (HCK _ _ ko5).mono ?_
  rintro e W7 ⟨rfl, bb⟩
  have k6 := k5.trans (bb.mono k5.size)
  have t6 := (bb.block _ (Array.getElem?_eq_some_iff.1 t5).1).trans t5
  have o6 := (bb.block _ (Array.getElem?_eq_some_iff.1 o5).1).trans o5
  have ko6 := kat_below ko5 bb
  have sl6 := sl5.ck (CK.below bb)
  clear bb k5 t5 o5 ko5 sl5
  try clear ct0 ct1 ct2 ct3 co0 co1 co2 co3
  obtain ⟨⟨ct0, ct1, ct2, ct3⟩, _⟩ := four_at t6
  obtain ⟨⟨co0, co1, co2, co3⟩, _⟩ := four_at o6
  go_wp2_with fail
  refine (HLO _ k6).mono ?_
  rintro e W8 ⟨rfl, bb⟩
  have k7 := k6.trans (bb.mono k6.size)
  have t7 := (bb.block _ (Array.getElem?_eq_some_iff.1 t6).1).trans t6
  have o7 := (bb.block _ (Array.getElem?_eq_some_iff.1 o6).1).trans o6
  have ko7 := kat_below ko6 bb
  have sl7 := sl6.ck (CK.below bb)
  clear bb k6 t6 o6 ko6 sl6
  try clear ct0 ct1 ct2 ct3 co0 co1 co2 co3
  obtain ⟨⟨ct0, ct1, ct2, ct3⟩, _⟩ := four_at t7
  obtain ⟨⟨co0, co1, co2, co3⟩, _⟩ := four_at o7
  go_wp2_with fail
  refine (HPN _ _ ko7).mono ?_
  rintro e W9 ⟨vp, rfl, oP, bb⟩
  have k8 := k7.trans (bb.mono k7.size)
  have t8 := (bb.block _ (Array.getElem?_eq_some_iff.1 t7).1).trans t7
  have o8 := (bb.block _ (Array.getElem?_eq_some_iff.1 o7).1).trans o7
  have ko8 := kat_below ko7 bb
  have sl8 := sl7.ck (CK.below bb)
  have sp8 := oP
  clear bb k7 t7 o7 ko7 sl7
  try clear ct0 ct1 ct2 ct3 co0 co1 co2 co3
  obtain ⟨⟨ct0, ct1, ct2, ct3⟩, _⟩ := four_at t8
  obtain ⟨⟨co0, co1, co2, co3⟩, _⟩ := four_at o8
  go_wp2_with fail
  refine (HEQ _ _ _ sp8 sl8).mono ?_
  rintro e W10 ⟨rfl, bb⟩
  have k9 := k8.trans (bb.mono k8.size)
  have t9 := (bb.block _ (Array.getElem?_eq_some_iff.1 t8).1).trans t8
  have o9 := (bb.block _ (Array.getElem?_eq_some_iff.1 o8).1).trans o8
  have ko9 := kat_below ko8 bb
  have sl9 := sl8.ck (CK.below bb)
  have sp9 := sp8.ck (CK.below bb)
  clear bb k8 t8 o8 ko8 sl8 sp8
  try clear ct0 ct1 ct2 ct3 co0 co1 co2 co3
  obtain ⟨⟨ct0, ct1, ct2, ct3⟩, _⟩ := four_at t9
  obtain ⟨⟨co0, co1, co2, co3⟩, _⟩ := four_at o9
  go_wp2_with fail
  go_ret
  exact ⟨rfl, k9⟩
set_option maxHeartbeats 8000000 in
set_option maxRecDepth 100000 in
theorem lay_size2 (wy pn sz : Int) (ks : Fo) (kv : Value) (W H : Int) (w : World) (b0 b1 b2 : ByteArray) (hB : BrTab w b0 b1 b2) (hb : Br b1 b2) (hk : KAt w kv ks) (hcnt : ks.cnt ≤ 2000000) (hc : (chk (cons wy pn sz ks nil)).1 = 0) (i1 : ¬ W < ((ls wy ks).1 : Int)) (i2 : H < ((ls wy ks).2 : Int)) :
    Calls Tryd.prog 3 #[.agg #[.int .i64 wy, .int .i64 pn, .int .i64 sz, kv], .int .i64 W, .int .i64 H] w fun e w' => e = .returned (.bool true) ∧ Below w.heap.size w w' := by
  have HPT := fun V (hV : Below w.heap.size w V) => parted_any b0 b1 b2 V (hB.below hV) hb
  have HK : Hid (∀ V, Below w.heap.size w V → KAt V kv ks) := fun V hV => kat_below hk hV
  have kb : Below w.heap.size w (w.alloc (.cells #[.int .i64 wy, .int .i64 pn, .int .i64 sz, kv] 24)) := (Below.refl _ _).alloc (Nat.le_refl _) _
  have xb := heap_alloc_new w (.cells #[.int .i64 wy, .int .i64 pn, .int .i64 sz, kv] 24)
  have HR := fun V (hV : Below w.heap.size w V) => checkR_any wy pn sz ks kv V (HK.out V hV) hcnt
  have HO := own_rec (ks.cnt + 1) wy pn sz ks kv _ (Nat.lt_succ_self _) hcnt (HK.out _ kb)
  have HCK := fun V kv' (hV : KAt V kv' ks) => check_any wy pn sz ks kv' V hV hcnt
  have HSM : ∀ V kv', KAt V kv' ks → KAt V kv ks → Calls Tryd.prog 15 #[.agg #[.int .i64 wy, .int .i64 pn, .int .i64 sz, kv'], .agg #[.int .i64 wy, .int .i64 pn, .int .i64 sz, kv]] V fun e w' => e = .returned (.bool true) ∧ Below V.heap.size V w' := fun V kv' hV hV2 => by
    have := same_any wy pn sz wy pn sz ks ks kv' kv V hcnt hV hV2
    rwa [decide_eq_true rfl] at this
  have HL := fun V kv' (hV : KAt V kv' ks) => Least_good wy pn sz ks kv' V hV hcnt hc
  have HY := fun V kv' (hV : KAt V kv' ks) => Lay_size wy pn sz ks kv' W H V hV hcnt hc (.inr (.inr (.inl i2)))
  obtain ⟨q1, q2⟩ := chk_ok hc
  have HLO := fun V (hV : Below w.heap.size w V) => leastOf_any wy pn sz ks kv V hcnt q1 q2 (HK.out V hV)
  have HPN := fun V kv' (hV : KAt V kv' ks) => Panes_good wy pn sz ks kv' V hV hcnt hc
  rw [hc] at HCK
  rw [chk_list hc, hc] at HR
  have hLL : (if wy = 0 then [pn] else pnF ks).length ≤ 3000000 := by
    have := pnF_len ks
    split
    · simp
    · omega
  have HEQ := fun V v1 v2 h1 h2 => equalI_any v1 v2 _ V h1 h2 hLL
  generalize (if wy = 0 then [pn] else pnF ks) = LL at *
  generalize ls wy ks = L2 at *
  clear hk hB hb hc q1 q2 hLL
  go_enter Tryd.func3, Tryd.ntmps3
  go_wp2_with fail
  refine HO.mono ?_
  rintro e W1 ⟨kvo, rfl, hko, bO⟩
  obtain ⟨oa, oc, rfl, _⟩ := id hko
  have kA : Below W1.heap.size W1 (W1.alloc (.cells #[.int .i64 wy, .int .i64 pn, .int .i64 sz, .slice oa ks.len oc] 24)) := (Below.refl _ _).alloc (Nat.le_refl _) _
  have o0 := heap_alloc_new W1 (.cells #[.int .i64 wy, .int .i64 pn, .int .i64 sz, .slice oa ks.len oc] 24)
  have t0 := (kA.block _ (Array.getElem?_eq_some_iff.1 ((bO.block _ (Array.getElem?_eq_some_iff.1 xb).1).trans xb)).1).trans ((bO.block _ (Array.getElem?_eq_some_iff.1 xb).1).trans xb)
  have k0 := (kb.trans (bO.mono kb.size)).trans (kA.mono (Nat.le_trans kb.size bO.size))
  have ko0 := kat_below hko.whole kA
  clear HO kb xb bO hko kA
  obtain ⟨⟨ct0, ct1, ct2, ct3⟩, _⟩ := four_at t0
  obtain ⟨⟨co0, co1, co2, co3⟩, _⟩ := four_at o0
  go_wp2_with fail
  refine (HL _ _ ko0).mono ?_
  rintro e W2 ⟨rfl, bb⟩
  have k1 := k0.trans (bb.mono k0.size)
  have t1 := (bb.block _ (Array.getElem?_eq_some_iff.1 t0).1).trans t0
  have o1 := (bb.block _ (Array.getElem?_eq_some_iff.1 o0).1).trans o0
  have ko1 := kat_below ko0 bb
  clear bb k0 t0 o0 ko0
  try clear ct0 ct1 ct2 ct3 co0 co1 co2 co3
  obtain ⟨⟨ct0, ct1, ct2, ct3⟩, _⟩ := four_at t1
  obtain ⟨⟨co0, co1, co2, co3⟩, _⟩ := four_at o1
  go_wp2_with fail
  refine (HY _ _ ko1).mono ?_
  rintro e W3 ⟨rfl, bb⟩
  have k2 := k1.trans (bb.mono k1.size)
  have t2 := (bb.block _ (Array.getElem?_eq_some_iff.1 t1).1).trans t1
  have o2 := (bb.block _ (Array.getElem?_eq_some_iff.1 o1).1).trans o1
  have ko2 := kat_below ko1 bb
  clear bb k1 t1 o1 ko1
  try clear ct0 ct1 ct2 ct3 co0 co1 co2 co3
  obtain ⟨⟨ct0, ct1, ct2, ct3⟩, _⟩ := four_at t2
  obtain ⟨⟨co0, co1, co2, co3⟩, _⟩ := four_at o2
  go_wp2_with fail
  refine (HR _ k2).mono ?_
  rintro e W4 ⟨vl, rfl, oL, bb⟩
  have k3 := k2.trans (bb.mono k2.size)
  have t3 := (bb.block _ (Array.getElem?_eq_some_iff.1 t2).1).trans t2
  have o3 := (bb.block _ (Array.getElem?_eq_some_iff.1 o2).1).trans o2
  have ko3 := kat_below ko2 bb
  have sl3 := oL.sl
  clear bb k2 t2 o2 ko2
  try clear ct0 ct1 ct2 ct3 co0 co1 co2 co3
  obtain ⟨⟨ct0, ct1, ct2, ct3⟩, _⟩ := four_at t3
  obtain ⟨⟨co0, co1, co2, co3⟩, _⟩ := four_at o3
  go_wp2_with fail
  refine (HPT _ k3).mono ?_
  rintro e W5 ⟨rfl, bb⟩
  have k4 := k3.trans (bb.mono k3.size)
  have t4 := (bb.block _ (Array.getElem?_eq_some_iff.1 t3).1).trans t3
  have o4 := (bb.block _ (Array.getElem?_eq_some_iff.1 o3).1).trans o3
  have ko4 := kat_below ko3 bb
  have sl4 := sl3.ck (CK.below bb)
  clear bb k3 t3 o3 ko3 sl3
  try clear ct0 ct1 ct2 ct3 co0 co1 co2 co3
  obtain ⟨⟨ct0, ct1, ct2, ct3⟩, _⟩ := four_at t4
  obtain ⟨⟨co0, co1, co2, co3⟩, _⟩ := four_at o4
  go_wp2_with fail
  refine (HSM _ _ ko4 (HK.out _ k4)).mono ?_
  rintro e W6 ⟨rfl, bb⟩
  have k5 := k4.trans (bb.mono k4.size)
  have t5 := (bb.block _ (Array.getElem?_eq_some_iff.1 t4).1).trans t4
  have o5 := (bb.block _ (Array.getElem?_eq_some_iff.1 o4).1).trans o4
  have ko5 := kat_below ko4 bb
  have sl5 := sl4.ck (CK.below bb)
  clear bb k4 t4 o4 ko4 sl4
  try clear ct0 ct1 ct2 ct3 co0 co1 co2 co3
  obtain ⟨⟨ct0, ct1, ct2, ct3⟩, _⟩ := four_at t5
  obtain ⟨⟨co0, co1, co2, co3⟩, _⟩ := four_at o5
  go_wp2_with fail
  refine (HCK _ _ ko5).mono ?_
  rintro e W7 ⟨rfl, bb⟩
  have k6 := k5.trans (bb.mono k5.size)
  have t6 := (bb.block _ (Array.getElem?_eq_some_iff.1 t5).1).trans t5
  have o6 := (bb.block _ (Array.getElem?_eq_some_iff.1 o5).1).trans o5
  have ko6 := kat_below ko5 bb
  have sl6 := sl5.ck (CK.below bb)
  clear bb k5 t5 o5 ko5 sl5
  try clear ct0 ct1 ct2 ct3 co0 co1 co2 co3
  obtain ⟨⟨ct0, ct1, ct2, ct3⟩, _⟩ := four_at t6
  obtain ⟨⟨co0, co1, co2, co3⟩, _⟩ := four_at o6
  go_wp2_with fail
  refine (HLO _ k6).mono ?_
  rintro e W8 ⟨rfl, bb⟩
  have k7 := k6.trans (bb.mono k6.size)
  have t7 := (bb.block _ (Array.getElem?_eq_some_iff.1 t6).1).trans t6
  have o7 := (bb.block _ (Array.getElem?_eq_some_iff.1 o6).1).trans o6
  have ko7 := kat_below ko6 bb
  have sl7 := sl6.ck (CK.below bb)
  clear bb k6 t6 o6 ko6 sl6
  try clear ct0 ct1 ct2 ct3 co0 co1 co2 co3
  obtain ⟨⟨ct0, ct1, ct2, ct3⟩, _⟩ := four_at t7
  obtain ⟨⟨co0, co1, co2, co3⟩, _⟩ := four_at o7
  go_wp2_with fail
  refine (HPN _ _ ko7).mono ?_
  rintro e W9 ⟨vp, rfl, oP, bb⟩
  have k8 := k7.trans (bb.mono k7.size)
  have t8 := (bb.block _ (Array.getElem?_eq_some_iff.1 t7).1).trans t7
  have o8 := (bb.block _ (Array.getElem?_eq_some_iff.1 o7).1).trans o7
  have ko8 := kat_below ko7 bb
  have sl8 := sl7.ck (CK.below bb)
  have sp8 := oP
  clear bb k7 t7 o7 ko7 sl7
  try clear ct0 ct1 ct2 ct3 co0 co1 co2 co3
  obtain ⟨⟨ct0, ct1, ct2, ct3⟩, _⟩ := four_at t8
  obtain ⟨⟨co0, co1, co2, co3⟩, _⟩ := four_at o8
  go_wp2_with fail
  refine (HEQ _ _ _ sp8 sl8).mono ?_
  rintro e W10 ⟨rfl, bb⟩
  have k9 := k8.trans (bb.mono k8.size)
  have t9 := (bb.block _ (Array.getElem?_eq_some_iff.1 t8).1).trans t8
  have o9 := (bb.block _ (Array.getElem?_eq_some_iff.1 o8).1).trans o8
  have ko9 := kat_below ko8 bb
  have sl9 := sl8.ck (CK.below bb)
  have sp9 := sp8.ck (CK.below bb)
  clear bb k8 t8 o8 ko8 sl8 sp8
  try clear ct0 ct1 ct2 ct3 co0 co1 co2 co3
  obtain ⟨⟨ct0, ct1, ct2, ct3⟩, _⟩ := four_at t9
  obtain ⟨⟨co0, co1, co2, co3⟩, _⟩ := four_at o9
  go_wp2_with fail
  go_ret
  exact ⟨rfl, k9⟩
set_option maxHeartbeats 8000000 in
set_option maxRecDepth 100000 in
theorem lay_size3 (wy pn sz : Int) (ks : Fo) (kv : Value) (W H : Int) (w : World) (b0 b1 b2 : ByteArray) (hB : BrTab w b0 b1 b2) (hb : Br b1 b2) (hk : KAt w kv ks) (hcnt : ks.cnt ≤ 2000000) (hc : (chk (cons wy pn sz ks nil)).1 = 0) (i1 : ¬ W < ((ls wy ks).1 : Int)) (i2 : ¬ H < ((ls wy ks).2 : Int)) (i3 : 120 < W) :
    Calls Tryd.prog 3 #[.agg #[.int .i64 wy, .int .i64 pn, .int .i64 sz, kv], .int .i64 W, .int .i64 H] w fun e w' => e = .returned (.bool true) ∧ Below w.heap.size w w' := by
  have HPT := fun V (hV : Below w.heap.size w V) => parted_any b0 b1 b2 V (hB.below hV) hb
  have HK : Hid (∀ V, Below w.heap.size w V → KAt V kv ks) := fun V hV => kat_below hk hV
  have kb : Below w.heap.size w (w.alloc (.cells #[.int .i64 wy, .int .i64 pn, .int .i64 sz, kv] 24)) := (Below.refl _ _).alloc (Nat.le_refl _) _
  have xb := heap_alloc_new w (.cells #[.int .i64 wy, .int .i64 pn, .int .i64 sz, kv] 24)
  have HR := fun V (hV : Below w.heap.size w V) => checkR_any wy pn sz ks kv V (HK.out V hV) hcnt
  have HO := own_rec (ks.cnt + 1) wy pn sz ks kv _ (Nat.lt_succ_self _) hcnt (HK.out _ kb)
  have HCK := fun V kv' (hV : KAt V kv' ks) => check_any wy pn sz ks kv' V hV hcnt
  have HSM : ∀ V kv', KAt V kv' ks → KAt V kv ks → Calls Tryd.prog 15 #[.agg #[.int .i64 wy, .int .i64 pn, .int .i64 sz, kv'], .agg #[.int .i64 wy, .int .i64 pn, .int .i64 sz, kv]] V fun e w' => e = .returned (.bool true) ∧ Below V.heap.size V w' := fun V kv' hV hV2 => by
    have := same_any wy pn sz wy pn sz ks ks kv' kv V hcnt hV hV2
    rwa [decide_eq_true rfl] at this
  have HL := fun V kv' (hV : KAt V kv' ks) => Least_good wy pn sz ks kv' V hV hcnt hc
  have HY := fun V kv' (hV : KAt V kv' ks) => Lay_size wy pn sz ks kv' W H V hV hcnt hc (.inr (.inl i3))
  obtain ⟨q1, q2⟩ := chk_ok hc
  have HLO := fun V (hV : Below w.heap.size w V) => leastOf_any wy pn sz ks kv V hcnt q1 q2 (HK.out V hV)
  have HPN := fun V kv' (hV : KAt V kv' ks) => Panes_good wy pn sz ks kv' V hV hcnt hc
  rw [hc] at HCK
  rw [chk_list hc, hc] at HR
  have hLL : (if wy = 0 then [pn] else pnF ks).length ≤ 3000000 := by
    have := pnF_len ks
    split
    · simp
    · omega
  have HEQ := fun V v1 v2 h1 h2 => equalI_any v1 v2 _ V h1 h2 hLL
  generalize (if wy = 0 then [pn] else pnF ks) = LL at *
  generalize ls wy ks = L2 at *
  clear hk hB hb hc q1 q2 hLL
  go_enter Tryd.func3, Tryd.ntmps3
  go_wp2_with fail
  refine HO.mono ?_
  rintro e W1 ⟨kvo, rfl, hko, bO⟩
  obtain ⟨oa, oc, rfl, _⟩ := id hko
  have kA : Below W1.heap.size W1 (W1.alloc (.cells #[.int .i64 wy, .int .i64 pn, .int .i64 sz, .slice oa ks.len oc] 24)) := (Below.refl _ _).alloc (Nat.le_refl _) _
  have o0 := heap_alloc_new W1 (.cells #[.int .i64 wy, .int .i64 pn, .int .i64 sz, .slice oa ks.len oc] 24)
  have t0 := (kA.block _ (Array.getElem?_eq_some_iff.1 ((bO.block _ (Array.getElem?_eq_some_iff.1 xb).1).trans xb)).1).trans ((bO.block _ (Array.getElem?_eq_some_iff.1 xb).1).trans xb)
  have k0 := (kb.trans (bO.mono kb.size)).trans (kA.mono (Nat.le_trans kb.size bO.size))
  have ko0 := kat_below hko.whole kA
  clear HO kb xb bO hko kA
  obtain ⟨⟨ct0, ct1, ct2, ct3⟩, _⟩ := four_at t0
  obtain ⟨⟨co0, co1, co2, co3⟩, _⟩ := four_at o0
  go_wp2_with fail
  refine (HL _ _ ko0).mono ?_
  rintro e W2 ⟨rfl, bb⟩
  have k1 := k0.trans (bb.mono k0.size)
  have t1 := (bb.block _ (Array.getElem?_eq_some_iff.1 t0).1).trans t0
  have o1 := (bb.block _ (Array.getElem?_eq_some_iff.1 o0).1).trans o0
  have ko1 := kat_below ko0 bb
  clear bb k0 t0 o0 ko0
  try clear ct0 ct1 ct2 ct3 co0 co1 co2 co3
  obtain ⟨⟨ct0, ct1, ct2, ct3⟩, _⟩ := four_at t1
  obtain ⟨⟨co0, co1, co2, co3⟩, _⟩ := four_at o1
  go_wp2_with fail
  refine (HY _ _ ko1).mono ?_
  rintro e W3 ⟨rfl, bb⟩
  have k2 := k1.trans (bb.mono k1.size)
  have t2 := (bb.block _ (Array.getElem?_eq_some_iff.1 t1).1).trans t1
  have o2 := (bb.block _ (Array.getElem?_eq_some_iff.1 o1).1).trans o1
  have ko2 := kat_below ko1 bb
  clear bb k1 t1 o1 ko1
  try clear ct0 ct1 ct2 ct3 co0 co1 co2 co3
  obtain ⟨⟨ct0, ct1, ct2, ct3⟩, _⟩ := four_at t2
  obtain ⟨⟨co0, co1, co2, co3⟩, _⟩ := four_at o2
  go_wp2_with fail
  refine (HR _ k2).mono ?_
  rintro e W4 ⟨vl, rfl, oL, bb⟩
  have k3 := k2.trans (bb.mono k2.size)
  have t3 := (bb.block _ (Array.getElem?_eq_some_iff.1 t2).1).trans t2
  have o3 := (bb.block _ (Array.getElem?_eq_some_iff.1 o2).1).trans o2
  have ko3 := kat_below ko2 bb
  have sl3 := oL.sl
  clear bb k2 t2 o2 ko2
  try clear ct0 ct1 ct2 ct3 co0 co1 co2 co3
  obtain ⟨⟨ct0, ct1, ct2, ct3⟩, _⟩ := four_at t3
  obtain ⟨⟨co0, co1, co2, co3⟩, _⟩ := four_at o3
  go_wp2_with fail
  refine (HPT _ k3).mono ?_
  rintro e W5 ⟨rfl, bb⟩
  have k4 := k3.trans (bb.mono k3.size)
  have t4 := (bb.block _ (Array.getElem?_eq_some_iff.1 t3).1).trans t3
  have o4 := (bb.block _ (Array.getElem?_eq_some_iff.1 o3).1).trans o3
  have ko4 := kat_below ko3 bb
  have sl4 := sl3.ck (CK.below bb)
  clear bb k3 t3 o3 ko3 sl3
  try clear ct0 ct1 ct2 ct3 co0 co1 co2 co3
  obtain ⟨⟨ct0, ct1, ct2, ct3⟩, _⟩ := four_at t4
  obtain ⟨⟨co0, co1, co2, co3⟩, _⟩ := four_at o4
  go_wp2_with fail
  refine (HSM _ _ ko4 (HK.out _ k4)).mono ?_
  rintro e W6 ⟨rfl, bb⟩
  have k5 := k4.trans (bb.mono k4.size)
  have t5 := (bb.block _ (Array.getElem?_eq_some_iff.1 t4).1).trans t4
  have o5 := (bb.block _ (Array.getElem?_eq_some_iff.1 o4).1).trans o4
  have ko5 := kat_below ko4 bb
  have sl5 := sl4.ck (CK.below bb)
  clear bb k4 t4 o4 ko4 sl4
  try clear ct0 ct1 ct2 ct3 co0 co1 co2 co3
  obtain ⟨⟨ct0, ct1, ct2, ct3⟩, _⟩ := four_at t5
  obtain ⟨⟨co0, co1, co2, co3⟩, _⟩ := four_at o5
  go_wp2_with fail
  refine (HCK _ _ ko5).mono ?_
  rintro e W7 ⟨rfl, bb⟩
  have k6 := k5.trans (bb.mono k5.size)
  have t6 := (bb.block _ (Array.getElem?_eq_some_iff.1 t5).1).trans t5
  have o6 := (bb.block _ (Array.getElem?_eq_some_iff.1 o5).1).trans o5
  have ko6 := kat_below ko5 bb
  have sl6 := sl5.ck (CK.below bb)
  clear bb k5 t5 o5 ko5 sl5
  try clear ct0 ct1 ct2 ct3 co0 co1 co2 co3
  obtain ⟨⟨ct0, ct1, ct2, ct3⟩, _⟩ := four_at t6
  obtain ⟨⟨co0, co1, co2, co3⟩, _⟩ := four_at o6
  go_wp2_with fail
  refine (HLO _ k6).mono ?_
  rintro e W8 ⟨rfl, bb⟩
  have k7 := k6.trans (bb.mono k6.size)
  have t7 := (bb.block _ (Array.getElem?_eq_some_iff.1 t6).1).trans t6
  have o7 := (bb.block _ (Array.getElem?_eq_some_iff.1 o6).1).trans o6
  have ko7 := kat_below ko6 bb
  have sl7 := sl6.ck (CK.below bb)
  clear bb k6 t6 o6 ko6 sl6
  try clear ct0 ct1 ct2 ct3 co0 co1 co2 co3
  obtain ⟨⟨ct0, ct1, ct2, ct3⟩, _⟩ := four_at t7
  obtain ⟨⟨co0, co1, co2, co3⟩, _⟩ := four_at o7
  go_wp2_with fail
  refine (HPN _ _ ko7).mono ?_
  rintro e W9 ⟨vp, rfl, oP, bb⟩
  have k8 := k7.trans (bb.mono k7.size)
  have t8 := (bb.block _ (Array.getElem?_eq_some_iff.1 t7).1).trans t7
  have o8 := (bb.block _ (Array.getElem?_eq_some_iff.1 o7).1).trans o7
  have ko8 := kat_below ko7 bb
  have sl8 := sl7.ck (CK.below bb)
  have sp8 := oP
  clear bb k7 t7 o7 ko7 sl7
  try clear ct0 ct1 ct2 ct3 co0 co1 co2 co3
  obtain ⟨⟨ct0, ct1, ct2, ct3⟩, _⟩ := four_at t8
  obtain ⟨⟨co0, co1, co2, co3⟩, _⟩ := four_at o8
  go_wp2_with fail
  refine (HEQ _ _ _ sp8 sl8).mono ?_
  rintro e W10 ⟨rfl, bb⟩
  have k9 := k8.trans (bb.mono k8.size)
  have t9 := (bb.block _ (Array.getElem?_eq_some_iff.1 t8).1).trans t8
  have o9 := (bb.block _ (Array.getElem?_eq_some_iff.1 o8).1).trans o8
  have ko9 := kat_below ko8 bb
  have sl9 := sl8.ck (CK.below bb)
  have sp9 := sp8.ck (CK.below bb)
  clear bb k8 t8 o8 ko8 sl8 sp8
  try clear ct0 ct1 ct2 ct3 co0 co1 co2 co3
  obtain ⟨⟨ct0, ct1, ct2, ct3⟩, _⟩ := four_at t9
  obtain ⟨⟨co0, co1, co2, co3⟩, _⟩ := four_at o9
  go_wp2_with fail
  go_ret
  exact ⟨rfl, k9⟩
set_option maxHeartbeats 8000000 in
set_option maxRecDepth 100000 in
theorem lay_size4 (wy pn sz : Int) (ks : Fo) (kv : Value) (W H : Int) (w : World) (b0 b1 b2 : ByteArray) (hB : BrTab w b0 b1 b2) (hb : Br b1 b2) (hk : KAt w kv ks) (hcnt : ks.cnt ≤ 2000000) (hc : (chk (cons wy pn sz ks nil)).1 = 0) (i1 : ¬ W < ((ls wy ks).1 : Int)) (i2 : ¬ H < ((ls wy ks).2 : Int)) (i3 : ¬ 120 < W) (i4 : 60 < H) :
    Calls Tryd.prog 3 #[.agg #[.int .i64 wy, .int .i64 pn, .int .i64 sz, kv], .int .i64 W, .int .i64 H] w fun e w' => e = .returned (.bool true) ∧ Below w.heap.size w w' := by
  have HPT := fun V (hV : Below w.heap.size w V) => parted_any b0 b1 b2 V (hB.below hV) hb
  have HK : Hid (∀ V, Below w.heap.size w V → KAt V kv ks) := fun V hV => kat_below hk hV
  have kb : Below w.heap.size w (w.alloc (.cells #[.int .i64 wy, .int .i64 pn, .int .i64 sz, kv] 24)) := (Below.refl _ _).alloc (Nat.le_refl _) _
  have xb := heap_alloc_new w (.cells #[.int .i64 wy, .int .i64 pn, .int .i64 sz, kv] 24)
  have HR := fun V (hV : Below w.heap.size w V) => checkR_any wy pn sz ks kv V (HK.out V hV) hcnt
  have HO := own_rec (ks.cnt + 1) wy pn sz ks kv _ (Nat.lt_succ_self _) hcnt (HK.out _ kb)
  have HCK := fun V kv' (hV : KAt V kv' ks) => check_any wy pn sz ks kv' V hV hcnt
  have HSM : ∀ V kv', KAt V kv' ks → KAt V kv ks → Calls Tryd.prog 15 #[.agg #[.int .i64 wy, .int .i64 pn, .int .i64 sz, kv'], .agg #[.int .i64 wy, .int .i64 pn, .int .i64 sz, kv]] V fun e w' => e = .returned (.bool true) ∧ Below V.heap.size V w' := fun V kv' hV hV2 => by
    have := same_any wy pn sz wy pn sz ks ks kv' kv V hcnt hV hV2
    rwa [decide_eq_true rfl] at this
  have HL := fun V kv' (hV : KAt V kv' ks) => Least_good wy pn sz ks kv' V hV hcnt hc
  have HY := fun V kv' (hV : KAt V kv' ks) => Lay_size wy pn sz ks kv' W H V hV hcnt hc (.inr (.inr (.inr i4)))
  obtain ⟨q1, q2⟩ := chk_ok hc
  have HLO := fun V (hV : Below w.heap.size w V) => leastOf_any wy pn sz ks kv V hcnt q1 q2 (HK.out V hV)
  have HPN := fun V kv' (hV : KAt V kv' ks) => Panes_good wy pn sz ks kv' V hV hcnt hc
  rw [hc] at HCK
  rw [chk_list hc, hc] at HR
  have hLL : (if wy = 0 then [pn] else pnF ks).length ≤ 3000000 := by
    have := pnF_len ks
    split
    · simp
    · omega
  have HEQ := fun V v1 v2 h1 h2 => equalI_any v1 v2 _ V h1 h2 hLL
  generalize (if wy = 0 then [pn] else pnF ks) = LL at *
  generalize ls wy ks = L2 at *
  clear hk hB hb hc q1 q2 hLL
  go_enter Tryd.func3, Tryd.ntmps3
  go_wp2_with fail
  refine HO.mono ?_
  rintro e W1 ⟨kvo, rfl, hko, bO⟩
  obtain ⟨oa, oc, rfl, _⟩ := id hko
  have kA : Below W1.heap.size W1 (W1.alloc (.cells #[.int .i64 wy, .int .i64 pn, .int .i64 sz, .slice oa ks.len oc] 24)) := (Below.refl _ _).alloc (Nat.le_refl _) _
  have o0 := heap_alloc_new W1 (.cells #[.int .i64 wy, .int .i64 pn, .int .i64 sz, .slice oa ks.len oc] 24)
  have t0 := (kA.block _ (Array.getElem?_eq_some_iff.1 ((bO.block _ (Array.getElem?_eq_some_iff.1 xb).1).trans xb)).1).trans ((bO.block _ (Array.getElem?_eq_some_iff.1 xb).1).trans xb)
  have k0 := (kb.trans (bO.mono kb.size)).trans (kA.mono (Nat.le_trans kb.size bO.size))
  have ko0 := kat_below hko.whole kA
  clear HO kb xb bO hko kA
  obtain ⟨⟨ct0, ct1, ct2, ct3⟩, _⟩ := four_at t0
  obtain ⟨⟨co0, co1, co2, co3⟩, _⟩ := four_at o0
  go_wp2_with fail
  refine (HL _ _ ko0).mono ?_
  rintro e W2 ⟨rfl, bb⟩
  have k1 := k0.trans (bb.mono k0.size)
  have t1 := (bb.block _ (Array.getElem?_eq_some_iff.1 t0).1).trans t0
  have o1 := (bb.block _ (Array.getElem?_eq_some_iff.1 o0).1).trans o0
  have ko1 := kat_below ko0 bb
  clear bb k0 t0 o0 ko0
  try clear ct0 ct1 ct2 ct3 co0 co1 co2 co3
  obtain ⟨⟨ct0, ct1, ct2, ct3⟩, _⟩ := four_at t1
  obtain ⟨⟨co0, co1, co2, co3⟩, _⟩ := four_at o1
  go_wp2_with fail
  refine (HY _ _ ko1).mono ?_
  rintro e W3 ⟨rfl, bb⟩
  have k2 := k1.trans (bb.mono k1.size)
  have t2 := (bb.block _ (Array.getElem?_eq_some_iff.1 t1).1).trans t1
  have o2 := (bb.block _ (Array.getElem?_eq_some_iff.1 o1).1).trans o1
  have ko2 := kat_below ko1 bb
  clear bb k1 t1 o1 ko1
  try clear ct0 ct1 ct2 ct3 co0 co1 co2 co3
  obtain ⟨⟨ct0, ct1, ct2, ct3⟩, _⟩ := four_at t2
  obtain ⟨⟨co0, co1, co2, co3⟩, _⟩ := four_at o2
  go_wp2_with fail
  refine (HR _ k2).mono ?_
  rintro e W4 ⟨vl, rfl, oL, bb⟩
  have k3 := k2.trans (bb.mono k2.size)
  have t3 := (bb.block _ (Array.getElem?_eq_some_iff.1 t2).1).trans t2
  have o3 := (bb.block _ (Array.getElem?_eq_some_iff.1 o2).1).trans o2
  have ko3 := kat_below ko2 bb
  have sl3 := oL.sl
  clear bb k2 t2 o2 ko2
  try clear ct0 ct1 ct2 ct3 co0 co1 co2 co3
  obtain ⟨⟨ct0, ct1, ct2, ct3⟩, _⟩ := four_at t3
  obtain ⟨⟨co0, co1, co2, co3⟩, _⟩ := four_at o3
  go_wp2_with fail
  refine (HPT _ k3).mono ?_
  rintro e W5 ⟨rfl, bb⟩
  have k4 := k3.trans (bb.mono k3.size)
  have t4 := (bb.block _ (Array.getElem?_eq_some_iff.1 t3).1).trans t3
  have o4 := (bb.block _ (Array.getElem?_eq_some_iff.1 o3).1).trans o3
  have ko4 := kat_below ko3 bb
  have sl4 := sl3.ck (CK.below bb)
  clear bb k3 t3 o3 ko3 sl3
  try clear ct0 ct1 ct2 ct3 co0 co1 co2 co3
  obtain ⟨⟨ct0, ct1, ct2, ct3⟩, _⟩ := four_at t4
  obtain ⟨⟨co0, co1, co2, co3⟩, _⟩ := four_at o4
  go_wp2_with fail
  refine (HSM _ _ ko4 (HK.out _ k4)).mono ?_
  rintro e W6 ⟨rfl, bb⟩
  have k5 := k4.trans (bb.mono k4.size)
  have t5 := (bb.block _ (Array.getElem?_eq_some_iff.1 t4).1).trans t4
  have o5 := (bb.block _ (Array.getElem?_eq_some_iff.1 o4).1).trans o4
  have ko5 := kat_below ko4 bb
  have sl5 := sl4.ck (CK.below bb)
  clear bb k4 t4 o4 ko4 sl4
  try clear ct0 ct1 ct2 ct3 co0 co1 co2 co3
  obtain ⟨⟨ct0, ct1, ct2, ct3⟩, _⟩ := four_at t5
  obtain ⟨⟨co0, co1, co2, co3⟩, _⟩ := four_at o5
  go_wp2_with fail
  refine (HCK _ _ ko5).mono ?_
  rintro e W7 ⟨rfl, bb⟩
  have k6 := k5.trans (bb.mono k5.size)
  have t6 := (bb.block _ (Array.getElem?_eq_some_iff.1 t5).1).trans t5
  have o6 := (bb.block _ (Array.getElem?_eq_some_iff.1 o5).1).trans o5
  have ko6 := kat_below ko5 bb
  have sl6 := sl5.ck (CK.below bb)
  clear bb k5 t5 o5 ko5 sl5
  try clear ct0 ct1 ct2 ct3 co0 co1 co2 co3
  obtain ⟨⟨ct0, ct1, ct2, ct3⟩, _⟩ := four_at t6
  obtain ⟨⟨co0, co1, co2, co3⟩, _⟩ := four_at o6
  go_wp2_with fail
  refine (HLO _ k6).mono ?_
  rintro e W8 ⟨rfl, bb⟩
  have k7 := k6.trans (bb.mono k6.size)
  have t7 := (bb.block _ (Array.getElem?_eq_some_iff.1 t6).1).trans t6
  have o7 := (bb.block _ (Array.getElem?_eq_some_iff.1 o6).1).trans o6
  have ko7 := kat_below ko6 bb
  have sl7 := sl6.ck (CK.below bb)
  clear bb k6 t6 o6 ko6 sl6
  try clear ct0 ct1 ct2 ct3 co0 co1 co2 co3
  obtain ⟨⟨ct0, ct1, ct2, ct3⟩, _⟩ := four_at t7
  obtain ⟨⟨co0, co1, co2, co3⟩, _⟩ := four_at o7
  go_wp2_with fail
  refine (HPN _ _ ko7).mono ?_
  rintro e W9 ⟨vp, rfl, oP, bb⟩
  have k8 := k7.trans (bb.mono k7.size)
  have t8 := (bb.block _ (Array.getElem?_eq_some_iff.1 t7).1).trans t7
  have o8 := (bb.block _ (Array.getElem?_eq_some_iff.1 o7).1).trans o7
  have ko8 := kat_below ko7 bb
  have sl8 := sl7.ck (CK.below bb)
  have sp8 := oP
  clear bb k7 t7 o7 ko7 sl7
  try clear ct0 ct1 ct2 ct3 co0 co1 co2 co3
  obtain ⟨⟨ct0, ct1, ct2, ct3⟩, _⟩ := four_at t8
  obtain ⟨⟨co0, co1, co2, co3⟩, _⟩ := four_at o8
  go_wp2_with fail
  refine (HEQ _ _ _ sp8 sl8).mono ?_
  rintro e W10 ⟨rfl, bb⟩
  have k9 := k8.trans (bb.mono k8.size)
  have t9 := (bb.block _ (Array.getElem?_eq_some_iff.1 t8).1).trans t8
  have o9 := (bb.block _ (Array.getElem?_eq_some_iff.1 o8).1).trans o8
  have ko9 := kat_below ko8 bb
  have sl9 := sl8.ck (CK.below bb)
  have sp9 := sp8.ck (CK.below bb)
  clear bb k8 t8 o8 ko8 sl8 sp8
  try clear ct0 ct1 ct2 ct3 co0 co1 co2 co3
  obtain ⟨⟨ct0, ct1, ct2, ct3⟩, _⟩ := four_at t9
  obtain ⟨⟨co0, co1, co2, co3⟩, _⟩ := four_at o9
  go_wp2_with fail
  go_ret
  exact ⟨rfl, k9⟩
set_option maxHeartbeats 8000000 in
set_option maxRecDepth 100000 in
theorem lay_good (wy pn sz : Int) (ks : Fo) (kv : Value) (W H : Int) (w : World) (b0 b1 b2 : ByteArray) (hB : BrTab w b0 b1 b2) (hb : Br b1 b2) (hk : KAt w kv ks) (hcnt0 : ks.cnt ≤ 1048576) (hc : (chk (cons wy pn sz ks nil)).1 = 0) (i1 : ¬ W < ((ls wy ks).1 : Int)) (i2 : ¬ H < ((ls wy ks).2 : Int)) (i3 : ¬ 120 < W) (i4 : ¬ 60 < H) :
    Calls Tryd.prog 3 #[.agg #[.int .i64 wy, .int .i64 pn, .int .i64 sz, kv], .int .i64 W, .int .i64 H] w fun e w' => e = .returned (.bool true) ∧ Below w.heap.size w w' := by
  have hcnt : ks.cnt ≤ 2000000 := by omega
  have HPT := fun V (hV : Below w.heap.size w V) => parted_any b0 b1 b2 V (hB.below hV) hb
  have HK : Hid (∀ V, Below w.heap.size w V → KAt V kv ks) := fun V hV => kat_below hk hV
  have kb : Below w.heap.size w (w.alloc (.cells #[.int .i64 wy, .int .i64 pn, .int .i64 sz, kv] 24)) := (Below.refl _ _).alloc (Nat.le_refl _) _
  have xb := heap_alloc_new w (.cells #[.int .i64 wy, .int .i64 pn, .int .i64 sz, kv] 24)
  have HR := fun V (hV : Below w.heap.size w V) => checkR_any wy pn sz ks kv V (HK.out V hV) hcnt
  have HO := own_rec (ks.cnt + 1) wy pn sz ks kv _ (Nat.lt_succ_self _) hcnt (HK.out _ kb)
  have HCK := fun V kv' (hV : KAt V kv' ks) => check_any wy pn sz ks kv' V hV hcnt
  have HSM : ∀ V kv', KAt V kv' ks → KAt V kv ks → Calls Tryd.prog 15 #[.agg #[.int .i64 wy, .int .i64 pn, .int .i64 sz, kv'], .agg #[.int .i64 wy, .int .i64 pn, .int .i64 sz, kv]] V fun e w' => e = .returned (.bool true) ∧ Below V.heap.size V w' := fun V kv' hV hV2 => by
    have := same_any wy pn sz wy pn sz ks ks kv' kv V hcnt hV hV2
    rwa [decide_eq_true rfl] at this
  have HL := fun V kv' (hV : KAt V kv' ks) => Least_good wy pn sz ks kv' V hV hcnt hc
  have HY := fun V kv' (hV : KAt V kv' ks) => Lay_good wy pn sz ks kv' W H V hV hcnt hc (Int.not_lt.1 i1) (Int.not_lt.1 i3) (Int.not_lt.1 i2) (Int.not_lt.1 i4)
  have HLT := fun V (hV : Below w.heap.size w V) => layOut_any (ks.cnt + 1) wy pn sz ks kv 0 0 W H V (Nat.lt_succ_self _) hcnt (chk_ok hc).1 (chk_ok hc).2 (HK.out V hV) (Int.not_lt.1 i1) (Int.not_lt.1 i2) (Int.le_refl _) (by omega) (Int.le_refl _) (by omega)
  have hPL : (layT wy pn ks 0 0 W H).length ≤ 2000000 := by
    have := pnF_len ks
    unfold layT
    split
    · simp
    · rw [layT_len]
      omega
  have HEP := fun V v1 v2 h1 h2 => equalp_any v1 v2 _ V h1 h2 hPL
  generalize layT wy pn ks 0 0 W H = PP at *
  obtain ⟨q1, q2⟩ := chk_ok hc
  have HLO := fun V (hV : Below w.heap.size w V) => leastOf_any wy pn sz ks kv V hcnt q1 q2 (HK.out V hV)
  have HPN := fun V kv' (hV : KAt V kv' ks) => Panes_good wy pn sz ks kv' V hV hcnt hc
  rw [hc] at HCK
  rw [chk_list hc, hc] at HR
  have hLL : (if wy = 0 then [pn] else pnF ks).length ≤ 3000000 := by
    have := pnF_len ks
    split
    · simp
    · omega
  have HEQ := fun V v1 v2 h1 h2 => equalI_any v1 v2 _ V h1 h2 hLL
  generalize (if wy = 0 then [pn] else pnF ks) = LL at *
  generalize ls wy ks = L2 at *
  clear hk hB hb hc q1 q2 hLL hPL
  go_enter Tryd.func3, Tryd.ntmps3
  go_wp2_with fail
  refine HO.mono ?_
  rintro e W1 ⟨kvo, rfl, hko, bO⟩
  obtain ⟨oa, oc, rfl, _⟩ := id hko
  have kA : Below W1.heap.size W1 (W1.alloc (.cells #[.int .i64 wy, .int .i64 pn, .int .i64 sz, .slice oa ks.len oc] 24)) := (Below.refl _ _).alloc (Nat.le_refl _) _
  have o0 := heap_alloc_new W1 (.cells #[.int .i64 wy, .int .i64 pn, .int .i64 sz, .slice oa ks.len oc] 24)
  have t0 := (kA.block _ (Array.getElem?_eq_some_iff.1 ((bO.block _ (Array.getElem?_eq_some_iff.1 xb).1).trans xb)).1).trans ((bO.block _ (Array.getElem?_eq_some_iff.1 xb).1).trans xb)
  have k0 := (kb.trans (bO.mono kb.size)).trans (kA.mono (Nat.le_trans kb.size bO.size))
  have ko0 := kat_below hko.whole kA
  clear HO kb xb bO hko kA
  obtain ⟨⟨ct0, ct1, ct2, ct3⟩, _⟩ := four_at t0
  obtain ⟨⟨co0, co1, co2, co3⟩, _⟩ := four_at o0
  go_wp2_with fail
  refine (HL _ _ ko0).mono ?_
  rintro e W2 ⟨rfl, bb⟩
  have k1 := k0.trans (bb.mono k0.size)
  have t1 := (bb.block _ (Array.getElem?_eq_some_iff.1 t0).1).trans t0
  have o1 := (bb.block _ (Array.getElem?_eq_some_iff.1 o0).1).trans o0
  have ko1 := kat_below ko0 bb
  clear bb k0 t0 o0 ko0
  try clear ct0 ct1 ct2 ct3 co0 co1 co2 co3
  obtain ⟨⟨ct0, ct1, ct2, ct3⟩, _⟩ := four_at t1
  obtain ⟨⟨co0, co1, co2, co3⟩, _⟩ := four_at o1
  go_wp2_with fail
  refine (HY _ _ ko1).mono ?_
  rintro e W3 ⟨vy, rfl, oY, bb⟩
  have k2 := k1.trans (bb.mono k1.size)
  have t2 := (bb.block _ (Array.getElem?_eq_some_iff.1 t1).1).trans t1
  have o2 := (bb.block _ (Array.getElem?_eq_some_iff.1 o1).1).trans o1
  have ko2 := kat_below ko1 bb
  have py2 := oY
  clear bb k1 t1 o1 ko1
  try clear ct0 ct1 ct2 ct3 co0 co1 co2 co3
  obtain ⟨⟨ct0, ct1, ct2, ct3⟩, _⟩ := four_at t2
  obtain ⟨⟨co0, co1, co2, co3⟩, _⟩ := four_at o2
  go_wp2_with fail
  refine (HR _ k2).mono ?_
  rintro e W4 ⟨vl, rfl, oL, bb⟩
  have k3 := k2.trans (bb.mono k2.size)
  have t3 := (bb.block _ (Array.getElem?_eq_some_iff.1 t2).1).trans t2
  have o3 := (bb.block _ (Array.getElem?_eq_some_iff.1 o2).1).trans o2
  have ko3 := kat_below ko2 bb
  have py3 := py2.below bb
  have sl3 := oL.sl
  clear bb k2 t2 o2 ko2 py2
  try clear ct0 ct1 ct2 ct3 co0 co1 co2 co3
  obtain ⟨⟨ct0, ct1, ct2, ct3⟩, _⟩ := four_at t3
  obtain ⟨⟨co0, co1, co2, co3⟩, _⟩ := four_at o3
  go_wp2_with fail
  refine (HPT _ k3).mono ?_
  rintro e W5 ⟨rfl, bb⟩
  have k4 := k3.trans (bb.mono k3.size)
  have t4 := (bb.block _ (Array.getElem?_eq_some_iff.1 t3).1).trans t3
  have o4 := (bb.block _ (Array.getElem?_eq_some_iff.1 o3).1).trans o3
  have ko4 := kat_below ko3 bb
  have py4 := py3.below bb
  have sl4 := sl3.ck (CK.below bb)
  clear bb k3 t3 o3 ko3 py3 sl3
  try clear ct0 ct1 ct2 ct3 co0 co1 co2 co3
  obtain ⟨⟨ct0, ct1, ct2, ct3⟩, _⟩ := four_at t4
  obtain ⟨⟨co0, co1, co2, co3⟩, _⟩ := four_at o4
  go_wp2_with fail
  refine (HSM _ _ ko4 (HK.out _ k4)).mono ?_
  rintro e W6 ⟨rfl, bb⟩
  have k5 := k4.trans (bb.mono k4.size)
  have t5 := (bb.block _ (Array.getElem?_eq_some_iff.1 t4).1).trans t4
  have o5 := (bb.block _ (Array.getElem?_eq_some_iff.1 o4).1).trans o4
  have ko5 := kat_below ko4 bb
  have py5 := py4.below bb
  have sl5 := sl4.ck (CK.below bb)
  clear bb k4 t4 o4 ko4 py4 sl4
  try clear ct0 ct1 ct2 ct3 co0 co1 co2 co3
  obtain ⟨⟨ct0, ct1, ct2, ct3⟩, _⟩ := four_at t5
  obtain ⟨⟨co0, co1, co2, co3⟩, _⟩ := four_at o5
  go_wp2_with fail
  refine (HCK _ _ ko5).mono ?_
  rintro e W7 ⟨rfl, bb⟩
  have k6 := k5.trans (bb.mono k5.size)
  have t6 := (bb.block _ (Array.getElem?_eq_some_iff.1 t5).1).trans t5
  have o6 := (bb.block _ (Array.getElem?_eq_some_iff.1 o5).1).trans o5
  have ko6 := kat_below ko5 bb
  have py6 := py5.below bb
  have sl6 := sl5.ck (CK.below bb)
  clear bb k5 t5 o5 ko5 py5 sl5
  try clear ct0 ct1 ct2 ct3 co0 co1 co2 co3
  obtain ⟨⟨ct0, ct1, ct2, ct3⟩, _⟩ := four_at t6
  obtain ⟨⟨co0, co1, co2, co3⟩, _⟩ := four_at o6
  go_wp2_with fail
  refine (HLO _ k6).mono ?_
  rintro e W8 ⟨rfl, bb⟩
  have k7 := k6.trans (bb.mono k6.size)
  have t7 := (bb.block _ (Array.getElem?_eq_some_iff.1 t6).1).trans t6
  have o7 := (bb.block _ (Array.getElem?_eq_some_iff.1 o6).1).trans o6
  have ko7 := kat_below ko6 bb
  have py7 := py6.below bb
  have sl7 := sl6.ck (CK.below bb)
  clear bb k6 t6 o6 ko6 py6 sl6
  try clear ct0 ct1 ct2 ct3 co0 co1 co2 co3
  obtain ⟨⟨ct0, ct1, ct2, ct3⟩, _⟩ := four_at t7
  obtain ⟨⟨co0, co1, co2, co3⟩, _⟩ := four_at o7
  go_wp2_with fail
  refine (HPN _ _ ko7).mono ?_
  rintro e W9 ⟨vp, rfl, oP, bb⟩
  have k8 := k7.trans (bb.mono k7.size)
  have t8 := (bb.block _ (Array.getElem?_eq_some_iff.1 t7).1).trans t7
  have o8 := (bb.block _ (Array.getElem?_eq_some_iff.1 o7).1).trans o7
  have ko8 := kat_below ko7 bb
  have py8 := py7.below bb
  have sl8 := sl7.ck (CK.below bb)
  have sp8 := oP
  clear bb k7 t7 o7 ko7 py7 sl7
  try clear ct0 ct1 ct2 ct3 co0 co1 co2 co3
  obtain ⟨⟨ct0, ct1, ct2, ct3⟩, _⟩ := four_at t8
  obtain ⟨⟨co0, co1, co2, co3⟩, _⟩ := four_at o8
  go_wp2_with fail
  refine (HEQ _ _ _ sp8 sl8).mono ?_
  rintro e W10 ⟨rfl, bb⟩
  have k9 := k8.trans (bb.mono k8.size)
  have t9 := (bb.block _ (Array.getElem?_eq_some_iff.1 t8).1).trans t8
  have o9 := (bb.block _ (Array.getElem?_eq_some_iff.1 o8).1).trans o8
  have ko9 := kat_below ko8 bb
  have py9 := py8.below bb
  have sl9 := sl8.ck (CK.below bb)
  have sp9 := sp8.ck (CK.below bb)
  clear bb k8 t8 o8 ko8 py8 sl8 sp8
  try clear ct0 ct1 ct2 ct3 co0 co1 co2 co3
  obtain ⟨⟨ct0, ct1, ct2, ct3⟩, _⟩ := four_at t9
  obtain ⟨⟨co0, co1, co2, co3⟩, _⟩ := four_at o9
  go_wp2_with fail
  refine (HLT _ k9).mono ?_
  rintro e W11 ⟨vz, rfl, oZ, bb⟩
  have k10 := k9.trans (bb.mono k9.size)
  have t10 := (bb.block _ (Array.getElem?_eq_some_iff.1 t9).1).trans t9
  have o10 := (bb.block _ (Array.getElem?_eq_some_iff.1 o9).1).trans o9
  have ko10 := kat_below ko9 bb
  have py10 := py9.below bb
  have sl10 := sl9.ck (CK.below bb)
  have sp10 := sp9.ck (CK.below bb)
  have pz10 := oZ
  clear bb k9 t9 o9 ko9 py9 sl9 sp9
  try clear ct0 ct1 ct2 ct3 co0 co1 co2 co3
  obtain ⟨⟨ct0, ct1, ct2, ct3⟩, _⟩ := four_at t10
  obtain ⟨⟨co0, co1, co2, co3⟩, _⟩ := four_at o10
  go_wp2_with fail
  refine (HEP _ _ _ py10.sl pz10.sl).mono ?_
  rintro e W12 ⟨rfl, bb⟩
  have k11 := k10.trans (bb.mono k10.size)
  have t11 := (bb.block _ (Array.getElem?_eq_some_iff.1 t10).1).trans t10
  have o11 := (bb.block _ (Array.getElem?_eq_some_iff.1 o10).1).trans o10
  have ko11 := kat_below ko10 bb
  have py11 := py10.below bb
  have sl11 := sl10.ck (CK.below bb)
  have sp11 := sp10.ck (CK.below bb)
  have pz11 := pz10.below bb
  clear bb k10 t10 o10 ko10 py10 sl10 sp10 pz10
  try clear ct0 ct1 ct2 ct3 co0 co1 co2 co3
  obtain ⟨⟨ct0, ct1, ct2, ct3⟩, _⟩ := four_at t11
  obtain ⟨⟨co0, co1, co2, co3⟩, _⟩ := four_at o11
  go_wp2_with fail
  go_ret
  exact ⟨rfl, k11⟩
theorem splitLay_any (wy pn sz : Int) (ks : Fo) (kv : Value) (W H : Int) (w : World) (b0 b1 b2 : ByteArray) (hB : BrTab w b0 b1 b2) (hb : Br b1 b2) (hk : KAt w kv ks) (hcnt : ks.cnt ≤ 1048576) :
    Calls Tryd.prog 3 #[.agg #[.int .i64 wy, .int .i64 pn, .int .i64 sz, kv], .int .i64 W, .int .i64 H] w fun e w' => e = .returned (.bool true) ∧ Below w.heap.size w w' := by
  have hcn : ks.cnt ≤ 2000000 := by omega
  by_cases hc : (chk (cons wy pn sz ks nil)).1 = 0
  · by_cases i1 : W < ((ls wy ks).1 : Int)
    · exact lay_size1 wy pn sz ks kv W H w b0 b1 b2 hB hb hk hcn hc i1
    by_cases i2 : H < ((ls wy ks).2 : Int)
    · exact lay_size2 wy pn sz ks kv W H w b0 b1 b2 hB hb hk hcn hc i1 i2
    by_cases i3 : 120 < W
    · exact lay_size3 wy pn sz ks kv W H w b0 b1 b2 hB hb hk hcn hc i1 i2 i3
    by_cases i4 : 60 < H
    · exact lay_size4 wy pn sz ks kv W H w b0 b1 b2 hB hb hk hcn hc i1 i2 i3 i4
    · exact lay_good wy pn sz ks kv W H w b0 b1 b2 hB hb hk hcnt hc i1 i2 i3 i4
  · exact lay_bad wy pn sz ks kv W H w b0 b1 b2 hB hb hk hcn hc
end Spl
end Go.Proofs.YtckkbmgdaplaaaaDoor
