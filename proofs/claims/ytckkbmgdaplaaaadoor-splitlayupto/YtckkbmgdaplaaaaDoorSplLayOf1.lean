/- The reference's LayOut: of what goes the way 1. (Written by gen_spllayof.py.) -/
import Derived.Test.YtckkbmgdaplaaaaDoorSplLayOf0
namespace Go.Proofs.YtckkbmgdaplaaaaDoor
open Go.ChangeShapes Go.WideShapes Go.ChangeAt Go.RowKit Go.Maps Go.Sort
namespace Spl
open Fo
/-- What the second loop keeps to. -/
def LOI1 (w V1 : World) (pn sz : Int) (ks : Fo) (b o kc : Nat) (all LF : Int) (SQ : Nat × Nat × Nat × Nat) (x y W H : Int) (RR : List Pl) (g : Nat) (v11 v12 v13 v61 : Value) (wr : World) : Prop :=
  ∃ (i : Nat) (rs : Fo) (S : Int) (acc : List Pl) (aw : Nat), v12 = .int .i64 S ∧ v13 = .int .i64 ((aw : Int) + (i : Int) + gv LF all S) ∧ v61 = .int .i64 (i : Int) ∧ i + rs.len = ks.len ∧ rs.len ≤ g ∧ rs.cnt ≤ ks.cnt ∧ Ok rs ∧ FoAt w rs b (o + i * 4) ∧ S + szF rs = all ∧ 0 ≤ S ∧ aw + (lsF rs).1 = SQ.1 ∧ (lsF rs).2.2.2 ≤ SQ.2.2.2 ∧ acc ++ layF rs 1 LF all S (x + ((aw : Int) + (i : Int) + gv LF all S)) y W H = RR ∧ OwnP wr V1.heap.size v11 acc ∧ Below w.heap.size w wr ∧ V1.heap.size ≤ wr.heap.size ∧ w.heap.size + 1 + 1 ≤ V1.heap.size ∧ wr.heap[w.heap.size]? = some (.cells #[.int .i64 1, .int .i64 pn, .int .i64 sz, .slice (some ⟨b, o, none⟩) ks.len kc] 24 (0, 0)) ∧ wr.heap[w.heap.size + 1]? = some (.cells #[.int .i64 x, .int .i64 y, .int .i64 W, .int .i64 H] 44 (0, 0))
set_option maxHeartbeats 16000000 in
set_option maxRecDepth 100000 in
theorem layOut_w1 (n : Nat) (IH : LayOutOk n) (pn sz : Int) (ks : Fo) (kv : Value) (x y W H : Int) (w : World) (hn : ks.cnt < n + 1) (hcnt : ks.cnt ≤ 2000000) (hne : ks ≠ nil) (hok : Ok ks) (hk : KAt w kv ks) (hW : ((ls 1 ks).1 : Int) ≤ W) (hH : ((ls 1 ks).2 : Int) ≤ H) (hx0 : 0 ≤ x) (hx1 : x + W ≤ 1000) (hy0 : 0 ≤ y) (hy1 : y + H ≤ 1000) :
    Calls Tryd.prog 21 #[.agg #[.int .i64 1, .int .i64 pn, .int .i64 sz, kv], .agg #[.int .i64 x, .int .i64 y, .int .i64 W, .int .i64 H]] w fun e w' => ∃ v, e = .returned v ∧ OwnP w' w.heap.size v (layF ks 1 (leftT 1 (ls 1 ks) W H) (szF ks) 0 x y W H) ∧ Below w.heap.size w w' := by
  obtain ⟨i0, hi, hzz⟩ := Option.map_eq_some_iff.1 pl_info
  simp only [Prod.mk.injEq] at hzz
  obtain ⟨hz0, hz1, hz2⟩ := hzz
  have hl2 := heap_alloc2_new w (.cells #[.int .i64 1, .int .i64 pn, .int .i64 sz, kv] 24) (.cells #[.int .i64 x, .int .i64 y, .int .i64 W, .int .i64 H] 44)
  have hl1 := heap_alloc2_old w (.cells #[.int .i64 1, .int .i64 pn, .int .i64 sz, kv] 24) (.cells #[.int .i64 x, .int .i64 y, .int .i64 W, .int .i64 H] 44)
  have kb : Below w.heap.size w ((w.alloc (.cells #[.int .i64 1, .int .i64 pn, .int .i64 sz, kv] 24)).alloc (.cells #[.int .i64 x, .int .i64 y, .int .i64 W, .int .i64 H] 44)) := ((Below.refl _ _).alloc (Nat.le_refl _) _).alloc (by simp only [World.size_alloc]; omega) _
  have hsz0 : ((w.alloc (.cells #[.int .i64 1, .int .i64 pn, .int .i64 sz, kv] 24)).alloc (.cells #[.int .i64 x, .int .i64 y, .int .i64 W, .int .i64 H] 44)).heap.size = w.heap.size + 1 + 1 := by simp only [World.size_alloc]
  have HKK : Hid (∀ V, Below w.heap.size w V → KAt V kv ks) := fun V hV => kat_below hk hV
  have HLO := fun V (hV : Below w.heap.size w V) => leastOf_any 1 pn sz ks kv V hcnt (.inr ⟨by decide, hne⟩) hok (HKK.out V hV)
  have hszl := szF_le ks hok
  have hlc := len_le_cnt ks
  have hl1' : 1 ≤ ks.len := by
    rcases Nat.eq_zero_or_pos ks.len with h | h
    · exact absurd (len_nil h) hne
    · exact h
  obtain ⟨ka, kc, rfl, hkle, hkk⟩ := hk
  obtain ⟨b, o, rfl, hf⟩ := hkk.resolve_left hne
  have HF0 : Hid (FoAt w ks b o) := hf
  obtain ⟨all, hall⟩ : ∃ all, szF ks = all := ⟨_, rfl⟩
  rw [hall] at hszl ⊢
  have HALL : Hid (szF ks = all) := hall
  have HSZ : Hid ((ks.len : Int) ≤ all ∧ all ≤ 9999 * (ks.len : Int)) := hszl
  obtain ⟨SQ, hSQ⟩ : ∃ SQ, lsF ks = SQ := ⟨_, rfl⟩
  have HSQ : Hid (lsF ks = SQ) := hSQ
  have hall1 : 0 < all := by omega
  have hls : ls 1 ks = (SQ.1 + (ks.len - 1), SQ.2.2.2) := by unfold ls ls1; rw [hSQ]; rfl
  rw [hls] at hW hH HLO ⊢
  obtain ⟨LF, hLF⟩ : ∃ LF, leftT 1 (SQ.1 + (ks.len - 1), SQ.2.2.2) W H = LF := ⟨_, rfl⟩
  have hLE : LF = W - ((SQ.1 + (ks.len - 1) : Nat) : Int) := hLF.symm
  rw [hLF]
  obtain ⟨RR, hRR⟩ : ∃ RR, layF ks 1 LF all 0 x y W H = RR := ⟨_, rfl⟩
  have HRR : Hid (layF ks 1 LF all 0 x y W H = RR) := hRR
  rw [hRR]
  have hLF0 : 0 ≤ LF := by
    rw [hLE]
    simp only at hW hH
    omega
  simp only at hW hH
  have HWL : Hid (W - ((SQ.1 : Int) + ((ks.len - 1 : Nat) : Int)) = LF) := by
    unfold Hid
    rw [hLE]
    omega
  have HLE : Hid (LF = W - ((SQ.1 + (ks.len - 1) : Nat) : Int)) := hLE
  clear hRR hLF hls hf hkk hall hSQ hLE
  go_enter Tryd.func21, Tryd.ntmps21
  go_wp2_with fail
  generalize (w.alloc (.cells #[.int .i64 1, .int .i64 pn, .int .i64 sz, .slice (some ⟨b, o, none⟩) ks.len kc] 24)).alloc (.cells #[.int .i64 x, .int .i64 y, .int .i64 W, .int .i64 H] 44) = V0 at *
  obtain ⟨⟨a0, a1, a2, a3⟩, _⟩ := four_at hl2
  go_quiet (fail)
  have t0 : (V0.drewN nq).heap[w.heap.size]? = _ := hl1
  have r0 : (V0.drewN nq).heap[w.heap.size + 1]? = _ := hl2
  have k0 : Below w.heap.size w (V0.drewN nq) := ⟨kb.os, kb.tape, kb.output, kb.size, kb.block⟩
  have z0 : w.heap.size + 1 + 1 = (V0.drewN nq).heap.size := hsz0.symm
  clear hl1 hl2 kb hsz0 a0 a1 a2 a3
  generalize V0.drewN nq = V1 at *
  obtain ⟨⟨c0, c1, c2, c3⟩, _⟩ := four_at t0
  obtain ⟨⟨e0, e1, e2, e3⟩, _⟩ := four_at r0
  have HL1 := HLO V1 k0
  go_wp2_with fail
  refine HL1.mono ?_
  rintro e W2 ⟨rfl, b2⟩
  have t2 := (b2.block _ (Array.getElem?_eq_some_iff.1 t0).1).trans t0
  have r2 := (b2.block _ (Array.getElem?_eq_some_iff.1 r0).1).trans r0
  have k2 := k0.trans (b2.mono k0.size)
  have z2 : w.heap.size + 1 + 1 ≤ W2.heap.size := by rw [z0]; exact b2.size
  obtain ⟨⟨m0, m1, m2, m3⟩, _⟩ := four_at t2
  have HTR : Hid (W2.heap[w.heap.size]? = some (.cells #[.int .i64 1, .int .i64 pn, .int .i64 sz, .slice (some ⟨b, o, none⟩) ks.len kc] 24 (0, 0)) ∧ W2.heap[w.heap.size + 1]? = some (.cells #[.int .i64 x, .int .i64 y, .int .i64 W, .int .i64 H] 44 (0, 0))) := ⟨t2, r2⟩
  clear HL1 b2 t0 r0 t2 r2 k0 z0 c0 c1 c2 c3 e0 e1 e2 e3 HLO
  go_wp2_with fail
  rw [HWL.out]
  clear m0 m1 m2 m3 HWL
  go_loopg [5, 49] ks.len (fun g v5 v49 wr => ∃ (i : Nat) (rs : Fo) (A : Int), v5 = .int .i64 A ∧ v49 = .int .i64 (i : Int) ∧ i + rs.len = ks.len ∧ rs.len ≤ g ∧ rs.cnt ≤ ks.cnt ∧ Ok rs ∧ FoAt w rs b (o + i * 4) ∧ A + szF rs = all ∧ 0 ≤ A ∧ A ≤ 9999 * (i : Int) ∧ Below w.heap.size w wr ∧ w.heap.size + 1 + 1 ≤ wr.heap.size ∧ wr.heap[w.heap.size]? = some (.cells #[.int .i64 1, .int .i64 pn, .int .i64 sz, .slice (some ⟨b, o, none⟩) ks.len kc] 24 (0, 0)) ∧ wr.heap[w.heap.size + 1]? = some (.cells #[.int .i64 x, .int .i64 y, .int .i64 W, .int .i64 H] 44 (0, 0)))
  case atStart => exact ⟨0, ks, 0, rfl, rfl, by omega, Nat.le_refl _, Nat.le_refl _, hok, by simpa using HF0.out, by rw [Int.zero_add]; exact HALL.out, Int.le_refl _, by omega, k2, z2, HTR.out.1, HTR.out.2⟩
  case round =>
    obtain ⟨i, rs, A, rfl, rfl, hil, hg, hrc, hrr, hfo, hA, hA0, hA1, hbel, hzr, ht, hr⟩ := hrel
    obtain ⟨⟨x0, x1, x3, x4⟩, _⟩ := four_at ht
    clear k2 z2 HTR
    cases rs with
    | cons wy' pn' sz' ks' rs' =>
      obtain ⟨kv', h0, h1, h2, h3, hk', hr'⟩ := hfo.head
      obtain ⟨q1, q2, q3, q4⟩ := hrr
      simp only [len] at hil hg
      simp only [cnt] at hrc
      simp only [szF] at hA
      have hck := CK.below hbel
      have y0 := hck _ _ _ h0
      have y1 := hck _ _ _ h1
      have y2 := hck _ _ _ h2
      have y3 := hck _ _ _ h3
      obtain ⟨ka', kc', rfl, hkle', _⟩ := hk'
      have iin : (i : Int) < (ks.len : Int) := by omega
      have kA : Below wr.heap.size wr (wr.alloc (.cells #[.int .i64 wy', .int .i64 pn', .int .i64 sz', .slice ka' ks'.len kc'] 24)) := (Below.refl _ _).alloc (Nat.le_refl _) _
      have tA := (kA.block _ (Array.getElem?_eq_some_iff.1 ht).1).trans ht
      have rA := (kA.block _ (Array.getElem?_eq_some_iff.1 hr).1).trans hr
      have hnA := heap_alloc_new wr (.cells #[.int .i64 wy', .int .i64 pn', .int .i64 sz', .slice ka' ks'.len kc'] 24)
      have kAA := hbel.alloc hbel.size (.cells #[.int .i64 wy', .int .i64 pn', .int .i64 sz', .slice ka' ks'.len kc'] 24)
      have zA := Nat.le_trans hzr kA.size
      have HR' : Hid (FoAt w rs' b (o + (i + 1) * 4)) := by
        unfold Hid
        rw [show o + (i + 1) * 4 = o + i * 4 + 4 by omega]
        exact hr'
      have HW9 : Hid (wrap64 (A + sz') = A + sz') := by unfold Hid wrap64; omega
      obtain ⟨⟨n0, n1, n2, n3⟩, _⟩ := four_at hnA
      clear hfo hr' h0 h1 h2 h3 hck ht hr hnA kA x0 x1 x3 x4 IH
      go_wp2_with fail
      go_roundg rs'.len
      case measure => omega
      case rel => exact ⟨i + 1, rs', A + sz', by first | rfl | exact congrArg (Value.int .i64) HW9.out, by go_num, by omega, Nat.le_refl _, by omega, q4, HR'.out, by omega, by omega, by omega, kAA, zA, tA, rA⟩
    | nil =>
      have iex : ¬ (i : Int) < (ks.len : Int) := by simp only [len] at hil; omega
      have hAA : all = A := by simp only [szF] at hA; omega
      clear hA
      subst hAA
      have hop : OwnP wr wr.heap.size (.slice none 0 0) [] := World.ownsRow_nil _ _ _ _
      have HIN : Hid (Below w.heap.size w wr ∧ w.heap.size + 1 + 1 ≤ wr.heap.size ∧ wr.heap[w.heap.size]? = some (.cells #[.int .i64 1, .int .i64 pn, .int .i64 sz, .slice (some ⟨b, o, none⟩) ks.len kc] 24 (0, 0)) ∧ wr.heap[w.heap.size + 1]? = some (.cells #[.int .i64 x, .int .i64 y, .int .i64 W, .int .i64 H] 44 (0, 0)) ∧ OwnP wr wr.heap.size (.slice none 0 0) []) := ⟨hbel, hzr, ht, hr, hop⟩
      clear hfo hil hg hrc hrr hA0 hA1 hbel hzr ht hr hop x0 x1 x3
      go_wp2_with fail
      generalize wr = V1 at *
      clear x4 iex
      go_loopg [11, 12, 13, 61] ks.len (fun g v11 v12 v13 v61 wr => LOI1 w V1 pn sz ks b o kc all LF SQ x y W H RR g v11 v12 v13 v61 wr)
      case atStart => exact ⟨0, ks, 0, [], 0, rfl, by rw [gv_zero]; rfl, rfl, by omega, Nat.le_refl _, Nat.le_refl _, hok, by simpa using HF0.out, by rw [HALL.out]; omega, Int.le_refl _, by rw [HSQ.out]; omega, by rw [HSQ.out]; exact Nat.le_refl _, by rw [gv_zero]; simpa using HRR.out, HIN.out.2.2.2.2, HIN.out.1, Nat.le_refl _, HIN.out.2.1, HIN.out.2.2.1, HIN.out.2.2.2.1⟩
      case round =>
        obtain ⟨i, rs, S, acc, aw, rfl, h13, rfl, hil, hg, hrc, hrr, hfo, hS, hS0, haw, hmx, hacc, hown, hbel, hV, hV2, ht, hr⟩ := hrel
        clear HIN
        cases rs with
        | nil =>
          have iex : ¬ (i : Int) < (ks.len : Int) := by simp only [len] at hil; omega
          have hAR : acc = RR := by rw [← hacc]; simp [layF]
          subst hAR
          subst h13
          have HO : Hid (OwnP wr w.heap.size _ acc ∧ Below w.heap.size w wr) := ⟨hown.down (by omega), hbel⟩
          clear hfo hil ht hr hown hacc hS hrr IH
          go_wp2_with fail
          go_ret
          exact ⟨_, rfl, HO.out⟩
        | cons wy' pn' sz' ks' rs' =>
          obtain ⟨kv', f0, f1, f2, f3, hk', hr'⟩ := hfo.head
          obtain ⟨q1, q2, q3, q4⟩ := hrr
          simp only [len] at hil hg
          simp only [cnt] at hrc
          simp only [szF] at hS
          simp only [lsF] at haw hmx
          rw [layF_cons, if_pos rfl] at hacc
          have hck := CK.below hbel
          have y0 := hck _ _ _ f0
          have y1 := hck _ _ _ f1
          have y2 := hck _ _ _ f2
          have y3 := hck _ _ _ f3
          have hkw : KAt wr kv' ks' := hk'.ck hck
          have HKW : Hid (KAt w kv' ks') := hk'
          obtain ⟨ka', kc', rfl, hkle', _⟩ := hk'
          have iin : (i : Int) < (ks.len : Int) := by omega
          have HR' : Hid (FoAt w rs' b (o + (i + 1) * 4)) := by
            unfold Hid
            rw [show o + (i + 1) * 4 = o + i * 4 + 4 by omega]
            exact hr'
          have hLE := HLE.out
          have hsr := szF_pos rs' q4
          have hgl2 := gv_le (left := LF) (all := all) (S := S) (T := S + sz') hLF0 hS0 (by omega) (by omega) hall1
          have hms := mul_small (a := LF) (b := S + sz') hLF0 (by omega) (by omega) (by omega)
          have hms0 := mul_small (a := LF) (b := S) hLF0 (by omega) (by omega) (by omega)
          have hq1 : (LF * (S + sz')).tdiv all = gv LF all (S + sz') := Int.tdiv_eq_ediv_of_nonneg hms.1
          have hq0 : (LF * S).tdiv all = gv LF all S := Int.tdiv_eq_ediv_of_nonneg hms0.1
          have hLk : ls1 wy' ks'.len (lsF ks') = ls wy' ks' := rfl
          rw [hLk] at haw hmx
          obtain ⟨Lk, hLke⟩ : ∃ Lk, ls wy' ks' = Lk := ⟨_, rfl⟩
          rw [hLke] at haw hmx hacc
          have HLK : Hid (ls wy' ks' = Lk) := hLke
          obtain ⟨G0, hG0⟩ : ∃ G0, gv LF all S = G0 := ⟨_, rfl⟩
          obtain ⟨G1, hG1⟩ : ∃ G1, gv LF all (S + sz') = G1 := ⟨_, rfl⟩
          have HG1 : Hid (gv LF all (S + sz') = G1) := hG1
          rw [hG0, hG1] at hgl2 hacc
          rw [hG1] at hq1
          rw [hG0] at hq0 h13
          obtain ⟨att, hat⟩ : ∃ att, (aw : Int) + (i : Int) + G0 = att := ⟨_, rfl⟩
          rw [hat] at h13 hacc
          subst h13
          obtain ⟨xx, hxx⟩ : ∃ xx, x + att = xx := ⟨_, rfl⟩
          rw [hxx] at hacc
          obtain ⟨mw, hmw⟩ : ∃ mw, (Lk.1 : Int) + (G1 - G0) = mw := ⟨_, rfl⟩
          rw [hmw] at hacc
          have hmx1 : Lk.2 ≤ SQ.2.2.2 := by omega
          have hmx2 : (lsF rs').2.2.2 ≤ SQ.2.2.2 := by omega
          have hfit1 : ((Lk.1 : Int) : Int) ≤ mw := by omega
          have hlimx : 0 ≤ xx ∧ xx + mw ≤ x + W ∧ mw ≤ W := by omega
          have hatb : 0 ≤ att ∧ att ≤ 1000 := by omega
          have hRRl : acc.length + (layT wy' pn' ks' xx y mw H).length ≤ 2000000 := by
            have h1 := congrArg List.length hacc
            rw [List.length_append, List.length_append] at h1
            have h2 : RR.length = (pnF ks).length := by rw [← HRR.out, layT_len]
            have h3 := pnF_len ks
            omega
          have HXN : Hid (((aw + Lk.1 : Nat) : Int) + ((i + 1 : Nat) : Int) + gv LF all (S + sz') = att + (mw + 1)) := by
            unfold Hid
            rw [HG1.out]
            omega
          have hne2 : layT wy' pn' ks' xx y mw H ≠ [] := layT_ne _ _ _ _ _ _ _ (q2.imp id fun h => layF_ne ks' _ _ _ _ _ _ _ _ q3 h.2)
          have HIH := fun V2 (hkV : KAt V2 (.slice ka' ks'.len kc') ks') => IH wy' pn' sz' ks' (.slice ka' ks'.len kc') xx y mw H V2 (by omega) (by omega) q2 q3 hkV (by rw [HLK.out]; omega) (by rw [HLK.out]; omega) (by omega) (by omega) (by omega) (by omega)
          obtain ⟨pl, hpl⟩ : ∃ pl, layT wy' pn' ks' xx y mw H = pl := ⟨_, rfl⟩
          rw [hpl] at hacc hRRl hne2 HIH
          have hxm : xx + (mw + 1) = x + (att + (mw + 1)) := by omega
          rw [hxm] at hacc
          have HACC : Hid (acc ++ (pl ++ layF rs' 1 LF all (S + sz') (x + (att + (mw + 1))) y W H) = RR) := hacc
          have HN1 : Hid (aw + Lk.1 + (lsF rs').1 = SQ.1) := by unfold Hid; omega
          have HN2 : Hid ((lsF rs').2.2.2 ≤ SQ.2.2.2) := hmx2
          have HN3 : Hid (S + sz' + szF rs' = all ∧ 0 ≤ S + sz') := by unfold Hid; omega
          have HK0 : Hid (KAt w (.slice ka' ks'.len kc') ks') := HKW.out
          have kA : Below wr.heap.size wr (wr.alloc (.cells #[.int .i64 wy', .int .i64 pn', .int .i64 sz', .slice ka' ks'.len kc'] 24)) := (Below.refl _ _).alloc (Nat.le_refl _) _
          have aK := heap_alloc_new wr (.cells #[.int .i64 wy', .int .i64 pn', .int .i64 sz', .slice ka' ks'.len kc'] 24)
          have aT := (kA.block _ (Array.getElem?_eq_some_iff.1 ht).1).trans ht
          have aR := (kA.block _ (Array.getElem?_eq_some_iff.1 hr).1).trans hr
          have aO := hown.below kA
          have aB := hbel.trans (kA.mono hbel.size)
          have HC := leastOf_any wy' pn' sz' ks' (.slice ka' ks'.len kc') _ (by omega) q2 q3 (kat_below hkw kA)
          rw [HLK.out] at HC
          have hA2 : (wr.alloc (.cells #[.int .i64 wy', .int .i64 pn', .int .i64 sz', .slice ka' ks'.len kc'] 24)).heap.size = wr.heap.size + 1 := by rw [World.size_alloc]
          have HFRM : Hid (∀ k, Value.ownBlock _ = some k → V1.heap.size ≤ k) := hown.from
          have hm1 : wrap64 (S + sz') = S + sz' := by unfold wrap64; omega
          have hm2 : wrap64 (LF * (S + sz')) = LF * (S + sz') := by unfold wrap64; omega
          have hm3 : wrap64 ((LF * (S + sz')).tdiv all) = G1 := by rw [hq1]; unfold wrap64; omega
          have hm4 : wrap64 (LF * S) = LF * S := by unfold wrap64; omega
          have hm5 : wrap64 ((LF * S).tdiv all) = G0 := by rw [hq0]; unfold wrap64; omega
          have hm6 : wrap64 (G1 - G0) = G1 - G0 := by unfold wrap64; omega
          have hm7 : wrap64 ((Lk.1 : Int) + (G1 - G0)) = mw := by unfold wrap64; omega
          have hm8 : wrap64 (x + att) = xx := by unfold wrap64; omega
          have hm9 : wrap64 (mw + 1) = mw + 1 := by unfold wrap64; omega
          have hm10 : wrap64 (att + (mw + 1)) = att + (mw + 1) := by unfold wrap64; omega
          have HM1 : Hid (wrap64 (S + sz') = S + sz') := hm1
          have HM10 : Hid (wrap64 (att + (mw + 1)) = att + (mw + 1)) := hm10
          have HM11 : Hid (wrap64 (att + wrap64 (wrap64 ((Lk.1 : Int) + (G1 - G0)) + 1)) = att + (mw + 1)) := by unfold Hid; rw [hm7, hm9, hm10]
          have hne0 : ¬ all = 0 := by omega
          have hne1 : (all == 0) = false := beq_eq_false_iff_ne.2 hne0
          have HNUM : Hid (0 ≤ xx ∧ xx ≤ 1000 ∧ 0 ≤ mw ∧ mw ≤ 1000) := by unfold Hid; omega
          clear IH hfo hr' f0 f1 f2 f3 hkw q1 q2 q3 hck hacc hpl ht hr hown hbel hS haw hmx hmx1 hmx2 hfit1 hlimx hsr hgl2 hxx hmw hms hms0 hq0 hq1 hG0 hG1 hat hLk hLke hatb hxm hLE
          go_wp2_with fail
          refine HC.mono ?_
          rintro e W2 ⟨rfl, b2⟩
          have wK := (b2.block _ (Array.getElem?_eq_some_iff.1 aK).1).trans aK
          have wT := (b2.block _ (Array.getElem?_eq_some_iff.1 aT).1).trans aT
          have wR := (b2.block _ (Array.getElem?_eq_some_iff.1 aR).1).trans aR
          have wO := aO.below b2
          have wB := aB.trans (b2.mono aB.size)
          have wS := b2.size
          rw [hA2] at wS
          obtain ⟨⟨u0, u1, u2, u3⟩, _⟩ := four_at wK
          obtain ⟨⟨t0, t1, t2, t3⟩, _⟩ := four_at wT
          clear aK aT aR aO aB b2 HC y0 y1 y2 y3 kA
          go_wp2_with fail
          go_quiet (fail)
          have dK : (W2.drewN nq).heap[wr.heap.size]? = _ := wK
          have dT : (W2.drewN nq).heap[w.heap.size]? = _ := wT
          have dR : (W2.drewN nq).heap[w.heap.size + 1]? = _ := wR
          have dO : OwnP (W2.drewN nq) V1.heap.size _ acc := wO
          have dB : Below w.heap.size w (W2.drewN nq) := ⟨wB.os, wB.tape, wB.output, wB.size, wB.block⟩
          have dS : wr.heap.size + 1 ≤ (W2.drewN nq).heap.size := wS
          clear wK wT wR wO wB wS u0 u1 u2 u3 t0 t1 t2 t3
          generalize W2.drewN nq = W3 at *
          obtain ⟨⟨u0, u1, u2, u3⟩, _⟩ := four_at dK
          obtain ⟨⟨t0, t1, t2, t3⟩, _⟩ := four_at dT
          obtain ⟨⟨r0, r1, r2, r3⟩, _⟩ := four_at dR
          have kQ : Below W3.heap.size W3 (W3.alloc (.cells #[.int .i64 x, .int .i64 y, .int .i64 W, .int .i64 H] 44)) := (Below.refl _ _).alloc (Nat.le_refl _) _
          obtain ⟨⟨a0, a1, a2, a3⟩, _⟩ := four_at ((kQ.block _ (Array.getElem?_eq_some_iff.1 dT).1).trans dT)
          obtain ⟨⟨b0, b1, b2, b3⟩, _⟩ := four_at ((kQ.block _ (Array.getElem?_eq_some_iff.1 dR).1).trans dR)
          have kP : Below W3.heap.size W3 (W3.alloc (.cells #[.int .i64 xx, .int .i64 y, .int .i64 mw, .int .i64 H] 44)) := (Below.refl _ _).alloc (Nat.le_refl _) _
          have eK := (kP.block _ (Array.getElem?_eq_some_iff.1 dK).1).trans dK
          have eT := (kP.block _ (Array.getElem?_eq_some_iff.1 dT).1).trans dT
          have eR := (kP.block _ (Array.getElem?_eq_some_iff.1 dR).1).trans dR
          have eP := heap_alloc_new W3 (.cells #[.int .i64 xx, .int .i64 y, .int .i64 mw, .int .i64 H] 44)
          have eO := dO.below kP
          have eB := dB.trans (kP.mono dB.size)
          have eS : V1.heap.size ≤ (W3.alloc (.cells #[.int .i64 xx, .int .i64 y, .int .i64 mw, .int .i64 H] 44)).heap.size := by
            rw [World.size_alloc]
            omega
          obtain ⟨⟨o0, o1, o2, o3⟩, _⟩ := four_at eK
          obtain ⟨⟨p0, p1, p2, p3⟩, _⟩ := four_at eP
          have HLY := HIH _ (kat_below HK0.out eB)
          have HVV : Hid (_ ∧ _ ∧ _ ∧ _ ∧ _) := ⟨eT, eR, eO, eB, eS⟩
          clear kQ dK dT dR dO dB dS kP eK eT eR eP eO eB eS HIH
          go_wp2_with fail
          generalize W3.alloc (.cells #[.int .i64 xx, .int .i64 y, .int .i64 mw, .int .i64 H] 44) = V2 at *
          obtain ⟨vT, vR, vO, vB, vS⟩ := HVV.out
          clear a0 a1 a2 a3 b0 b1 b2 b3 o0 o1 o2 o3 p0 p1 p2 p3 u0 u1 u2 u3 t0 t1 t2 t3 r0 r1 r2 r3 HVV hm1 hm2 hm3 hm4 hm5 hm6 hm7 hm8
          refine HLY.mono ?_
          rintro e W4 ⟨v2, rfl, o2, b3⟩
          obtain ⟨g2, cap2, rfl, hbg2, hgl3, hle2, hcl2⟩ := o2.open hne2
          have HO3 : Hid (OwnP W4 V1.heap.size _ acc) := vO.below b3
          have k3 := vB.trans (b3.mono vB.size)
          have x3R := (b3.block _ (Array.getElem?_eq_some_iff.1 vR).1).trans vR
          have x3T := (b3.block _ (Array.getElem?_eq_some_iff.1 vT).1).trans vT
          have hV3 : V1.heap.size ≤ W4.heap.size := by have := b3.size; omega
          clear HLY o2 b3 vR vT vO vB vS
          go_wp2_with (at_builtin; refine wpList_append_own _ rfl _ _ 29 rfl V1.heap.size 46 i0 (.agg #[.int .i64 0, .int .i64 0, .int .i64 0, .int .i64 0, .int .i64 0]) 5 40 pls_und hi hz0 hz1 hz2 rfl (by decide) _ _ _ rfl HO3.out ⟨g2, 0, none⟩ pl.length cap2 (pl.flatMap plc) rfl (by rw [plc_len]) hcl2 (plc_one pl) (by unfold maxLen; omega) (by omega) hV3 ?_; intro v3 W5 hown3 hgrow hnil)
          have hfr := HFRM.out
          have at4 : ∀ j, j < V1.heap.size → W5.heap[j]? = W4.heap[j]? := fun j hj => hgrow.block j (by omega) (fun e => by have := hfr j e.symm; omega)
          have hn1 := HN1.out
          have hn3 := HN3.out
          have hacc2 := HACC.out
          go_roundg rs'.len
          case measure => omega
          case rel =>
            refine ⟨i + 1, rs', S + sz', acc ++ pl, aw + Lk.1, by first | rfl | exact congrArg (Value.int .i64) HM1.out, by rw [HXN.out]; first | rfl | exact congrArg (Value.int .i64) HM10.out | exact congrArg (Value.int .i64) HM11.out, by go_num, by omega, Nat.le_refl _, by omega, q4, HR'.out, hn3.1, hn3.2, hn1, HN2.out, ?_, ?_, k3.grown hgrow k3.size (fun k hk => by have := hfr k hk; omega), Nat.le_trans hV3 hgrow.size, hV2, (at4 _ (by omega)).trans x3T, (at4 _ (by omega)).trans x3R⟩
            · rw [HXN.out, List.append_assoc]
              exact hacc2
            · unfold OwnP
              rw [List.length_append, List.flatMap_append]
              exact hown3
end Spl
end Go.Proofs.YtckkbmgdaplaaaaDoor
