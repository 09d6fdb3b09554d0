/- Package split: lay. (Written by gen_spllay.py.) -/
import Derived.Test.YtckkbmgdaplaaaaDoorSplLayP
namespace Go.Proofs.YtckkbmgdaplaaaaDoor
open Go.ChangeShapes Go.WideShapes Go.ChangeAt Go.RowKit Go.Maps
namespace Spl
open Fo
theorem mid_get {D : List Int} {x : Int} {E : List Int} : (D ++ x :: E)[D.length]? = some x := by simp
set_option maxHeartbeats 16000000 in
set_option maxRecDepth 100000 in
theorem lay_any : ∀ (n : Nat) (wy pn sz : Int) (ks : Fo) (kv : Value) (x y W H : Int) (w : World), ks.cnt < n → ks.cnt ≤ 2000000 → (wy = 0 ∨ ((wy = 1 ∨ wy = 2) ∧ ks ≠ .nil)) → Ok ks → KAt w kv ks → ((ls wy ks).1 : Int) ≤ W → ((ls wy ks).2 : Int) ≤ H → 0 ≤ x → x + W ≤ 1000 → 0 ≤ y → y + H ≤ 1000 →
    Calls Tryd.prog 45 #[.agg #[.int .i64 wy, .int .i64 pn, .int .i64 sz, kv], .agg #[.int .i64 x, .int .i64 y, .int .i64 W, .int .i64 H]] w fun e w' => ∃ v, e = .returned v ∧ OwnP w' w.heap.size v (layT wy pn ks x y W H) ∧ Below w.heap.size w w'
  | 0, _, _, _, _, _, _, _, _, _, _, h, _, _, _, _, _, _, _, _, _, _ => absurd h (Nat.not_lt_zero _)
  | n + 1, wy, pn, sz, ks, kv, x, y, W, H, w, hn, hcnt, hroot, hok, hk, hW, hH, hx0, hx1, hy0, hy1 => by
    have IH := lay_any n
    obtain ⟨i0, hi, hzz⟩ := Option.map_eq_some_iff.1 pl_info
    simp only [Prod.mk.injEq] at hzz
    obtain ⟨hz0, hz1, hz2⟩ := hzz
    have hl2 := heap_alloc2_new w (.cells #[.int .i64 wy, .int .i64 pn, .int .i64 sz, kv] 24) (.cells #[.int .i64 x, .int .i64 y, .int .i64 W, .int .i64 H] 44)
    have hl1 := heap_alloc2_old w (.cells #[.int .i64 wy, .int .i64 pn, .int .i64 sz, kv] 24) (.cells #[.int .i64 x, .int .i64 y, .int .i64 W, .int .i64 H] 44)
    have kb : Below w.heap.size w ((w.alloc (.cells #[.int .i64 wy, .int .i64 pn, .int .i64 sz, kv] 24)).alloc (.cells #[.int .i64 x, .int .i64 y, .int .i64 W, .int .i64 H] 44)) := ((Below.refl _ _).alloc (Nat.le_refl _) _).alloc (by simp only [World.size_alloc]; omega) _
    have hsz0 : ((w.alloc (.cells #[.int .i64 wy, .int .i64 pn, .int .i64 sz, kv] 24)).alloc (.cells #[.int .i64 x, .int .i64 y, .int .i64 W, .int .i64 H] 44)).heap.size = w.heap.size + 1 + 1 := by simp only [World.size_alloc]
    unfold layT
    by_cases h0 : wy = 0
    · rw [if_pos h0]
      subst h0
      have kb2 := kb.alloc kb.size (.cells #[.int .i64 pn, .int .i64 x, .int .i64 y, .int .i64 W, .int .i64 H] 46)
      have hnew := heap_alloc_new ((w.alloc (.cells #[.int .i64 0, .int .i64 pn, .int .i64 sz, kv] 24)).alloc (.cells #[.int .i64 x, .int .i64 y, .int .i64 W, .int .i64 H] 44)) (.cells #[.int .i64 pn, .int .i64 x, .int .i64 y, .int .i64 W, .int .i64 H] 46)
      rw [hsz0] at hnew
      clear IH hk hl1 hl2 hsz0 hroot hok hi hz0 hz1 hz2 hn hW hH hx1 hy1
      go_enter Tryd.func45, Tryd.ntmps45
      go_wp2_with fail
      go_ret
      exact ⟨_, rfl, ⟨rfl, .inr ⟨w.heap.size + 1 + 1, 1, _, rfl, by omega, hnew, Nat.le_refl _, by decide, rfl, rfl⟩⟩, kb2⟩
    · rw [if_neg h0]
      obtain ⟨hwy, hne⟩ := hroot.resolve_left h0
      have HS := shares_any wy pn sz ks kv x y W H _ hwy hne hok hcnt (kat_below hk kb) hW (by omega) hH (by omega)
      have hszl := szF_le ks hok
      have hlc := len_le_cnt ks
      have hl1' : 1 ≤ ks.len := by
        rcases Nat.eq_zero_or_pos ks.len with h | h
        · exact absurd (len_nil h) hne
        · exact h
      obtain ⟨ka, kc, rfl, hkle, hkk⟩ := hk
      obtain ⟨b, o, rfl, hf⟩ := hkk.resolve_left hne
      have HF0 : Hid (FoAt w ks b o) := hf
      obtain ⟨all, hall⟩ : ∃ all, szF ks = all := ⟨_, rfl⟩
      rw [hall] at hszl HS ⊢
      have HALL : Hid (szF ks = all) := hall
      obtain ⟨SQ, hSQ⟩ : ∃ SQ, lsF ks = SQ := ⟨_, rfl⟩
      have HSQ : Hid (lsF ks = SQ) := hSQ
      have hall1 : 0 < all := by omega
      have hbel0 := w.heap.size
      rcases hwy with rfl | rfl
      · have hls : ls 1 ks = (SQ.1 + (ks.len - 1), SQ.2.2.2) := by unfold ls ls1; rw [hSQ]; rfl
        rw [hls] at hW hH HS ⊢
        obtain ⟨LF, hLF⟩ : ∃ LF, leftT 1 (SQ.1 + (ks.len - 1), SQ.2.2.2) W H = LF := ⟨_, rfl⟩
        have hLE : LF = W - ((SQ.1 + (ks.len - 1) : Nat) : Int) := hLF.symm
        rw [hLF] at HS ⊢
        obtain ⟨RR, hRR⟩ : ∃ RR, layF ks 1 LF all 0 x y W H = RR := ⟨_, rfl⟩
        have HRR : Hid (layF ks 1 LF all 0 x y W H = RR) := hRR
        rw [hRR]
        obtain ⟨SL, hSL⟩ : ∃ SL, shF LF all 0 ks = SL := ⟨_, rfl⟩
        have HSL : Hid (shF LF all 0 ks = SL) := hSL
        have hSLl : SL.length = ks.len := by rw [← hSL, shF_len]
        rw [hSL] at HS
        have hSLn : SL ≠ [] := fun e => by rw [e] at hSLl; simp at hSLl; omega
        have hLF0 : 0 ≤ LF := by
          rw [hLE]
          simp only at hW hH
          omega
        simp only at hW hH
        clear hRR hSL hLF hls hf hkk h0 hall hSQ hroot hbel0
        go_enter Tryd.func45, Tryd.ntmps45
        go_wp2_with fail
        refine HS.mono ?_
        rintro e V1 ⟨v6, rfl, hm, bV⟩
        have t1 := (bV.block _ (Array.getElem?_eq_some_iff.1 hl1).1).trans hl1
        have r1 := (bV.block _ (Array.getElem?_eq_some_iff.1 hl2).1).trans hl2
        have k1 := kb.trans (bV.mono kb.size)
        obtain ⟨gm, cm, rfl, hgb, hgl, hgc, hgcell⟩ := hm.open hSLn
        rw [hsz0] at hgb
        have hV1 : w.heap.size + 1 + 1 ≤ V1.heap.size := by rw [← hsz0]; exact bV.size
        have HG : Hid (∀ j u, (SL.map (Value.int .i64))[j]? = some u → V1.cell? ((⟨gm, 0, none⟩ : Addr).add j) = some u) := hgcell
        have hop : OwnP V1 V1.heap.size (.slice none 0 0) [] := World.ownsRow_nil _ _ _ _
        obtain ⟨⟨c0, c1, c2, c3⟩, _⟩ := four_at t1
        have HT1 : Hid (V1.heap[w.heap.size]? = some (.cells #[.int .i64 1, .int .i64 pn, .int .i64 sz, .slice (some ⟨b, o, none⟩) ks.len kc] 24 (0, 0))) := t1
        have HR1 : Hid (V1.heap[w.heap.size + 1]? = some (.cells #[.int .i64 x, .int .i64 y, .int .i64 W, .int .i64 H] 44 (0, 0))) := r1
        rw [hSLl]
        clear HS kb bV hl1 hl2 hm hgcell t1 r1 hsz0
        go_wp2_with fail
        clear c0 c1 c2 c3
        go_loopg [5, 26] ks.len (fun g v5 v26 wr => ∃ (i : Nat) (rs : Fo) (S : Int) (D : List Int) (acc : List Pl) (aw : Nat), v26 = .int .i64 (i : Int) ∧ i + rs.len = ks.len ∧ rs.len ≤ g ∧ rs.cnt ≤ ks.cnt ∧ Ok rs ∧ FoAt w rs b (o + i * 4) ∧ S + szF rs = all ∧ 0 ≤ S ∧ D.length = i ∧ D ++ shF LF all S rs = SL ∧ aw + (lsF rs).1 = SQ.1 ∧ (lsF rs).2.2.2 ≤ SQ.2.2.2 ∧ acc ++ layF rs 1 LF all S (x + (aw : Int) + (i : Int) + gv LF all S) y W H = RR ∧ OwnP wr V1.heap.size v5 acc ∧ Below w.heap.size w wr ∧ V1.heap.size ≤ wr.heap.size ∧ wr.heap[w.heap.size]? = some (.cells #[.int .i64 1, .int .i64 pn, .int .i64 sz, .slice (some ⟨b, o, none⟩) ks.len kc] 24 (0, 0)) ∧ wr.heap[w.heap.size + 1]? = some (.cells #[.int .i64 (x + (aw : Int) + (i : Int) + gv LF all S), .int .i64 y, .int .i64 W, .int .i64 H] 44 (0, 0)) ∧ wr.heap[gm]? = V1.heap[gm]?)
        case atStart => exact ⟨0, ks, 0, [], [], 0, rfl, by omega, Nat.le_refl _, Nat.le_refl _, hok, by simpa using HF0.out, by rw [HALL.out]; omega, Int.le_refl _, rfl, HSL.out, by rw [HSQ.out]; omega, by rw [HSQ.out]; exact Nat.le_refl _, by rw [gv_zero]; simpa using HRR.out, hop, k1, Nat.le_refl _, HT1.out, by rw [gv_zero]; simpa using HR1.out, rfl⟩
        case round =>
          obtain ⟨i, rs, S, D, acc, aw, rfl, hil, hg, hrc, hrr, hfo, hS, hS0, hD, hDL, haw, hmx, hacc, hown, hbel, hV, ht, hr, hgm⟩ := hrel
          clear hop k1 HT1 HR1
          cases rs with
          | nil =>
            have iex : ¬ (i : Int) < (ks.len : Int) := by simp only [len] at hil; omega
            have hAR : acc = RR := by rw [← hacc]; simp [layF]
            subst hAR
            have HO : Hid (OwnP wr w.heap.size _ acc ∧ Below w.heap.size w wr) := ⟨hown.down (by omega), hbel⟩
            clear hfo hil ht hr hgm hown hacc hS hrr hDL IH HG
            go_wp2_with fail
            go_ret
            exact ⟨_, rfl, HO.out⟩
          | cons wy' pn' sz' ks' rs' =>
            obtain ⟨kv', f0, f1, f2, f3, hk', hr'⟩ := hfo.head
            obtain ⟨q1, q2, q3, q4⟩ := hrr
            simp only [len] at hil hg
            simp only [cnt] at hrc
            simp only [szF] at hS
            simp only [lsF] at haw hmx
            rw [shF] at hDL
            rw [layF_cons, if_pos rfl] at hacc
            have hck := CK.below hbel
            have y0 := hck _ _ _ f0
            have y1 := hck _ _ _ f1
            have y2 := hck _ _ _ f2
            have y3 := hck _ _ _ f3
            have hkw : KAt wr kv' ks' := hk'.ck hck
            have HKW : Hid (KAt w kv' ks') := hk'
            obtain ⟨ka', kc', rfl, hkle', _⟩ := hk'
            have iin : (i : Int) < (ks.len : Int) := by omega
            have HR' : Hid (FoAt w rs' b (o + (i + 1) * 4)) := by
              unfold Hid
              rw [show o + (i + 1) * 4 = o + i * 4 + 4 by omega]
              exact hr'
            -- what this part takes and gets
            have hsr := szF_pos rs' q4
            have hgl2 := gv_le (left := LF) (all := all) (S := S) (T := S + sz') hLF0 hS0 (by omega) (by omega) hall1
            have hrm : (gv LF all (S + sz') - gv LF all S) = (SL.getD i 0) := by
              rw [← hDL, ← hD, List.getD_eq_getElem?_getD, mid_get]
              rfl
            have HDL : Hid ((D ++ [gv LF all (S + sz') - gv LF all S]) ++ shF LF all (S + sz') rs' = SL) := by
              unfold Hid
              rw [← hDL, List.append_assoc]
              rfl
            have hsli : SL[i]? = some (gv LF all (S + sz') - gv LF all S) := by
              rw [← hDL, ← hD]
              exact mid_get
            have hmc : V1.cell? ⟨gm, i, none⟩ = some (.int .i64 (gv LF all (S + sz') - gv LF all S)) := by
              have := HG.out i (.int .i64 (gv LF all (S + sz') - gv LF all S)) (by rw [List.getElem?_map, hsli]; rfl)
              rwa [Addr.add_mid, Nat.zero_add] at this
            have hLk : ls1 wy' ks'.len (lsF ks') = ls wy' ks' := rfl
            rw [hLk] at haw hmx
            obtain ⟨Lk, hLke⟩ : ∃ Lk, ls wy' ks' = Lk := ⟨_, rfl⟩
            rw [hLke] at haw hmx hacc
            have HLK : Hid (ls wy' ks' = Lk) := hLke
            obtain ⟨G0, hG0⟩ : ∃ G0, gv LF all S = G0 := ⟨_, rfl⟩
            obtain ⟨G1, hG1⟩ : ∃ G1, gv LF all (S + sz') = G1 := ⟨_, rfl⟩
            have HG0 : Hid (gv LF all S = G0) := hG0
            have HG1 : Hid (gv LF all (S + sz') = G1) := hG1
            rw [hG0, hG1] at hgl2 hmc HDL hacc
            rw [hG0] at hr
            obtain ⟨xx, hxx⟩ : ∃ xx, x + (aw : Int) + (i : Int) + G0 = xx := ⟨_, rfl⟩
            rw [hxx] at hr hacc
            obtain ⟨mw, hmw⟩ : ∃ mw, (Lk.1 : Int) + (G1 - G0) = mw := ⟨_, rfl⟩
            rw [hmw] at hacc
            clear hG0 hG1 hrm hsli hDL hLk hLke
            have hmx1 : Lk.2 ≤ SQ.2.2.2 := by omega
            have hmx2 : (lsF rs').2.2.2 ≤ SQ.2.2.2 := by omega
            have hfit1 : ((Lk.1 : Int) : Int) ≤ mw := by omega
            have hlimx : 0 ≤ xx ∧ xx + mw ≤ x + W ∧ mw ≤ W := by
              omega
            have hRRl : acc.length + (layT wy' pn' ks' xx y mw H).length ≤ 2000000 := by
              have h1 := congrArg List.length hacc
              rw [List.length_append, List.length_append] at h1
              have h2 : RR.length = (pnF ks).length := by rw [← HRR.out, layT_len]
              have h3 := pnF_len ks
              omega
            have hxn : x + ((aw + Lk.1 : Nat) : Int) + ((i + 1 : Nat) : Int) + gv LF all (S + sz') = xx + (mw + 1) := by
              rw [HG1.out]
              omega
            have HXN : Hid (x + ((aw + Lk.1 : Nat) : Int) + ((i + 1 : Nat) : Int) + gv LF all (S + sz') = xx + (mw + 1)) := hxn
            have hne2 : layT wy' pn' ks' xx y mw H ≠ [] := layT_ne _ _ _ _ _ _ _ (q2.imp id fun h => layF_ne ks' _ _ _ _ _ _ _ _ q3 h.2)
            have HIH := fun V2 (hkV : KAt V2 (.slice ka' ks'.len kc') ks') => IH wy' pn' sz' ks' (.slice ka' ks'.len kc') xx y mw H V2 (by omega) (by omega) q2 q3 hkV (by rw [HLK.out]; omega) (by rw [HLK.out]; omega) (by omega) (by omega) (by omega) (by omega)
            obtain ⟨pl, hpl⟩ : ∃ pl, layT wy' pn' ks' xx y mw H = pl := ⟨_, rfl⟩
            rw [hpl] at hacc hRRl hne2 HIH
            have HACC : Hid (acc ++ (pl ++ layF rs' 1 LF all (S + sz') (xx + (mw + 1)) y W H) = RR) := hacc
            have HN1 : Hid (aw + Lk.1 + (lsF rs').1 = SQ.1) := by unfold Hid; omega
            have HN2 : Hid ((lsF rs').2.2.2 ≤ SQ.2.2.2) := hmx2
            have HN3 : Hid (S + sz' + szF rs' = all ∧ 0 ≤ S + sz') := by unfold Hid; omega
            have HK0 : Hid (KAt w (.slice ka' ks'.len kc') ks') := HKW.out
            -- the copies
            have kA : Below wr.heap.size wr ((wr.alloc (.cells #[.int .i64 wy', .int .i64 pn', .int .i64 sz', .slice ka' ks'.len kc'] 24)).alloc (.cells #[.int .i64 xx, .int .i64 y, .int .i64 W, .int .i64 H] 44)) := ((Below.refl _ _).alloc (Nat.le_refl _) _).alloc (by simp only [World.size_alloc]; omega) _
            have aP := heap_alloc2_new wr (.cells #[.int .i64 wy', .int .i64 pn', .int .i64 sz', .slice ka' ks'.len kc'] 24) (.cells #[.int .i64 xx, .int .i64 y, .int .i64 W, .int .i64 H] 44)
            have aK := heap_alloc2_old wr (.cells #[.int .i64 wy', .int .i64 pn', .int .i64 sz', .slice ka' ks'.len kc'] 24) (.cells #[.int .i64 xx, .int .i64 y, .int .i64 W, .int .i64 H] 44)
            have aT := (kA.block _ (Array.getElem?_eq_some_iff.1 ht).1).trans ht
            have aR := (kA.block _ (Array.getElem?_eq_some_iff.1 hr).1).trans hr
            have hgmw : gm < wr.heap.size := by omega
            have aM := (kA.block _ hgmw).trans hgm
            have aO := hown.below kA
            have aB := hbel.trans (kA.mono hbel.size)
            have HC := leastN_any wy' pn' sz' ks' (.slice ka' ks'.len kc') _ (by omega) (q2.imp id And.right) (Ok.rt ks' q3) (kat_below hkw kA)
            rw [HLK.out] at HC
            have kA1 : Below wr.heap.size wr (wr.alloc (.cells #[.int .i64 wy', .int .i64 pn', .int .i64 sz', .slice ka' ks'.len kc'] 24)) := (Below.refl _ _).alloc (Nat.le_refl _) _
            obtain ⟨⟨d0, d1, d2, d3⟩, _⟩ := four_at ((kA1.block _ (Array.getElem?_eq_some_iff.1 hr).1).trans hr)
            have hA2 : ((wr.alloc (.cells #[.int .i64 wy', .int .i64 pn', .int .i64 sz', .slice ka' ks'.len kc'] 24)).alloc (.cells #[.int .i64 xx, .int .i64 y, .int .i64 W, .int .i64 H] 44)).heap.size = wr.heap.size + 1 + 1 := by simp only [World.size_alloc]
            have HFRM : Hid (∀ k, Value.ownBlock _ = some k → V1.heap.size ≤ k) := hown.from
            have HLT : Hid (∀ k, Value.ownBlock _ = some k → k < wr.heap.size) := hown.lt
            have h1 : wrap64 ((Lk.1 : Int) + (G1 - G0)) = mw := by unfold wrap64; omega
            have h2 : wrap64 (mw + 1) = mw + 1 := by unfold wrap64; omega
            have h3 : wrap64 (xx + (mw + 1)) = xx + (mw + 1) := by unfold wrap64; omega
            have HNUM : Hid (0 ≤ xx ∧ xx ≤ 1000 ∧ 0 ≤ mw ∧ mw ≤ 1000) := by unfold Hid; omega
            have HDD : Hid (D.length = i) := hD
            clear kA1 IH hfo hr' f0 f1 f2 f3 hkw q1 q2 q3 hck hacc hxn hpl ht hr hgm hown hbel hS hD haw hmx hmx1 hmx2 hfit1 hlimx hsr hgl2 hxx hmw
            go_wp2_with fail
            refine HC.mono ?_
            rintro e W2 ⟨rfl, b2⟩
            have wP := (b2.block _ (Array.getElem?_eq_some_iff.1 aP).1).trans aP
            have wK := (b2.block _ (Array.getElem?_eq_some_iff.1 aK).1).trans aK
            have wT := (b2.block _ (Array.getElem?_eq_some_iff.1 aT).1).trans aT
            have wR := (b2.block _ (Array.getElem?_eq_some_iff.1 aR).1).trans aR
            have wM := (b2.block gm (by rw [hA2]; omega)).trans aM
            have wO := aO.below b2
            have wB := aB.trans (b2.mono aB.size)
            have wS := b2.size
            rw [hA2] at wS
            obtain ⟨⟨u0, u1, u2, u3⟩, _⟩ := four_at wK
            obtain ⟨⟨p0, p1, p2, p3⟩, _⟩ := four_at wP
            obtain ⟨⟨t0, t1, t2, t3⟩, _⟩ := four_at wT
            obtain ⟨⟨r0, r1, r2, r3⟩, _⟩ := four_at wR
            have fP : ∀ i, W2.frozen? ⟨wr.heap.size + 1, i, none⟩ = false := fun i => by simp only [World.frozen?, wP]; rfl
            have fR : ∀ i, W2.frozen? ⟨w.heap.size + 1, i, none⟩ = false := fun i => by simp only [World.frozen?, wR]; rfl
            have cM : W2.cell? ⟨gm, i, none⟩ = some (.int .i64 (G1 - G0)) := by
              unfold World.cell? at hmc ⊢
              rw [wM]
              exact hmc
            have nPR : wr.heap.size + 1 ≠ w.heap.size + 1 := by omega
            have nRP := nPR.symm
            have nKP : wr.heap.size ≠ wr.heap.size + 1 := by omega
            have nKR : wr.heap.size ≠ w.heap.size + 1 := by omega
            have nTP : w.heap.size ≠ wr.heap.size + 1 := by omega
            have nTR : w.heap.size ≠ w.heap.size + 1 := by omega
            have nMP : gm ≠ wr.heap.size + 1 := by omega
            have nMR : gm ≠ w.heap.size + 1 := by omega
            have vP : ((W2.setCell ⟨wr.heap.size + 1, 2, none⟩ (.int .i64 mw)).setCell ⟨w.heap.size + 1, 0, none⟩ (.int .i64 (xx + (mw + 1)))).heap[wr.heap.size + 1]? = some (.cells #[.int .i64 xx, .int .i64 y, .int .i64 mw, .int .i64 H] 44 (0, 0)) := (RowKit.Below.heap_setCell _ _ _ _ nPR).trans (heap_setCell_same W2 (wr.heap.size + 1) 2 _ _ (.int .i64 mw) wP)
            have vR : ((W2.setCell ⟨wr.heap.size + 1, 2, none⟩ (.int .i64 mw)).setCell ⟨w.heap.size + 1, 0, none⟩ (.int .i64 (xx + (mw + 1)))).heap[w.heap.size + 1]? = some (.cells #[.int .i64 (xx + (mw + 1)), .int .i64 y, .int .i64 W, .int .i64 H] 44 (0, 0)) := heap_setCell_same _ (w.heap.size + 1) 0 _ _ (.int .i64 (xx + (mw + 1))) ((RowKit.Below.heap_setCell _ _ _ _ nRP).trans wR)
            have vK : ((W2.setCell ⟨wr.heap.size + 1, 2, none⟩ (.int .i64 mw)).setCell ⟨w.heap.size + 1, 0, none⟩ (.int .i64 (xx + (mw + 1)))).heap[wr.heap.size]? = _ := (RowKit.Below.heap_setCell _ _ _ _ nKR).trans ((RowKit.Below.heap_setCell _ _ _ _ nKP).trans wK)
            have vT : ((W2.setCell ⟨wr.heap.size + 1, 2, none⟩ (.int .i64 mw)).setCell ⟨w.heap.size + 1, 0, none⟩ (.int .i64 (xx + (mw + 1)))).heap[w.heap.size]? = _ := (RowKit.Below.heap_setCell _ _ _ _ nTR).trans ((RowKit.Below.heap_setCell _ _ _ _ nTP).trans wT)
            have vM : ((W2.setCell ⟨wr.heap.size + 1, 2, none⟩ (.int .i64 mw)).setCell ⟨w.heap.size + 1, 0, none⟩ (.int .i64 (xx + (mw + 1)))).heap[gm]? = _ := (RowKit.Below.heap_setCell _ _ _ _ nMR).trans ((RowKit.Below.heap_setCell _ _ _ _ nMP).trans wM)
            have vO := (wO.put (g := wr.heap.size + 1) (i := 2) (u := .int .i64 mw) (fun q h e => by have := HLT.out q h; omega)).put (g := w.heap.size + 1) (i := 0) (u := .int .i64 (xx + (mw + 1))) (fun q h e => by have := HFRM.out q h; omega)
            have vB := (wB.setCell (p := ⟨wr.heap.size + 1, 2, none⟩) (by show w.heap.size ≤ wr.heap.size + 1; omega) (.int .i64 mw)).setCell (p := ⟨w.heap.size + 1, 0, none⟩) (Nat.le_succ _) (.int .i64 (xx + (mw + 1)))
            have HLY := HIH _ (kat_below HK0.out vB)
            have HVV : Hid (_ ∧ _ ∧ _ ∧ _ ∧ _) := ⟨vR, vT, vM, vO, vB⟩
            have vsz : ((W2.setCell ⟨wr.heap.size + 1, 2, none⟩ (.int .i64 mw)).setCell ⟨w.heap.size + 1, 0, none⟩ (.int .i64 (xx + (mw + 1)))).heap.size = W2.heap.size := by simp [World.setCell]
            obtain ⟨⟨m0, m1, m2, m3⟩, _⟩ := four_at vP
            obtain ⟨⟨s0, s1, s2, s3⟩, _⟩ := four_at vK
            clear aP aK aT aR aM aO aB b2 HC d0 d1 d2 d3 hmc y0 y1 y2 y3 vP vR vK vT vM vO vB wP wR wK wT wM wO wB HIH
            go_wp2_with fail
            generalize (W2.setCell ⟨wr.heap.size + 1, 2, none⟩ (.int .i64 mw)).setCell ⟨w.heap.size + 1, 0, none⟩ (.int .i64 (xx + (mw + 1))) = V2 at *
            obtain ⟨vR, vT, vM, vO, vB⟩ := HVV.out
            clear m0 m1 m2 m3 s0 s1 s2 s3 u0 u1 u2 u3 p0 p1 p2 p3 t0 t1 t2 t3 r0 r1 r2 r3 fP fR cM h1 h2 h3 HVV
            refine HLY.mono ?_
            rintro e W3 ⟨v2, rfl, o2, b3⟩
            obtain ⟨g2, cap2, rfl, hbg2, hgl3, hle2, hcl2⟩ := o2.open hne2
            have HO3 : Hid (OwnP W3 V1.heap.size _ acc) := vO.below b3
            have k3 := vB.trans (b3.mono vB.size)
            have x3R := (b3.block _ (Array.getElem?_eq_some_iff.1 vR).1).trans vR
            have x3T := (b3.block _ (Array.getElem?_eq_some_iff.1 vT).1).trans vT
            have hgmV : gm < V2.heap.size := by omega
            have x3M := (b3.block gm hgmV).trans vM
            have hV3 : V1.heap.size ≤ W3.heap.size := by have := b3.size; omega
            have hgm3 : gm < W3.heap.size := by omega
            clear HLY o2 b3 vR vT vM vO vB hgmV
            go_wp2_with (at_builtin; refine wpList_append_own _ rfl _ _ 29 rfl V1.heap.size 46 i0 (.agg #[.int .i64 0, .int .i64 0, .int .i64 0, .int .i64 0, .int .i64 0]) 5 40 pls_und hi hz0 hz1 hz2 rfl (by decide) _ _ _ rfl HO3.out ⟨g2, 0, none⟩ pl.length cap2 (pl.flatMap plc) rfl (by rw [plc_len]) hcl2 (plc_one pl) (by unfold maxLen; omega) (by omega) hV3 ?_; intro v3 W4 hown3 hgrow hnil)
            have hfr := HFRM.out
            have at4 : ∀ j, j < V1.heap.size → W4.heap[j]? = W3.heap[j]? := fun j hj => hgrow.block j (by omega) (fun e => by have := hfr j e.symm; omega)
            have hn1 := HN1.out
            have hn3 := HN3.out
            go_roundg rs'.len
            case measure => omega
            case rel =>
              refine ⟨i + 1, rs', S + sz', D ++ [G1 - G0], acc ++ pl, aw + Lk.1, by go_num, by omega, Nat.le_refl _, by omega, q4, HR'.out, hn3.1, hn3.2, by rw [List.length_append, List.length_singleton, HDD.out], HDL.out, hn1, HN2.out, ?_, ?_, k3.grown hgrow k3.size (fun k hk => by have := hfr k hk; omega), Nat.le_trans hV3 hgrow.size, ?_, ?_, ?_⟩
              · rw [HXN.out, List.append_assoc]
                exact HACC.out
              · unfold OwnP
                rw [List.length_append, List.flatMap_append]
                exact hown3
              · exact (at4 _ (by omega)).trans x3T
              · rw [HXN.out]
                exact (at4 _ (by omega)).trans x3R
              · exact (at4 gm hgl).trans x3M
      · have hls : ls 2 ks = (SQ.2.1, SQ.2.2.1 + (ks.len - 1)) := by unfold ls ls1; rw [hSQ]; rfl
        rw [hls] at hW hH HS ⊢
        obtain ⟨LF, hLF⟩ : ∃ LF, leftT 2 (SQ.2.1, SQ.2.2.1 + (ks.len - 1)) W H = LF := ⟨_, rfl⟩
        have hLE : LF = H - ((SQ.2.2.1 + (ks.len - 1) : Nat) : Int) := hLF.symm
        rw [hLF] at HS ⊢
        obtain ⟨RR, hRR⟩ : ∃ RR, layF ks 2 LF all 0 x y W H = RR := ⟨_, rfl⟩
        have HRR : Hid (layF ks 2 LF all 0 x y W H = RR) := hRR
        rw [hRR]
        obtain ⟨SL, hSL⟩ : ∃ SL, shF LF all 0 ks = SL := ⟨_, rfl⟩
        have HSL : Hid (shF LF all 0 ks = SL) := hSL
        have hSLl : SL.length = ks.len := by rw [← hSL, shF_len]
        rw [hSL] at HS
        have hSLn : SL ≠ [] := fun e => by rw [e] at hSLl; simp at hSLl; omega
        have hLF0 : 0 ≤ LF := by
          rw [hLE]
          simp only at hW hH
          omega
        simp only at hW hH
        clear hRR hSL hLF hls hf hkk h0 hall hSQ hroot hbel0
        go_enter Tryd.func45, Tryd.ntmps45
        go_wp2_with fail
        refine HS.mono ?_
        rintro e V1 ⟨v6, rfl, hm, bV⟩
        have t1 := (bV.block _ (Array.getElem?_eq_some_iff.1 hl1).1).trans hl1
        have r1 := (bV.block _ (Array.getElem?_eq_some_iff.1 hl2).1).trans hl2
        have k1 := kb.trans (bV.mono kb.size)
        obtain ⟨gm, cm, rfl, hgb, hgl, hgc, hgcell⟩ := hm.open hSLn
        rw [hsz0] at hgb
        have hV1 : w.heap.size + 1 + 1 ≤ V1.heap.size := by rw [← hsz0]; exact bV.size
        have HG : Hid (∀ j u, (SL.map (Value.int .i64))[j]? = some u → V1.cell? ((⟨gm, 0, none⟩ : Addr).add j) = some u) := hgcell
        have hop : OwnP V1 V1.heap.size (.slice none 0 0) [] := World.ownsRow_nil _ _ _ _
        obtain ⟨⟨c0, c1, c2, c3⟩, _⟩ := four_at t1
        have HT1 : Hid (V1.heap[w.heap.size]? = some (.cells #[.int .i64 2, .int .i64 pn, .int .i64 sz, .slice (some ⟨b, o, none⟩) ks.len kc] 24 (0, 0))) := t1
        have HR1 : Hid (V1.heap[w.heap.size + 1]? = some (.cells #[.int .i64 x, .int .i64 y, .int .i64 W, .int .i64 H] 44 (0, 0))) := r1
        rw [hSLl]
        clear HS kb bV hl1 hl2 hm hgcell t1 r1 hsz0
        go_wp2_with fail
        clear c0 c1 c2 c3
        go_loopg [5, 26] ks.len (fun g v5 v26 wr => ∃ (i : Nat) (rs : Fo) (S : Int) (D : List Int) (acc : List Pl) (aw : Nat), v26 = .int .i64 (i : Int) ∧ i + rs.len = ks.len ∧ rs.len ≤ g ∧ rs.cnt ≤ ks.cnt ∧ Ok rs ∧ FoAt w rs b (o + i * 4) ∧ S + szF rs = all ∧ 0 ≤ S ∧ D.length = i ∧ D ++ shF LF all S rs = SL ∧ aw + (lsF rs).2.2.1 = SQ.2.2.1 ∧ (lsF rs).2.1 ≤ SQ.2.1 ∧ acc ++ layF rs 2 LF all S x (y + (aw : Int) + (i : Int) + gv LF all S) W H = RR ∧ OwnP wr V1.heap.size v5 acc ∧ Below w.heap.size w wr ∧ V1.heap.size ≤ wr.heap.size ∧ wr.heap[w.heap.size]? = some (.cells #[.int .i64 2, .int .i64 pn, .int .i64 sz, .slice (some ⟨b, o, none⟩) ks.len kc] 24 (0, 0)) ∧ wr.heap[w.heap.size + 1]? = some (.cells #[.int .i64 x, .int .i64 (y + (aw : Int) + (i : Int) + gv LF all S), .int .i64 W, .int .i64 H] 44 (0, 0)) ∧ wr.heap[gm]? = V1.heap[gm]?)
        case atStart => exact ⟨0, ks, 0, [], [], 0, rfl, by omega, Nat.le_refl _, Nat.le_refl _, hok, by simpa using HF0.out, by rw [HALL.out]; omega, Int.le_refl _, rfl, HSL.out, by rw [HSQ.out]; omega, by rw [HSQ.out]; exact Nat.le_refl _, by rw [gv_zero]; simpa using HRR.out, hop, k1, Nat.le_refl _, HT1.out, by rw [gv_zero]; simpa using HR1.out, rfl⟩
        case round =>
          obtain ⟨i, rs, S, D, acc, aw, rfl, hil, hg, hrc, hrr, hfo, hS, hS0, hD, hDL, haw, hmx, hacc, hown, hbel, hV, ht, hr, hgm⟩ := hrel
          clear hop k1 HT1 HR1
          cases rs with
          | nil =>
            have iex : ¬ (i : Int) < (ks.len : Int) := by simp only [len] at hil; omega
            have hAR : acc = RR := by rw [← hacc]; simp [layF]
            subst hAR
            have HO : Hid (OwnP wr w.heap.size _ acc ∧ Below w.heap.size w wr) := ⟨hown.down (by omega), hbel⟩
            clear hfo hil ht hr hgm hown hacc hS hrr hDL IH HG
            go_wp2_with fail
            go_ret
            exact ⟨_, rfl, HO.out⟩
          | cons wy' pn' sz' ks' rs' =>
            obtain ⟨kv', f0, f1, f2, f3, hk', hr'⟩ := hfo.head
            obtain ⟨q1, q2, q3, q4⟩ := hrr
            simp only [len] at hil hg
            simp only [cnt] at hrc
            simp only [szF] at hS
            simp only [lsF] at haw hmx
            rw [shF] at hDL
            rw [layF_cons, if_neg (by decide)] at hacc
            have hck := CK.below hbel
            have y0 := hck _ _ _ f0
            have y1 := hck _ _ _ f1
            have y2 := hck _ _ _ f2
            have y3 := hck _ _ _ f3
            have hkw : KAt wr kv' ks' := hk'.ck hck
            have HKW : Hid (KAt w kv' ks') := hk'
            obtain ⟨ka', kc', rfl, hkle', _⟩ := hk'
            have iin : (i : Int) < (ks.len : Int) := by omega
            have HR' : Hid (FoAt w rs' b (o + (i + 1) * 4)) := by
              unfold Hid
              rw [show o + (i + 1) * 4 = o + i * 4 + 4 by omega]
              exact hr'
            -- what this part takes and gets
            have hsr := szF_pos rs' q4
            have hgl2 := gv_le (left := LF) (all := all) (S := S) (T := S + sz') hLF0 hS0 (by omega) (by omega) hall1
            have hrm : (gv LF all (S + sz') - gv LF all S) = (SL.getD i 0) := by
              rw [← hDL, ← hD, List.getD_eq_getElem?_getD, mid_get]
              rfl
            have HDL : Hid ((D ++ [gv LF all (S + sz') - gv LF all S]) ++ shF LF all (S + sz') rs' = SL) := by
              unfold Hid
              rw [← hDL, List.append_assoc]
              rfl
            have hsli : SL[i]? = some (gv LF all (S + sz') - gv LF all S) := by
              rw [← hDL, ← hD]
              exact mid_get
            have hmc : V1.cell? ⟨gm, i, none⟩ = some (.int .i64 (gv LF all (S + sz') - gv LF all S)) := by
              have := HG.out i (.int .i64 (gv LF all (S + sz') - gv LF all S)) (by rw [List.getElem?_map, hsli]; rfl)
              rwa [Addr.add_mid, Nat.zero_add] at this
            have hLk : ls1 wy' ks'.len (lsF ks') = ls wy' ks' := rfl
            rw [hLk] at haw hmx
            obtain ⟨Lk, hLke⟩ : ∃ Lk, ls wy' ks' = Lk := ⟨_, rfl⟩
            rw [hLke] at haw hmx hacc
            have HLK : Hid (ls wy' ks' = Lk) := hLke
            obtain ⟨G0, hG0⟩ : ∃ G0, gv LF all S = G0 := ⟨_, rfl⟩
            obtain ⟨G1, hG1⟩ : ∃ G1, gv LF all (S + sz') = G1 := ⟨_, rfl⟩
            have HG0 : Hid (gv LF all S = G0) := hG0
            have HG1 : Hid (gv LF all (S + sz') = G1) := hG1
            rw [hG0, hG1] at hgl2 hmc HDL hacc
            rw [hG0] at hr
            obtain ⟨xx, hxx⟩ : ∃ xx, y + (aw : Int) + (i : Int) + G0 = xx := ⟨_, rfl⟩
            rw [hxx] at hr hacc
            obtain ⟨mw, hmw⟩ : ∃ mw, (Lk.2 : Int) + (G1 - G0) = mw := ⟨_, rfl⟩
            rw [hmw] at hacc
            clear hG0 hG1 hrm hsli hDL hLk hLke
            have hmx1 : Lk.1 ≤ SQ.2.1 := by omega
            have hmx2 : (lsF rs').2.1 ≤ SQ.2.1 := by omega
            have hfit1 : ((Lk.2 : Int) : Int) ≤ mw := by omega
            have hlimx : 0 ≤ xx ∧ xx + mw ≤ y + H ∧ mw ≤ H := by
              omega
            have hRRl : acc.length + (layT wy' pn' ks' x xx W mw).length ≤ 2000000 := by
              have h1 := congrArg List.length hacc
              rw [List.length_append, List.length_append] at h1
              have h2 : RR.length = (pnF ks).length := by rw [← HRR.out, layT_len]
              have h3 := pnF_len ks
              omega
            have hxn : y + ((aw + Lk.2 : Nat) : Int) + ((i + 1 : Nat) : Int) + gv LF all (S + sz') = xx + (mw + 1) := by
              rw [HG1.out]
              omega
            have HXN : Hid (y + ((aw + Lk.2 : Nat) : Int) + ((i + 1 : Nat) : Int) + gv LF all (S + sz') = xx + (mw + 1)) := hxn
            have hne2 : layT wy' pn' ks' x xx W mw ≠ [] := layT_ne _ _ _ _ _ _ _ (q2.imp id fun h => layF_ne ks' _ _ _ _ _ _ _ _ q3 h.2)
            have HIH := fun V2 (hkV : KAt V2 (.slice ka' ks'.len kc') ks') => IH wy' pn' sz' ks' (.slice ka' ks'.len kc') x xx W mw V2 (by omega) (by omega) q2 q3 hkV (by rw [HLK.out]; omega) (by rw [HLK.out]; omega) (by omega) (by omega) (by omega) (by omega)
            obtain ⟨pl, hpl⟩ : ∃ pl, layT wy' pn' ks' x xx W mw = pl := ⟨_, rfl⟩
            rw [hpl] at hacc hRRl hne2 HIH
            have HACC : Hid (acc ++ (pl ++ layF rs' 2 LF all (S + sz') x (xx + (mw + 1)) W H) = RR) := hacc
            have HN1 : Hid (aw + Lk.2 + (lsF rs').2.2.1 = SQ.2.2.1) := by unfold Hid; omega
            have HN2 : Hid ((lsF rs').2.1 ≤ SQ.2.1) := hmx2
            have HN3 : Hid (S + sz' + szF rs' = all ∧ 0 ≤ S + sz') := by unfold Hid; omega
            have HK0 : Hid (KAt w (.slice ka' ks'.len kc') ks') := HKW.out
            -- the copies
            have kA : Below wr.heap.size wr ((wr.alloc (.cells #[.int .i64 wy', .int .i64 pn', .int .i64 sz', .slice ka' ks'.len kc'] 24)).alloc (.cells #[.int .i64 x, .int .i64 xx, .int .i64 W, .int .i64 H] 44)) := ((Below.refl _ _).alloc (Nat.le_refl _) _).alloc (by simp only [World.size_alloc]; omega) _
            have aP := heap_alloc2_new wr (.cells #[.int .i64 wy', .int .i64 pn', .int .i64 sz', .slice ka' ks'.len kc'] 24) (.cells #[.int .i64 x, .int .i64 xx, .int .i64 W, .int .i64 H] 44)
            have aK := heap_alloc2_old wr (.cells #[.int .i64 wy', .int .i64 pn', .int .i64 sz', .slice ka' ks'.len kc'] 24) (.cells #[.int .i64 x, .int .i64 xx, .int .i64 W, .int .i64 H] 44)
            have aT := (kA.block _ (Array.getElem?_eq_some_iff.1 ht).1).trans ht
            have aR := (kA.block _ (Array.getElem?_eq_some_iff.1 hr).1).trans hr
            have hgmw : gm < wr.heap.size := by omega
            have aM := (kA.block _ hgmw).trans hgm
            have aO := hown.below kA
            have aB := hbel.trans (kA.mono hbel.size)
            have HC := leastN_any wy' pn' sz' ks' (.slice ka' ks'.len kc') _ (by omega) (q2.imp id And.right) (Ok.rt ks' q3) (kat_below hkw kA)
            rw [HLK.out] at HC
            have kA1 : Below wr.heap.size wr (wr.alloc (.cells #[.int .i64 wy', .int .i64 pn', .int .i64 sz', .slice ka' ks'.len kc'] 24)) := (Below.refl _ _).alloc (Nat.le_refl _) _
            obtain ⟨⟨d0, d1, d2, d3⟩, _⟩ := four_at ((kA1.block _ (Array.getElem?_eq_some_iff.1 hr).1).trans hr)
            have hA2 : ((wr.alloc (.cells #[.int .i64 wy', .int .i64 pn', .int .i64 sz', .slice ka' ks'.len kc'] 24)).alloc (.cells #[.int .i64 x, .int .i64 xx, .int .i64 W, .int .i64 H] 44)).heap.size = wr.heap.size + 1 + 1 := by simp only [World.size_alloc]
            have HFRM : Hid (∀ k, Value.ownBlock _ = some k → V1.heap.size ≤ k) := hown.from
            have HLT : Hid (∀ k, Value.ownBlock _ = some k → k < wr.heap.size) := hown.lt
            have h1 : wrap64 ((Lk.2 : Int) + (G1 - G0)) = mw := by unfold wrap64; omega
            have h2 : wrap64 (mw + 1) = mw + 1 := by unfold wrap64; omega
            have h3 : wrap64 (xx + (mw + 1)) = xx + (mw + 1) := by unfold wrap64; omega
            have HNUM : Hid (0 ≤ xx ∧ xx ≤ 1000 ∧ 0 ≤ mw ∧ mw ≤ 1000) := by unfold Hid; omega
            have HDD : Hid (D.length = i) := hD
            clear kA1 IH hfo hr' f0 f1 f2 f3 hkw q1 q2 q3 hck hacc hxn hpl ht hr hgm hown hbel hS hD haw hmx hmx1 hmx2 hfit1 hlimx hsr hgl2 hxx hmw
            go_wp2_with fail
            refine HC.mono ?_
            rintro e W2 ⟨rfl, b2⟩
            have wP := (b2.block _ (Array.getElem?_eq_some_iff.1 aP).1).trans aP
            have wK := (b2.block _ (Array.getElem?_eq_some_iff.1 aK).1).trans aK
            have wT := (b2.block _ (Array.getElem?_eq_some_iff.1 aT).1).trans aT
            have wR := (b2.block _ (Array.getElem?_eq_some_iff.1 aR).1).trans aR
            have wM := (b2.block gm (by rw [hA2]; omega)).trans aM
            have wO := aO.below b2
            have wB := aB.trans (b2.mono aB.size)
            have wS := b2.size
            rw [hA2] at wS
            obtain ⟨⟨u0, u1, u2, u3⟩, _⟩ := four_at wK
            obtain ⟨⟨p0, p1, p2, p3⟩, _⟩ := four_at wP
            obtain ⟨⟨t0, t1, t2, t3⟩, _⟩ := four_at wT
            obtain ⟨⟨r0, r1, r2, r3⟩, _⟩ := four_at wR
            have fP : ∀ i, W2.frozen? ⟨wr.heap.size + 1, i, none⟩ = false := fun i => by simp only [World.frozen?, wP]; rfl
            have fR : ∀ i, W2.frozen? ⟨w.heap.size + 1, i, none⟩ = false := fun i => by simp only [World.frozen?, wR]; rfl
            have cM : W2.cell? ⟨gm, i, none⟩ = some (.int .i64 (G1 - G0)) := by
              unfold World.cell? at hmc ⊢
              rw [wM]
              exact hmc
            have nPR : wr.heap.size + 1 ≠ w.heap.size + 1 := by omega
            have nRP := nPR.symm
            have nKP : wr.heap.size ≠ wr.heap.size + 1 := by omega
            have nKR : wr.heap.size ≠ w.heap.size + 1 := by omega
            have nTP : w.heap.size ≠ wr.heap.size + 1 := by omega
            have nTR : w.heap.size ≠ w.heap.size + 1 := by omega
            have nMP : gm ≠ wr.heap.size + 1 := by omega
            have nMR : gm ≠ w.heap.size + 1 := by omega
            have vP : ((W2.setCell ⟨wr.heap.size + 1, 3, none⟩ (.int .i64 mw)).setCell ⟨w.heap.size + 1, 1, none⟩ (.int .i64 (xx + (mw + 1)))).heap[wr.heap.size + 1]? = some (.cells #[.int .i64 x, .int .i64 xx, .int .i64 W, .int .i64 mw] 44 (0, 0)) := (RowKit.Below.heap_setCell _ _ _ _ nPR).trans (heap_setCell_same W2 (wr.heap.size + 1) 3 _ _ (.int .i64 mw) wP)
            have vR : ((W2.setCell ⟨wr.heap.size + 1, 3, none⟩ (.int .i64 mw)).setCell ⟨w.heap.size + 1, 1, none⟩ (.int .i64 (xx + (mw + 1)))).heap[w.heap.size + 1]? = some (.cells #[.int .i64 x, .int .i64 (xx + (mw + 1)), .int .i64 W, .int .i64 H] 44 (0, 0)) := heap_setCell_same _ (w.heap.size + 1) 1 _ _ (.int .i64 (xx + (mw + 1))) ((RowKit.Below.heap_setCell _ _ _ _ nRP).trans wR)
            have vK : ((W2.setCell ⟨wr.heap.size + 1, 3, none⟩ (.int .i64 mw)).setCell ⟨w.heap.size + 1, 1, none⟩ (.int .i64 (xx + (mw + 1)))).heap[wr.heap.size]? = _ := (RowKit.Below.heap_setCell _ _ _ _ nKR).trans ((RowKit.Below.heap_setCell _ _ _ _ nKP).trans wK)
            have vT : ((W2.setCell ⟨wr.heap.size + 1, 3, none⟩ (.int .i64 mw)).setCell ⟨w.heap.size + 1, 1, none⟩ (.int .i64 (xx + (mw + 1)))).heap[w.heap.size]? = _ := (RowKit.Below.heap_setCell _ _ _ _ nTR).trans ((RowKit.Below.heap_setCell _ _ _ _ nTP).trans wT)
            have vM : ((W2.setCell ⟨wr.heap.size + 1, 3, none⟩ (.int .i64 mw)).setCell ⟨w.heap.size + 1, 1, none⟩ (.int .i64 (xx + (mw + 1)))).heap[gm]? = _ := (RowKit.Below.heap_setCell _ _ _ _ nMR).trans ((RowKit.Below.heap_setCell _ _ _ _ nMP).trans wM)
            have vO := (wO.put (g := wr.heap.size + 1) (i := 3) (u := .int .i64 mw) (fun q h e => by have := HLT.out q h; omega)).put (g := w.heap.size + 1) (i := 1) (u := .int .i64 (xx + (mw + 1))) (fun q h e => by have := HFRM.out q h; omega)
            have vB := (wB.setCell (p := ⟨wr.heap.size + 1, 3, none⟩) (by show w.heap.size ≤ wr.heap.size + 1; omega) (.int .i64 mw)).setCell (p := ⟨w.heap.size + 1, 1, none⟩) (Nat.le_succ _) (.int .i64 (xx + (mw + 1)))
            have HLY := HIH _ (kat_below HK0.out vB)
            have HVV : Hid (_ ∧ _ ∧ _ ∧ _ ∧ _) := ⟨vR, vT, vM, vO, vB⟩
            have vsz : ((W2.setCell ⟨wr.heap.size + 1, 3, none⟩ (.int .i64 mw)).setCell ⟨w.heap.size + 1, 1, none⟩ (.int .i64 (xx + (mw + 1)))).heap.size = W2.heap.size := by simp [World.setCell]
            obtain ⟨⟨m0, m1, m2, m3⟩, _⟩ := four_at vP
            obtain ⟨⟨s0, s1, s2, s3⟩, _⟩ := four_at vK
            clear aP aK aT aR aM aO aB b2 HC d0 d1 d2 d3 hmc y0 y1 y2 y3 vP vR vK vT vM vO vB wP wR wK wT wM wO wB HIH
            go_wp2_with fail
            generalize (W2.setCell ⟨wr.heap.size + 1, 3, none⟩ (.int .i64 mw)).setCell ⟨w.heap.size + 1, 1, none⟩ (.int .i64 (xx + (mw + 1))) = V2 at *
            obtain ⟨vR, vT, vM, vO, vB⟩ := HVV.out
            clear m0 m1 m2 m3 s0 s1 s2 s3 u0 u1 u2 u3 p0 p1 p2 p3 t0 t1 t2 t3 r0 r1 r2 r3 fP fR cM h1 h2 h3 HVV
            refine HLY.mono ?_
            rintro e W3 ⟨v2, rfl, o2, b3⟩
            obtain ⟨g2, cap2, rfl, hbg2, hgl3, hle2, hcl2⟩ := o2.open hne2
            have HO3 : Hid (OwnP W3 V1.heap.size _ acc) := vO.below b3
            have k3 := vB.trans (b3.mono vB.size)
            have x3R := (b3.block _ (Array.getElem?_eq_some_iff.1 vR).1).trans vR
            have x3T := (b3.block _ (Array.getElem?_eq_some_iff.1 vT).1).trans vT
            have hgmV : gm < V2.heap.size := by omega
            have x3M := (b3.block gm hgmV).trans vM
            have hV3 : V1.heap.size ≤ W3.heap.size := by have := b3.size; omega
            have hgm3 : gm < W3.heap.size := by omega
            clear HLY o2 b3 vR vT vM vO vB hgmV
            go_wp2_with (at_builtin; refine wpList_append_own _ rfl _ _ 29 rfl V1.heap.size 46 i0 (.agg #[.int .i64 0, .int .i64 0, .int .i64 0, .int .i64 0, .int .i64 0]) 5 40 pls_und hi hz0 hz1 hz2 rfl (by decide) _ _ _ rfl HO3.out ⟨g2, 0, none⟩ pl.length cap2 (pl.flatMap plc) rfl (by rw [plc_len]) hcl2 (plc_one pl) (by unfold maxLen; omega) (by omega) hV3 ?_; intro v3 W4 hown3 hgrow hnil)
            have hfr := HFRM.out
            have at4 : ∀ j, j < V1.heap.size → W4.heap[j]? = W3.heap[j]? := fun j hj => hgrow.block j (by omega) (fun e => by have := hfr j e.symm; omega)
            have hn1 := HN1.out
            have hn3 := HN3.out
            go_roundg rs'.len
            case measure => omega
            case rel =>
              refine ⟨i + 1, rs', S + sz', D ++ [G1 - G0], acc ++ pl, aw + Lk.2, by go_num, by omega, Nat.le_refl _, by omega, q4, HR'.out, hn3.1, hn3.2, by rw [List.length_append, List.length_singleton, HDD.out], HDL.out, hn1, HN2.out, ?_, ?_, k3.grown hgrow k3.size (fun k hk => by have := hfr k hk; omega), Nat.le_trans hV3 hgrow.size, ?_, ?_, ?_⟩
              · rw [HXN.out, List.append_assoc]
                exact HACC.out
              · unfold OwnP
                rw [List.length_append, List.flatMap_append]
                exact hown3
              · exact (at4 _ (by omega)).trans x3T
              · rw [HXN.out]
                exact (at4 _ (by omega)).trans x3R
              · exact (at4 gm hgl).trans x3M
end Spl
end Go.Proofs.YtckkbmgdaplaaaaDoor
