/- The reference's Write. -/
import Derived.Test.YtmgmdijhiplalaaDoorParseWe
import Derived.Test.YtmgmdijhiplalaaDoorParseRb
namespace Go.Proofs.YtmgmdijhiplalaaDoor
open Go.ChangeShapes Go.WideShapes Go.ChangeAt Go.RowKit Go.Sort
namespace Prs
/-- Events written behind what is written, by the reference's bytes. -/
def runR : List Ev → List UInt8 → List UInt8 × Int
  | [], acc => (acc, 0)
  | e :: es, acc => if tellB (bs (evR e)) e = false then ([], 5) else if 4000 < acc.length + (evR e).length then ([], 2) else runR es (acc ++ evR e)
theorem runR_eq : ∀ (es : List Ev) (acc : List UInt8), runR es acc = run es acc
  | [], acc => rfl
  | e :: es, acc => by
    have h := evR_tell e
    have h1 : runR (e :: es) acc = if tellB (bs (evR e)) e = false then ([], 5) else if 4000 < acc.length + (evR e).length then ([], 2) else runR es (acc ++ evR e) := rfl
    have h2 : run (e :: es) acc = if tellB (bs (evB e)) e = false then ([], 5) else if 4000 < acc.length + (evB e).length then ([], 2) else run es (acc ++ evB e) := rfl
    rw [h1, h2, h.1]
    cases ht : tellB (bs (evB e)) e with
    | false => rfl
    | true => rw [h.2 ht, runR_eq es]
set_option maxHeartbeats 8000000 in
set_option maxRecDepth 100000 in
theorem writeEvents_any (es : List Ev) (v : Value) (w : World) (hT : Tabs w) (hP : P10 w) (hE : EvsR w v es) (hf : ∀ e, e ∈ es → Fine e) (hn : es.length ≤ 1048576) :
    Calls Tryd.prog 15 #[v] w fun r w' => r = .returned (.tuple #[.string (bs (run es []).1), .int .i64 (run es []).2]) ∧ Below w.heap.size w w' := by
  obtain ⟨pa, pc, hpv⟩ := hE.slice
  have HE : Hid (EvsR w v es) := hE
  have HT : Hid (Tabs w) := hT
  have HP : Hid (P10 w) := hP
  have HF : Hid (∀ e, e ∈ es → Fine e) := hf
  obtain ⟨R, hR⟩ : ∃ R, run es [] = R := ⟨_, rfl⟩
  rw [hR]
  have HR : Hid (runR es [] = R) := by unfold Hid; rw [runR_eq]; exact hR
  subst hpv
  clear hE hT hP hf hR
  go_enter Tryd.func15, Tryd.ntmps15
  go_wp2_with fail
  go_loopg [4, 12] es.length (fun g s i wr => ∃ (k : Nat) (acc : List UInt8), k ≤ es.length ∧ es.length - k ≤ g ∧ i = .int .i64 k ∧ s = .string (bs acc) ∧ Below w.heap.size w wr ∧ runR (es.drop k) acc = R ∧ acc.length ≤ 4000)
  case atStart => exact ⟨0, [], by omega, by omega, rfl, rfl, Below.refl _ _, HR.out, by simp⟩
  case round =>
    obtain ⟨k, acc, hk, hg, rfl, rfl, hb, hacc, hal⟩ := hrel
    have HC : Hid (runR (es.drop k) acc = R) := hacc
    have HB : Hid (Below w.heap.size w wr) := hb
    clear hacc hb
    by_cases hlt : k < es.length
    · have lt1 : ((k : Int) < (es.length : Int)) := by omega
      rcases HE.out with ⟨he, -⟩ | ⟨b, o, c, hvv, hc⟩
      · rw [he] at hlt
        exact absurd hlt (by simp)
      injection hvv with hvv1 hvv2 hvv3
      subst hvv1 hvv3
      obtain ⟨q0, h0⟩ := hc k hlt
      have HFI : Hid (Fine es[k]) := HF.out _ (List.getElem_mem hlt)
      have HD : Hid (es.drop k = es[k] :: es.drop (k + 1)) := drop_ev es k hlt
      obtain ⟨qa, qc, rfl⟩ := h0.ps.slice
      have g0 := h0.next HB.out
      generalize es[k] = ev at *
      have y0 := g0.c0
      have y1 := g0.c1
      have y2 := g0.c2
      have y3 := g0.c3
      have y4 := g0.c4
      have y5 := g0.c5
      have y6 := g0.c6
      have HKA : Hid (Below wr.heap.size wr (wr.alloc (.cells #[.int .i64 ev.kind, .int .i32 ev.r, .int .u8 ev.fin, .int .u8 ev.mark, .string ev.mid, .slice qa ev.ps.length qc, .string ev.txt] 37))) := (Below.refl _ _).alloc (Nat.le_refl _) _
      have HKW : Hid (Below w.heap.size w (wr.alloc (.cells #[.int .i64 ev.kind, .int .i32 ev.r, .int .u8 ev.fin, .int .u8 ev.mark, .string ev.mid, .slice qa ev.ps.length qc, .string ev.txt] 37))) := HB.out.trans (HKA.out.mono HB.out.size)
      have HN : Hid ((wr.alloc (.cells #[.int .i64 ev.kind, .int .i32 ev.r, .int .u8 ev.fin, .int .u8 ev.mark, .string ev.mid, .slice qa ev.ps.length qc, .string ev.txt] 37)).heap[wr.heap.size]? = some (.cells #[.int .i64 ev.kind, .int .i32 ev.r, .int .u8 ev.fin, .int .u8 ev.mark, .string ev.mid, .slice qa ev.ps.length qc, .string ev.txt] 37 (0, 0))) := heap_alloc_new wr _
      have HPS : Hid (∀ W, Below w.heap.size w W → IntsV W (.slice qa ev.ps.length qc) ev.ps) := fun W hW => h0.ps.next hW
      clear hc h0 g0
      go_wp2_with fail
      refine (eventBytes_any ev qa qc _ (HP.out.below HKW.out) (HPS.out _ HKW.out) HFI.out).mono ?_
      rintro r W1 ⟨rfl, b1⟩
      have HK1 : Hid (Below w.heap.size w W1) := HKW.out.trans (b1.mono HKW.out.size)
      have HN1 : Hid (W1.heap[wr.heap.size]? = _) := stay HN.out b1
      have HRUN : Hid (runR (ev :: es.drop (k + 1)) acc = R) := by
        have h := HC.out
        rw [HD.out] at h
        exact h
      clear y0 y1 y2 y3 y4 y5 y6 b1 HKA HKW HN HD HC
      obtain ⟨rest, hrest⟩ : ∃ rest, es.drop (k + 1) = rest := ⟨_, rfl⟩
      rw [hrest] at HRUN
      have HREST : Hid (es.drop (k + 1) = rest) := hrest
      clear hrest
      have HBZ : Hid ((bs (evR ev)).size = (evR ev).length) := bs_size _
      have HTB : Hid (tellB (bs (evR ev)) ev = (decide ((bs (evR ev)).size ≤ 4000) && one1 (feed (bare 0) (evR ev)).2 ev)) := rfl
      have HRU : Hid (runR (ev :: rest) acc = if tellB (bs (evR ev)) ev = false then ([], 5) else if 4000 < acc.length + (evR ev).length then ([], 2) else runR rest (acc ++ evR ev)) := rfl
      generalize evR ev = ebs at *
      by_cases hb4 : ebs.length ≤ 4000
      · have hb5 : ¬ (4000 : Int) < ((bs ebs).size : Int) := by have := HBZ.out; omega
        have HRD := readBytes_any (bare 0) none 0 (bs ebs) W1 (HT.out.next HK1.out) (.inl ⟨rfl, _, _, rfl⟩) ok_zero (by have := HBZ.out; omega)
        rw [show (bs ebs).data.toList = ebs from rfl] at HRD
        have HFW : Hid (Few (feed (bare 0) ebs).2) := few_feed ebs (bare 0) ok_zero
        have HRES : Hid (tellB (bs ebs) ev = one1 (feed (bare 0) ebs).2 ev) := by unfold Hid; rw [HTB.out, decide_eq_true (by have := HBZ.out; omega), Bool.true_and]
        generalize (feed (bare 0) ebs).2 = fs at HRD HFW HRES HTB
        generalize (feed (bare 0) ebs).1 = s at HRD
        simp only [stV] at HRD
        simp only [bare, nt, List.length_nil] at HRD
        go_wp2_with fail
        refine HRD.mono ?_
        rintro r W2 ⟨pv, tv, rfl, hP, hE, b2⟩
        obtain ⟨pp, pq, rfl⟩ := hP.slice
        obtain ⟨ta, tc, htv⟩ := hE.slice
        have HE1 : Hid (EvsR W2 tv fs) := hE
        have HX1 : Hid (W2.heap[wr.heap.size]? = _) := stay HN1.out b2
        have HK2 : Hid (Below w.heap.size w W2) := HK1.out.trans (b2.mono HK1.out.size)
        subst htv
        clear HRD hP hE b2
        by_cases hn1 : fs.length = 1
        · obtain ⟨x, rfl⟩ := List.length_eq_one_iff.1 hn1
          rcases HE1.out with ⟨he, -⟩ | ⟨g2, o2, c2, hvv, hc⟩
          · exact absurd he (by simp)
          injection hvv with hvv1 hvv2 hvv3
          subst hvv1 hvv3
          obtain ⟨q0, h0⟩ := hc 0 (by simp)
          rw [show ([x] : List Ev)[0] = x from rfl, Nat.zero_mul, Nat.add_zero] at h0
          obtain ⟨ra, rc, rfl⟩ := h0.ps.slice
          have HKA : Hid (∀ o, Below W2.heap.size W2 (W2.alloc o)) := fun o => (Below.refl _ _).alloc (Nat.le_refl _) _
          have HSM : Hid (∀ W, Below W2.heap.size W2 W → Calls Tryd.prog 13 #[.agg #[.int .i64 x.kind, .int .i32 x.r, .int .u8 x.fin, .int .u8 x.mark, .string x.mid, .slice ra x.ps.length rc, .string x.txt], .agg #[.int .i64 ev.kind, .int .i32 ev.r, .int .u8 ev.fin, .int .u8 ev.mark, .string ev.mid, .slice qa ev.ps.length qc, .string ev.txt]] W fun r w' => r = .returned (.bool (sameE x ev)) ∧ Below W.heap.size W w' ∧ Below w.heap.size w w') := fun W hW => by
            have hxp := HFW.out x (by simp)
            have k2 := HK2.out.trans (hW.mono HK2.out.size)
            refine (sameEvent_any x ev _ _ W (h0.ps.next hW) (HPS.out _ k2) (by omega) (by have := HFI.out.pl; omega)).mono ?_
            rintro r w' ⟨rfl, b2⟩
            exact ⟨rfl, b2, k2.trans (b2.mono k2.size)⟩
          have HRE : Hid (tellB (bs ebs) ev = sameE x ev) := HRES.out
          generalize sameE x ev = sb at HSM HRE
          have g0 := h0.next (HKA.out (.cells #[.int .i64 s.at', .int .u8 s.mark, .string s.mid, .slice pp s.ps.length pq, .string s.txt, .string s.left, .bool s.late] 24))
          have z0 := g0.c0
          have z1 := g0.c1
          have z2 := g0.c2
          have z3 := g0.c3
          have z4 := g0.c4
          have z5 := g0.c5
          have z6 := g0.c6
          obtain ⟨y0, y1, y2, y3, y4, y5, y6⟩ := open7 (heap_box W2 (.cells #[.int .i64 s.at', .int .u8 s.mark, .string s.mid, .slice pp s.ps.length pq, .string s.txt, .string s.left, .bool s.late] 24) HX1.out)
          clear hc h0 g0 HE1 hn1
          simp only [List.length_cons, List.length_nil]
          cases sb with
          | false =>
            have HRR : Hid (([], 5) = R) := by
              unfold Hid
              rw [← HRUN.out, HRU.out, if_pos HRE.out]
            go_wp2_with fail
            go_region_with (go_at_call 13; refine (HSM.out _ (HKA.out _).drew).mono ?_; rintro r W3 ⟨rfl, d2, k2⟩)
            all_goals go_wp2_with fail
            all_goals go_ret2
            all_goals exact ⟨by rw [← HRR.out]; rfl, k2⟩
          | true =>
            have hcc : ¬ 9223372036854775807 < (bs acc).size + (bs ebs).size := by have := HBZ.out; have := bs_size acc; omega
            by_cases hmany : 4000 < acc.length + ebs.length
            · have hm1 : (4000 : Int) < ((bs acc).size : Int) + ((bs ebs).size : Int) := by have := HBZ.out; have := bs_size acc; omega
              have HRR : Hid (([], 2) = R) := by
                unfold Hid
                rw [← HRUN.out, HRU.out, if_neg (by rw [HRE.out]; simp), if_pos hmany]
              go_wp2_with fail
              go_region_with (go_at_call 13; refine (HSM.out _ (HKA.out _).drew).mono ?_; rintro r W3 ⟨rfl, d2, k2⟩)
              all_goals go_wp2_with fail
              all_goals go_ret2
              all_goals exact ⟨by rw [← HRR.out]; rfl, k2⟩
            · have hm1 : ¬ (4000 : Int) < ((bs acc).size : Int) + ((bs ebs).size : Int) := by have := HBZ.out; have := bs_size acc; omega
              have HNX : Hid (runR rest (acc ++ ebs) = R) := by
                unfold Hid
                rw [← HRUN.out, HRU.out, if_neg (by rw [HRE.out]; simp), if_neg hmany]
              have HAP : Hid (bs acc ++ bs ebs = bs (acc ++ ebs)) := bs_append _ _
              go_wp2_with fail
              go_region_with (go_at_call 13; refine (HSM.out _ (HKA.out _).drew).mono ?_; rintro r W3 ⟨rfl, d2, k2⟩)
              all_goals go_wp2_with fail
              all_goals (
                go_roundg (es.length - (k + 1))
                case measure => omega
                case rel => exact ⟨k + 1, acc ++ ebs, by omega, by omega, by go_num, by rw [HAP.out], k2, by rw [HREST.out]; exact HNX.out, by rw [List.length_append]; omega⟩)
        · have hn2 : ¬ (fs.length : Int) = 1 := by omega
          have HRE : Hid (tellB (bs ebs) ev = false) := HRES.out.trans (one1_not ev hn1)
          have HRR : Hid (([], 5) = R) := by
            unfold Hid
            rw [← HRUN.out, HRU.out, if_pos HRE.out]
          have HKA : Hid (∀ o, Below w.heap.size w (W2.alloc o)) := fun o => HK2.out.alloc HK2.out.size o
          clear HE1 hn1
          have hnb : ((fs.length : Int) == 1) = false := by rw [beq_eq_false_iff_ne]; exact hn2
          have hnc : ((fs.length : Int) != 1) = true := by simp only [bne, hnb]; rfl
          go_wp2_with fail
          refine wp_region_quiet_below (by kernel_rfl) (by kernel_rfl) ?_
          repeat (first | go_big_quiet_skip | quiet_step (fail))
          refine wpQuiet_nil ?_
          intro _ hw'
          obtain ⟨⟨dq, os⟩, hw''⟩ := hw'
          subst hw''
          go_wp2_with fail
          go_ret2
          exact ⟨by rw [← HRR.out]; rfl, (HKA.out _).trans ((below_regrown _ dq os).mono (HKA.out _).size)⟩
      · have hb5 : (4000 : Int) < ((bs ebs).size : Int) := by have := HBZ.out; omega
        have HRR : Hid (([], 5) = R) := by
          unfold Hid
          rw [← HRUN.out, HRU.out, if_pos (by rw [HTB.out, decide_eq_false (by have := HBZ.out; omega), Bool.false_and])]
        go_wp2_with fail
        go_ret2
        exact ⟨by rw [← HRR.out]; rfl, HK1.out⟩
    · have lt1 : ¬ ((k : Int) < (es.length : Int)) := by omega
      have HRR : Hid ((acc, 0) = R) := by
        have h := HC.out
        rw [show es.drop k = [] from List.drop_eq_nil_of_le (by omega)] at h
        exact h
      go_wp2_with fail
      go_ret2
      exact ⟨by rw [← HRR.out]; rfl, HB.out⟩
end Prs
end Go.Proofs.YtmgmdijhiplalaaDoor

/- The law ParseWrite. -/
namespace Go.Proofs.YtmgmdijhiplalaaDoor
open Go.ChangeShapes Go.WideShapes Go.ChangeAt Go.RowKit Go.Sort
namespace Prs
set_option maxHeartbeats 8000000 in
set_option maxRecDepth 100000 in
theorem parseWrite_any (es : List Ev) (v : Value) (w : World) (hT : Tabs w) (hP : P10 w) (hE : EvsR w v es) (hf : ∀ e, e ∈ es → Fine e) (hn : es.length ≤ 1048576) :
    Calls Tryd.prog 4 #[v] w fun e w' => e = .returned (.bool true) ∧ Below w.heap.size w w' := by
  have HW := write_any es v w hT hP hE hf hn
  have HT : Hid (Tabs w) := hT
  have HP : Hid (P10 w) := hP
  have HE : Hid (EvsR w v es) := hE
  have HF : Hid (∀ e, e ∈ es → Fine e) := hf
  have HWE : Hid (∀ W, Below w.heap.size w W → Calls Tryd.prog 15 #[v] W fun r w' => r = .returned (.tuple #[.string (bs (run es []).1), .int .i64 (run es []).2]) ∧ Below W.heap.size W w') := fun W hW => writeEvents_any es v W (HT.out.next hW) (HP.out.below hW) (HE.out.next hW) HF.out hn
  obtain ⟨pa, pc, hpv⟩ := hE.slice
  subst hpv
  obtain ⟨B, n, hBn⟩ : ∃ B n, run es [] = (B, n) := ⟨_, _, rfl⟩
  rw [hBn] at HW HWE
  simp only at HW HWE
  have hq1 : ((bs B).toList != (bs B).toList) = false := by simp
  have hq2 : (n != n) = false := by simp
  generalize bs B = T at *
  clear hT hP hE hf hBn
  go_enter Tryd.func4, Tryd.ntmps4
  go_wp2_with fail
  refine HW.mono ?_
  rintro e W1 ⟨rfl, b1⟩
  clear HW
  go_wp2_with fail
  refine (HWE.out _ b1).mono ?_
  rintro e W2 ⟨rfl, b2⟩
  have HK2 : Hid (Below w.heap.size w W2) := b1.trans (b2.mono b1.size)
  clear b1 b2 HWE
  go_wp2_with fail
  refine (readIn_any _ (HT.out.next HK2.out)).mono ?_
  rintro e W3 ⟨rfl, b3⟩
  have HK3 : Hid (Below w.heap.size w W3) := HK2.out.trans (b3.mono HK2.out.size)
  clear b3 HK2
  go_wp2_with fail
  go_loopg [32] es.length (fun g i wr => ∃ k : Nat, k ≤ es.length ∧ es.length - k ≤ g ∧ i = .int .i64 k ∧ Below w.heap.size w wr)
  case atStart => exact ⟨0, by omega, by omega, rfl, HK3.out⟩
  case round =>
    obtain ⟨k, hk, hg, rfl, hb⟩ := hrel
    have HB : Hid (Below w.heap.size w wr) := hb
    clear hb
    by_cases hlt : k < es.length
    · have lt1 : ((k : Int) < (es.length : Int)) := by omega
      have lt0 : ((0 : Int) < (es.length : Int)) := by omega
      have lt00 : 0 < es.length := by omega
      rcases HE.out with ⟨he, -⟩ | ⟨b, o, c, hvv, hc⟩
      · rw [he] at hlt
        exact absurd hlt (by simp)
      injection hvv with hvv1 hvv2 hvv3
      subst hvv1 hvv3
      obtain ⟨q1, h1⟩ := hc k hlt
      obtain ⟨q0, h0⟩ := hc 0 (by omega)
      have hp0 := (HF.out _ (List.getElem_mem (h := (by omega : 0 < es.length)))).pl
      have hp1 := (HF.out _ (List.getElem_mem hlt)).pl
      rw [Nat.zero_mul, Nat.add_zero] at h0
      generalize es[k] = x at *
      generalize es[0] = y at *
      obtain ⟨qa, qc, rfl⟩ := h1.ps.slice
      obtain ⟨ra, rc, rfl⟩ := h0.ps.slice
      have hreg : ∀ d os, Below wr.heap.size wr (grow (redrawn wr d) os) := fun d os => below_regrown wr d os
      have hG : ∀ d os, Below w.heap.size w (grow (redrawn wr d) os) := fun d os => HB.out.trans ((hreg d os).mono HB.out.size)
      have HS1 : Hid (∀ d os, Calls Tryd.prog 16 #[.agg #[.int .i64 x.kind, .int .i32 x.r, .int .u8 x.fin, .int .u8 x.mark, .string x.mid, .slice qa x.ps.length qc, .string x.txt], .agg #[.int .i64 y.kind, .int .i32 y.r, .int .u8 y.fin, .int .u8 y.mark, .string y.mid, .slice ra y.ps.length rc, .string y.txt]] (grow (redrawn wr d) os) fun r w'' => r = .returned (.bool (sameE x y)) ∧ ∃ p : Regrown, w'' = grow (redrawn wr p.d) p.os) := fun d os => Calls.regrown_of (same_any x y _ _ _ (h1.ps.next (hG d os)) (h0.ps.next (hG d os)) (by omega) (by omega))
      have HS2 : Hid (∀ d os, Calls Tryd.prog 13 #[.agg #[.int .i64 x.kind, .int .i32 x.r, .int .u8 x.fin, .int .u8 x.mark, .string x.mid, .slice qa x.ps.length qc, .string x.txt], .agg #[.int .i64 y.kind, .int .i32 y.r, .int .u8 y.fin, .int .u8 y.mark, .string y.mid, .slice ra y.ps.length rc, .string y.txt]] (grow (redrawn wr d) os) fun r w'' => r = .returned (.bool (sameE x y)) ∧ ∃ p : Regrown, w'' = grow (redrawn wr p.d) p.os) := fun d os => Calls.regrown_of (sameEvent_any x y _ _ _ (h1.ps.next (hG d os)) (h0.ps.next (hG d os)) (by omega) (by omega))
      have u0 := fun d os => (h1.next (hG d os)).c0
      have u1 := fun d os => (h1.next (hG d os)).c1
      have u2 := fun d os => (h1.next (hG d os)).c2
      have u3 := fun d os => (h1.next (hG d os)).c3
      have u4 := fun d os => (h1.next (hG d os)).c4
      have u5 := fun d os => (h1.next (hG d os)).c5
      have u6 := fun d os => (h1.next (hG d os)).c6
      have v0 := fun d os => (h0.next (hG d os)).c0
      have v1 := fun d os => (h0.next (hG d os)).c1
      have v2 := fun d os => (h0.next (hG d os)).c2
      have v3 := fun d os => (h0.next (hG d os)).c3
      have v4 := fun d os => (h0.next (hG d os)).c4
      have v5 := fun d os => (h0.next (hG d os)).c5
      have v6 := fun d os => (h0.next (hG d os)).c6
      have hbb : (sameE x y != sameE x y) = false := by simp
      have HG : Hid (∀ d os, Below w.heap.size w (grow (redrawn wr d) os)) := hG
      clear hc h0 h1 hreg hG hp0 hp1
      generalize sameE x y = sb at *
      go_wp2_with fail
      refine wp_region_quiet_below (by kernel_rfl) (by kernel_rfl) ?_
      repeat (first | go_big_quiet_skip | quiet_step (first | (go_at_call 16; exact HS1.out _ _) | (go_at_call 13; exact HS2.out _ _)))
      refine wpQuiet_nil ?_
      intro _ hw'
      obtain ⟨⟨dq, os⟩, hw''⟩ := hw'
      subst hw''
      clear u0 u1 u2 u3 u4 u5 u6 v0 v1 v2 v3 v4 v5 v6
      go_wp2_with fail
      go_roundg (es.length - (k + 1))
      case measure => omega
      case rel => exact ⟨k + 1, by omega, by omega, by go_num, HG.out _ _⟩
    · have lt1 : ¬ ((k : Int) < (es.length : Int)) := by omega
      go_wp2_with fail
      go_ret
      exact ⟨rfl, HB.out⟩
end Prs
end Go.Proofs.YtmgmdijhiplalaaDoor
