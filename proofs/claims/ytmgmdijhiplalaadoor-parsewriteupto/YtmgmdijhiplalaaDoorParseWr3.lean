/- tellJust. -/
import Derived.Test.YtmgmdijhiplalaaDoorParseWr2
import Derived.Deep.RegionWith
namespace Go.Proofs.YtmgmdijhiplalaaDoor
open Go.ChangeShapes Go.WideShapes Go.ChangeAt Go.RowKit Go.Sort
namespace Prs
def one1 (es : List Ev) (e : Ev) : Bool := match es with | [x] => sameE x e | _ => false
def tellB (b : ByteArray) (e : Ev) : Bool := decide (b.size ≤ 4000) && one1 (feed (bare 0) b.data.toList).2 e
theorem one1_not {es : List Ev} (e : Ev) (h : es.length ≠ 1) : one1 es e = false := by
  match es, h with
  | [], _ => rfl
  | [x], h => exact absurd rfl h
  | _ :: _ :: _, _ => rfl
set_option maxHeartbeats 8000000 in
set_option maxRecDepth 100000 in
theorem tellJust_any (b : ByteArray) (e : Ev) (pa : Option Addr) (pc : Nat) (w : World) (hT : Tabs w) (hI : IntsV w (.slice pa e.ps.length pc) e.ps) (hl : e.ps.length ≤ 9223372036854775807) :
    Calls Tryd.prog 32 #[.string b, .agg #[.int .i64 e.kind, .int .i32 e.r, .int .u8 e.fin, .int .u8 e.mark, .string e.mid, .slice pa e.ps.length pc, .string e.txt]] w fun r w' => r = .returned (.bool (tellB b e)) ∧ Below w.heap.size w w' := by
  have x0 := heap_alloc_new w (.cells #[.int .i64 e.kind, .int .i32 e.r, .int .u8 e.fin, .int .u8 e.mark, .string e.mid, .slice pa e.ps.length pc, .string e.txt] 37)
  have kb : Below w.heap.size w (w.alloc (.cells #[.int .i64 e.kind, .int .i32 e.r, .int .u8 e.fin, .int .u8 e.mark, .string e.mid, .slice pa e.ps.length pc, .string e.txt] 37)) := (Below.refl _ _).alloc (Nat.le_refl _) _
  have HX0 : Hid _ := x0
  have HKB : Hid _ := kb
  have HT : Hid (Tabs w) := hT
  have HI : Hid (IntsV w (.slice pa e.ps.length pc) e.ps) := hI
  have HL : Hid (e.ps.length ≤ 9223372036854775807) := hl
  clear x0 kb hT hI hl
  by_cases hb : b.size ≤ 4000
  · have HF := feed_right (bare 0) (.slice none 0 0) b _ (HT.out.next HKB.out) (.inl ⟨rfl, _, _, rfl⟩) ok_zero hb
    have HFW : Hid (Few (feed (bare 0) b.data.toList).2) := few_feed b.data.toList (bare 0) ok_zero
    have HRES : Hid (tellB b e = one1 (feed (bare 0) b.data.toList).2 e) := by unfold Hid tellB; rw [decide_eq_true hb, Bool.true_and]
    generalize tellB b e = res at HRES ⊢
    generalize (feed (bare 0) b.data.toList).2 = es at HF HFW HRES
    generalize (feed (bare 0) b.data.toList).1 = s at HF
    simp only [stV] at HF
    go_enter Tryd.func32, Tryd.ntmps32
    go_wp2_with fail
    refine HF.mono ?_
    rintro r W1 ⟨pv, tv, rfl, hP, hE, b1⟩
    obtain ⟨pp, pq, rfl⟩ := hP.slice
    obtain ⟨ta, tc, htv⟩ := hE.slice
    have HE1 : Hid (EvsR W1 tv es) := hE
    have HX1 : Hid (W1.heap[w.heap.size]? = _) := stay HX0.out b1
    have HK1 : Hid (Below w.heap.size w W1) := HKB.out.trans (b1.mono HKB.out.size)
    subst htv
    clear HF hP hE b1
    by_cases hn : es.length = 1
    · obtain ⟨x, rfl⟩ := List.length_eq_one_iff.1 hn
      rcases HE1.out with ⟨he, -⟩ | ⟨g, o, c, hvv, hc⟩
      · exact absurd he (by simp)
      injection hvv with hvv1 hvv2 hvv3
      subst hvv1 hvv3
      obtain ⟨q0, h0⟩ := hc 0 (by simp)
      rw [show ([x] : List Ev)[0] = x from rfl, Nat.zero_mul, Nat.add_zero] at h0
      obtain ⟨qa, qc, rfl⟩ := h0.ps.slice
      have HKA : Hid (∀ o, Below W1.heap.size W1 (W1.alloc o)) := fun o => (Below.refl _ _).alloc (Nat.le_refl _) _
      have HSM : Hid (∀ W, Below W1.heap.size W1 W → Calls Tryd.prog 16 #[.agg #[.int .i64 x.kind, .int .i32 x.r, .int .u8 x.fin, .int .u8 x.mark, .string x.mid, .slice qa x.ps.length qc, .string x.txt], .agg #[.int .i64 e.kind, .int .i32 e.r, .int .u8 e.fin, .int .u8 e.mark, .string e.mid, .slice pa e.ps.length pc, .string e.txt]] W fun r w' => r = .returned (.bool (sameE x e)) ∧ Below W.heap.size W w' ∧ Below w.heap.size w w') := fun W hW => by
        have hxp := HFW.out x (by simp)
        have k2 := HK1.out.trans (hW.mono HK1.out.size)
        refine (same_any x e _ _ W (h0.ps.next hW) (HI.out.next k2) (by omega) HL.out).mono ?_
        rintro r w' ⟨rfl, b2⟩
        exact ⟨rfl, b2, k2.trans (b2.mono k2.size)⟩
      have HRE : Hid (res = sameE x e) := HRES.out
      generalize sameE x e = sb at HSM HRE
      have g0 := h0.next (HKA.out (.cells #[.int .i64 s.at', .int .u8 s.mark, .string s.mid, .slice pp s.ps.length pq, .string s.txt, .string s.left, .bool s.late] 24))
      have z0 := g0.c0
      have z1 := g0.c1
      have z2 := g0.c2
      have z3 := g0.c3
      have z4 := g0.c4
      have z5 := g0.c5
      have z6 := g0.c6
      obtain ⟨y0, y1, y2, y3, y4, y5, y6⟩ := open7 (heap_box W1 (.cells #[.int .i64 s.at', .int .u8 s.mark, .string s.mid, .slice pp s.ps.length pq, .string s.txt, .string s.left, .bool s.late] 24) HX1.out)
      clear hc h0 g0 HE1 hn
      simp only [List.length_cons, List.length_nil]
      go_wp2_with fail
      go_region_with (go_at_call 16; refine (HSM.out _ (HKA.out _).drew).mono ?_; rintro r W2 ⟨rfl, d2, k2⟩)
      all_goals go_wp2_with fail
      all_goals go_ret
      all_goals exact ⟨ret_bool HRE.out.symm, k2⟩
    · have hn1 : ¬ (es.length : Int) = 1 := by omega
      have HRE : Hid (res = false) := HRES.out.trans (one1_not e hn)
      have HKA : Hid (∀ o, Below w.heap.size w (W1.alloc o)) := fun o => HK1.out.alloc HK1.out.size o
      clear HE1 hn
      have hnb : ((es.length : Int) == 1) = false := by rw [beq_eq_false_iff_ne]; exact hn1
      go_wp2_with fail
      refine wp_region_quiet_below (by kernel_rfl) (by kernel_rfl) ?_
      repeat (first | go_big_quiet_skip | quiet_step (fail))
      refine wpQuiet_nil ?_
      intro _ hw'
      obtain ⟨⟨dq, os⟩, hw''⟩ := hw'
      subst hw''
      go_wp2_with fail
      go_ret
      exact ⟨ret_bool HRE.out.symm, (HKA.out _).trans ((below_regrown _ dq os).mono (HKA.out _).size)⟩
  · have HF := feed_bad (bare 0) (.slice none 0 0) b _ (HT.out.next HKB.out) (.inl ⟨rfl, _, _, rfl⟩) (by decide) (by decide) 2 (.inr ⟨(okS_iff _).2 ok_zero, by omega, rfl⟩)
    have HRES : Hid (tellB b e = false) := by unfold Hid tellB; rw [decide_eq_false hb, Bool.false_and]
    simp only [zeroV] at HF
    go_enter Tryd.func32, Tryd.ntmps32
    go_wp2_with fail
    refine HF.mono ?_
    rintro r W1 ⟨rfl, b1⟩
    have HKA : Hid (∀ o, Below w.heap.size w (W1.alloc o)) := fun o => (HKB.out.trans (b1.mono HKB.out.size)).alloc (HKB.out.trans (b1.mono HKB.out.size)).size o
    clear HF b1
    go_wp2_with fail
    go_region
    go_wp2_with fail
    go_ret
    exact ⟨ret_bool HRES.out.symm, (HKA.out _).drew⟩
end Prs
end Go.Proofs.YtmgmdijhiplalaaDoor
