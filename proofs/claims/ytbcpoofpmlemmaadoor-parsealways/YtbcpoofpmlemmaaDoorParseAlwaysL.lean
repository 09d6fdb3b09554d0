/- The law ParseAlways. -/
import Derived.Test.YtbcpoofpmlemmaaDoorParseRead
namespace Go.Proofs.YtbcpoofpmlemmaaDoor
open Go.ChangeShapes Go.WideShapes Go.ChangeAt Go.RowKit
namespace Prs
set_option maxHeartbeats 8000000 in
set_option maxRecDepth 100000 in
theorem parseAlways_any (b : ByteArray) (w : World) (hT : Tabs w) :
    Calls Tryd.prog 7 #[.string b] w fun e w' => e = .returned (.bool true) ∧ Below w.heap.size w w' := by
  by_cases hb : b.size ≤ 4000
  · have HF := feed_right (bare 0) (.slice none 0 0) b w hT (.inl ⟨rfl, rfl⟩) ok_zero hb
    have hok := feed_okS b.data.toList (bare 0) ok_zero
    generalize (feed (bare 0) b.data.toList).1 = s at HF hok
    generalize (feed (bare 0) b.data.toList).2 = es at HF
    have HT : Hid (Tabs w) := hT
    have HOK : Hid (Ok s) := hok
    clear hT hok
    simp only [stV] at HF
    go_enter Tryd.func7, Tryd.ntmps7
    go_wp2_with fail
    refine HF.mono ?_
    rintro e W1 ⟨pv, tv, rfl, hI, hE, b1⟩
    obtain ⟨pp, pc, rfl⟩ := hI.slice
    obtain ⟨ta, tc, rfl⟩ := hE.slice
    clear hE HF
    have n1 := heap_alloc_new W1 (.cells #[.int .i64 s.at', .int .u8 s.mark, .string s.mid, .slice pp s.ps.length pc, .string s.txt, .string s.left, .bool s.late] 24)
    have kA : Below W1.heap.size W1 (W1.alloc (.cells #[.int .i64 s.at', .int .u8 s.mark, .string s.mid, .slice pp s.ps.length pc, .string s.txt, .string s.left, .bool s.late] 24)) := (Below.refl _ _).alloc (Nat.le_refl _) _
    have kw := b1.trans (kA.mono b1.size)
    have HI2 : Hid (IntsV (W1.alloc (.cells #[.int .i64 s.at', .int .u8 s.mark, .string s.mid, .slice pp s.ps.length pc, .string s.txt, .string s.left, .bool s.late] 24)) (.slice pp s.ps.length pc) s.ps) := hI.next kA
    have HN : Hid _ := n1
    have HKW : Hid _ := kw
    clear hI kA kw n1 b1
    go_wp2_with fail
    refine (readIn_any _ (HT.out.next HKW.out)).mono ?_
    rintro e W2 ⟨rfl, b2⟩
    obtain ⟨c0, c1, c2, c3, c4, c5, c6, cf⟩ := cells7 (stay HN.out b2)
    have HK2 : Hid _ := HKW.out.trans (b2.mono HKW.out.size)
    have HF2 := feed_right s (.slice pp s.ps.length pc) ⟨#[24, 24, 97]⟩ W2 (HT.out.next HK2.out) (HI2.out.next b2) HOK.out (by decide)
    obtain ⟨es2, h2, hes⟩ := always s
    have hleft := left_small HOK.out.fl
    have hes2 : es2.length ≤ 1000 := by omega
    clear hes hleft
    rw [show (ByteArray.data ⟨#[24, 24, 97]⟩).toList = [24, 24, 97] from rfl, h2] at HF2
    simp only [stV] at HF2
    clear cf b2 HN HKW
    go_wp2_with fail
    refine HF2.mono ?_
    rintro e W3 ⟨qv, uv, rfl, hQ, hE, b3⟩
    clear HF2 c0 c1 c2 c3 c4 c5 c6 h2
    obtain ⟨qp, qc, rfl⟩ := hQ.slice
    rcases hE with ⟨hE, -⟩ | ⟨g, o, c, rfl, hc⟩
    · exact absurd hE (by simp)
    obtain ⟨q0, h0⟩ := hc es2.length (by simp)
    rw [show (es2 ++ [evP 97])[es2.length]'(by simp) = evP 97 by simp] at h0
    obtain ⟨qa, qn, rfl⟩ := h0.ps.slice
    clear hc
    have HK3 : Hid _ := HK2.out.trans (b3.mono HK2.out.size)
    have HQ : Hid (IntsV W3 (.slice qp 0 qc) []) := hQ
    have H0 : Hid (EvAt W3 g (o + es2.length * 7) (evP 97) (.slice qa (evP 97).ps.length qn)) := h0
    clear hQ h0 b3
    have hlen : (es2 ++ [evP 97]).length = es2.length + 1 := by simp
    simp only [bare, nt, List.length_nil, hlen]
    go_wp2_with fail
    have kA : Below W3.heap.size W3 (W3.alloc (.cells #[.int .i64 0, .int .u8 0, .string ⟨#[]⟩, .slice qp 0 qc, .string ⟨#[]⟩, .string ⟨#[]⟩, .bool false] 24)) := (Below.refl _ _).alloc (Nat.le_refl _) _
    refine (sameState_refl (bare 0) _ _ _ (HQ.out.next kA) (.inl ⟨rfl, rfl⟩) (by decide)).mono ?_
    rintro e W4 ⟨rfl, b4⟩
    have k4 := kA.trans (b4.mono kA.size)
    have g0 := H0.out.next k4
    have z0 := g0.c0
    have z1 := g0.c1
    have z2 := g0.c2
    have z3 := g0.c3
    have z4 := g0.c4
    have z5 := g0.c5
    have z6 := g0.c6
    have HG : Hid (EvAt W4 g (o + es2.length * 7) (evP 97) (.slice qa (evP 97).ps.length qn)) := g0
    have HK4 : Hid _ := HK3.out.trans (k4.mono HK3.out.size)
    clear kA b4 k4 g0 HQ H0
    simp only [evP, nt, List.length_nil] at z0 z1 z2 z3 z4 z5 z6
    go_wp2_with fail
    refine (sameEvent_any (evP 97) (evP 97) _ _ _ HG.out.ps (.inl ⟨rfl, rfl⟩) (by decide) (by decide)).mono ?_
    rintro e W5 ⟨rfl, b5⟩
    rw [sameE_refl]
    go_wp2_with fail
    go_ret
    exact ⟨rfl, HK4.out.trans (b5.mono HK4.out.size)⟩
  · have HF := feed_bad (bare 0) (.slice none 0 0) b w hT (.inl ⟨rfl, rfl⟩) (by decide) (by decide) 2 (.inr ⟨(okS_iff _).2 ok_zero, by omega, rfl⟩)
    have HT : Hid (Tabs w) := hT
    clear hT
    simp only [zeroV] at HF
    go_enter Tryd.func7, Tryd.ntmps7
    go_wp2_with fail
    refine HF.mono ?_
    rintro e W1 ⟨rfl, b1⟩
    have HKW : Hid (∀ o, Below w.heap.size w (W1.alloc o)) := fun o => b1.alloc b1.size o
    clear b1 HF
    go_wp2_with fail
    refine (readIn_any _ (HT.out.next (HKW.out _))).mono ?_
    rintro e W2 ⟨rfl, b2⟩
    have HK2 : Hid _ := (HKW.out _).trans (b2.mono (HKW.out _).size)
    clear b2 HKW
    go_wp2_with fail
    refine (readIn_any _ (HT.out.next HK2.out)).mono ?_
    rintro e W3 ⟨rfl, b3⟩
    go_wp2_with fail
    go_ret
    exact ⟨rfl, HK2.out.trans (b3.mono HK2.out.size)⟩
end Prs
end Go.Proofs.YtbcpoofpmlemmaaDoor
