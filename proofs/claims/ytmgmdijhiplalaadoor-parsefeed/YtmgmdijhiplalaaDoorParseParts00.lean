/- hasRightParts, where the state is another than in the middle, with a mark. -/
import Derived.Test.YtmgmdijhiplalaaDoorParseCheck
namespace Go.Proofs.YtmgmdijhiplalaaDoor
open Go.ChangeShapes Go.WideShapes Go.ChangeAt Go.RowKit
namespace Prs
set_option maxHeartbeats 8000000 in
set_option maxRecDepth 100000 in
theorem hasRightParts_00 (s : St) (p : Option Addr) (c : Nat) (w : World) (hT : Tabs w) (hI : IntsV w (.slice p s.ps.length c) s.ps) (hm : s.mid.size ≤ 9223372036854775807) (ht : s.txt.size ≤ 9223372036854775807) (h2 : ¬ s.at' = 2) (h0 : ¬ s.mark = 0) :
    Calls Tryd.prog 25 #[.agg #[.int .i64 s.at', .int .u8 s.mark, .string s.mid, .slice p s.ps.length c, .string s.txt, .string s.left, .bool s.late]] w fun e w' => e = .returned (.bool (parts s)) ∧ Below w.heap.size w w' := by
  have x0 := heap_alloc_new w (.cells #[.int .i64 s.at', .int .u8 s.mark, .string s.mid, .slice p s.ps.length c, .string s.txt, .string s.left, .bool s.late] 24)
  have kb : Below w.heap.size w (w.alloc (.cells #[.int .i64 s.at', .int .u8 s.mark, .string s.mid, .slice p s.ps.length c, .string s.txt, .string s.left, .bool s.late] 24)) := (Below.refl _ _).alloc (Nat.le_refl _) _
  obtain ⟨c0, c1, c2, c3, c4, c5, c6, cf⟩ := cells7 x0
  have b2 : (s.at' == 2) = false := by rw [beq_eq_false_iff_ne]; exact h2
  have b0 : (s.mark == 0) = false := by rw [beq_eq_false_iff_ne]; exact h0
  have HX0 : Hid ((w.alloc (.cells #[.int .i64 s.at', .int .u8 s.mark, .string s.mid, .slice p s.ps.length c, .string s.txt, .string s.left, .bool s.late] 24)).heap[w.heap.size]? = some (.cells #[.int .i64 s.at', .int .u8 s.mark, .string s.mid, .slice p s.ps.length c, .string s.txt, .string s.left, .bool s.late] 24 (0, 0))) := x0
  have HKB : Hid (Below w.heap.size w (w.alloc (.cells #[.int .i64 s.at', .int .u8 s.mark, .string s.mid, .slice p s.ps.length c, .string s.txt, .string s.left, .bool s.late] 24))) := kb
  have HT : Hid (Tabs (w.alloc (.cells #[.int .i64 s.at', .int .u8 s.mark, .string s.mid, .slice p s.ps.length c, .string s.txt, .string s.left, .bool s.late] 24))) := hT.next kb
  have HI : Hid (∀ W, Below w.heap.size w W → IntsV W (.slice p s.ps.length c) s.ps) := fun W hb => hI.next hb
  have HPA : Hid (parts s = (!(decide (s.at' = 2) && decide (s.mid.size = 0)) && ((decide (s.left.size = 0) || !full s.left) && ((decide (s.mark = 0) || isMark s.mark) && (decide (s.mid.size ≤ 2) && (allB isMid s.mid && (decide (s.ps.length ≤ 16) && (!anyNo s.ps && (decide (s.txt.size ≤ 64) && allB high s.txt))))))))) := rfl
  have H2 : Hid (¬ s.at' = 2) := h2
  have H0 : Hid (¬ s.mark = 0) := h0
  have HMT : Hid (s.mid.size ≤ 9223372036854775807 ∧ s.txt.size ≤ 9223372036854775807) := ⟨hm, ht⟩
  generalize parts s = res at HPA ⊢
  clear cf x0 kb hT hI h2 h0 hm ht
  go_enter Tryd.func25, Tryd.ntmps25
  go_wp2_with (first
    | (go_at_call 29; refine (fullRune_any s.left _ HT.out).mono ?_; rintro e W1 ⟨rfl, b1⟩; obtain ⟨d0, d1, d2, d3, d4, d5, d6, df⟩ := cells7 (stay HX0.out b1); have HK1 : Hid (Below w.heap.size w W1) := HKB.out.trans (b1.mono HKB.out.size); clear b1 df)
    | (go_at_call 50; refine (isMark_any _ _).mono ?_; rintro e W2 ⟨rfl, e2⟩; rw [e2]; clear e2 W2)
    | (go_at_call 53; refine (containsFunc_any s.ps _ _ (HI.out _ (by first | exact HK1.out | exact HKB.out)) (by omega)).mono ?_; rintro e W2 ⟨rfl, e2⟩; rw [e2]; clear e2 W2)
    | (go_at_call_of 51 s.mid; refine (every_mid _ _ HMT.out.1).mono ?_; rintro e W2 ⟨rfl, e2⟩; rw [e2]; clear e2 W2)
    | (go_at_call_of 51 s.txt; refine (every_high _ _ HMT.out.2).mono ?_; rintro e W2 ⟨rfl, e2⟩; rw [e2]; clear e2 W2))
  all_goals (go_ret; refine ⟨ret_bool ?_, by first | exact HK1.out | exact HKB.out⟩)
  all_goals (have q2 := H2.out; have q0 := H0.out; rw [HPA.out]; clear HPA H2 H0 HT HI HMT HX0 HKB b2 b0 c0 c1 c2 c3 c4 c5 c6; (try simp only [tl_iff, le2, le16, le64, lt2, lt16, lt64] at *); simp only [*]; simp)
end Prs
end Go.Proofs.YtmgmdijhiplalaaDoor
