/- Check, whole. -/
import Derived.Test.YtmgmdijhiplalaaDoorParseParts00
import Derived.Test.YtmgmdijhiplalaaDoorParseParts01
import Derived.Test.YtmgmdijhiplalaaDoorParseParts10
import Derived.Test.YtmgmdijhiplalaaDoorParseParts11
namespace Go.Proofs.YtmgmdijhiplalaaDoor
open Go.ChangeShapes Go.WideShapes Go.ChangeAt Go.RowKit
namespace Prs
theorem hasRightParts_any (s : St) (p : Option Addr) (c : Nat) (w : World) (hT : Tabs w) (hI : IntsV w (.slice p s.ps.length c) s.ps) (hm : s.mid.size ≤ 9223372036854775807) (ht : s.txt.size ≤ 9223372036854775807) :
    Calls Tryd.prog 25 #[.agg #[.int .i64 s.at', .int .u8 s.mark, .string s.mid, .slice p s.ps.length c, .string s.txt, .string s.left, .bool s.late]] w fun e w' => e = .returned (.bool (parts s)) ∧ Below w.heap.size w w' := by
  by_cases h2 : s.at' = 2
  · by_cases h0 : s.mark = 0
    · exact hasRightParts_11 s p c w hT hI hm ht h2 h0
    · exact hasRightParts_10 s p c w hT hI hm ht h2 h0
  · by_cases h0 : s.mark = 0
    · exact hasRightParts_01 s p c w hT hI hm ht h2 h0
    · exact hasRightParts_00 s p c w hT hI hm ht h2 h0
def bareB (mk : Int) (mid txt left : ByteArray) (n : Nat) (late : Bool) : Bool := decide (mk = 0) && (decide (mid.size = 0) && (decide (n = 0) && (decide (txt.size = 0) && (decide (left.size = 0) && !late))))
theorem isBare_B (a mk : Int) (mid txt left : ByteArray) (p : Option Addr) (n c : Nat) (late : Bool) (w : World) :
    Calls Tryd.prog 24 #[.agg #[.int .i64 a, .int .u8 mk, .string mid, .slice p n c, .string txt, .string left, .bool late]] w fun e w' => e = .returned (.bool (bareB mk mid txt left n late)) ∧ Below w.heap.size w w' := isBare_any a mk mid txt left p n c late w
theorem IntsV.slice {w : World} {v : Value} {l : List Int} (h : IntsV w v l) : ∃ p c, v = .slice p l.length c := by
  rcases h with ⟨rfl, p0, n0, rfl⟩ | ⟨b, o, c, rfl, hc⟩
  · exact ⟨_, _, rfl⟩
  · exact ⟨_, _, rfl⟩
set_option maxHeartbeats 8000000 in
set_option maxRecDepth 100000 in
theorem check_any (s : St) (pv : Value) (w : World) (hT : Tabs w) (hI : IntsV w pv s.ps) (hm : s.mid.size ≤ 9223372036854775807) (ht : s.txt.size ≤ 9223372036854775807) :
    Calls Tryd.prog 9 #[.agg #[.int .i64 s.at', .int .u8 s.mark, .string s.mid, pv, .string s.txt, .string s.left, .bool s.late]] w fun e w' => e = .returned (.bool (okS s)) ∧ Below w.heap.size w w' := by
  obtain ⟨p, c, rfl⟩ := hI.slice
  have z0 := heap_alloc_new w (.cells #[.int .i64 s.at', .int .u8 s.mark, .string s.mid, .slice p s.ps.length c, .string s.txt, .string s.left, .bool s.late] 24)
  obtain ⟨a0, a1, a2, a3, a4, a5, a6, af⟩ := cells7 z0
  have HZ : Hid (∀ o, ((w.alloc (.cells #[.int .i64 s.at', .int .u8 s.mark, .string s.mid, .slice p s.ps.length c, .string s.txt, .string s.left, .bool s.late] 24)).alloc o).heap[w.heap.size]? = some (.cells #[.int .i64 s.at', .int .u8 s.mark, .string s.mid, .slice p s.ps.length c, .string s.txt, .string s.left, .bool s.late] 24 (0, 0))) := fun o => heap_box _ _ z0
  have HKK : Hid (∀ o, Below w.heap.size w ((w.alloc (.cells #[.int .i64 s.at', .int .u8 s.mark, .string s.mid, .slice p s.ps.length c, .string s.txt, .string s.left, .bool s.late] 24)).alloc o)) := fun o => below_two w _ _
  clear z0 af
  have HT : Hid (Tabs w) := hT
  have HI : Hid (IntsV w (.slice p s.ps.length c) s.ps) := hI
  have HMT : Hid (s.mid.size ≤ 9223372036854775807 ∧ s.txt.size ≤ 9223372036854775807) := ⟨hm, ht⟩
  have HOK : Hid (okS s = ((decide (0 ≤ s.at') && decide (s.at' ≤ 5)) && (bareB (restOf s).mark (restOf s).mid (restOf s).txt (restOf s).left (restOf s).ps.length (restOf s).late && parts s))) := rfl
  generalize okS s = res at HOK ⊢
  clear hT hI hm ht
  go_enter Tryd.func9, Tryd.ntmps9
  go_wp2_with (first
    | (go_at_call 24
       refine (isBare_B _ _ _ _ _ _ _ _ _ _).mono ?_
       rintro e W1 ⟨rfl, b1⟩
       obtain ⟨d0, d1, d2, d3, d4, d5, d6, df⟩ := cells7 (stay (HZ.out _) b1)
       have HK1 : Hid (Below w.heap.size w W1) := (HKK.out _).trans (b1.mono (HKK.out _).size)
       clear b1 df)
    | (go_at_call 25
       refine (hasRightParts_any s p c _ (HT.out.next HK1.out) (HI.out.next HK1.out) HMT.out.1 HMT.out.2).mono ?_
       rintro e W2 ⟨rfl, b2⟩
       have HK2 : Hid (Below w.heap.size w W2) := HK1.out.trans (b2.mono HK1.out.size)
       clear b2))
  all_goals (go_ret; refine ⟨ret_bool ?_, by first | exact HK2.out | exact HK1.out | exact HKK.out _⟩)
  all_goals (rw [HOK.out]; clear HOK HZ HKK HT HI HMT a0 a1 a2 a3 a4 a5 a6)
  all_goals (try clear d0 d1 d2 d3 d4 d5 d6 HK1)
  all_goals (simp only [beq_iff_eq, beq_eq_false_iff_ne, ne_eq] at *)
  all_goals first
    | (simp only [restOf, nt, *]; simp [*]; done)
    | (rw [show (decide (0 ≤ s.at') && decide (s.at' ≤ 5)) = false from by rw [← Bool.not_eq_true, Bool.and_eq_true, decide_eq_true_eq, decide_eq_true_eq]; omega]; rfl)
end Prs
end Go.Proofs.YtmgmdijhiplalaaDoor
