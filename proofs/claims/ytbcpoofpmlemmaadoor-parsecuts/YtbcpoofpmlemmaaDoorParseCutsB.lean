/- The law ParseCuts, whole: also where a state or a text is refused. -/
import Derived.Test.YtbcpoofpmlemmaaDoorParseCutsL
namespace Go.Proofs.YtbcpoofpmlemmaaDoor
open Go.ChangeShapes Go.WideShapes Go.ChangeAt Go.RowKit
namespace Prs
set_option maxHeartbeats 8000000 in
set_option maxRecDepth 100000 in
theorem parseCuts_bad (s : St) (pp : Option Addr) (pc : Nat) (b : ByteArray) (at' : Int) (w : World) (hT : Tabs w) (hI : IntsV w (.slice pp s.ps.length pc) s.ps) (hm : s.mid.size ≤ 9223372036854775807) (ht : s.txt.size ≤ 9223372036854775807) (hb : b.size ≤ 9223372036854775807) (n : Int) (hn : (okS s = false ∧ n = 5) ∨ (okS s = true ∧ 4000 < b.size ∧ n = 2)) :
    Calls Tryd.prog 5 #[.agg #[.int .i64 s.at', .int .u8 s.mark, .string s.mid, .slice pp s.ps.length pc, .string s.txt, .string s.left, .bool s.late], .string b, .int .i64 at'] w fun e w' => e = .returned (.bool true) ∧ Below w.heap.size w w' := by
  have x0 := heap_alloc_new w (.cells #[.int .i64 s.at', .int .u8 s.mark, .string s.mid, .slice pp s.ps.length pc, .string s.txt, .string s.left, .bool s.late] 24)
  have kb : Below w.heap.size w (w.alloc (.cells #[.int .i64 s.at', .int .u8 s.mark, .string s.mid, .slice pp s.ps.length pc, .string s.txt, .string s.left, .bool s.late] 24)) := (Below.refl _ _).alloc (Nat.le_refl _) _
  have HT : Hid (Tabs w) := hT
  have HI : Hid (IntsV w (.slice pp s.ps.length pc) s.ps) := hI
  have HNN : Hid ((okS s = false ∧ n = 5) ∨ (okS s = true ∧ 4000 < b.size ∧ n = 2)) := hn
  have hnz : ¬ n = 0 := by
    rcases hn with h | h
    · omega
    · omega
  have HMT : Hid (s.mid.size ≤ 9223372036854775807 ∧ s.txt.size ≤ 9223372036854775807) := ⟨hm, ht⟩
  have HX0 : Hid _ := x0
  have HKB : Hid _ := kb
  clear x0 kb hT hI hn hm ht
  go_enter Tryd.func5, Tryd.ntmps5
  go_upto_region 1 with fail
  go_cut [23] from 16 to 23 (fun s23 wx => (∃ c : Bool, s23 = .bool c ∧ (c = false → 0 ≤ at' ∧ at' ≤ b.size)) ∧ wx = w.alloc (.cells #[.int .i64 s.at', .int .u8 s.mark, .string s.mid, .slice pp s.ps.length pc, .string s.txt, .string s.left, .bool s.late] 24))
  case first =>
    go_wp2_with fail
    all_goals go_meet
    all_goals refine ⟨⟨_, rfl, fun h => ?_⟩, rfl⟩
    all_goals (simp at h <;> omega)
  case rest =>
    obtain ⟨⟨c, rfl, hc⟩, hwx⟩ := hcut
    subst hwx
    go_upto_if 23 with fail
    go_cut [2] from 24 to 26 (fun s2 wx => (∃ k : Nat, s2 = .int .i64 (k : Int) ∧ k ≤ b.size) ∧ wx = w.alloc (.cells #[.int .i64 s.at', .int .u8 s.mark, .string s.mid, .slice pp s.ps.length pc, .string s.txt, .string s.left, .bool s.late] 24))
    case first =>
      cases c with
      | true =>
        go_wp2_with fail
        all_goals go_meet
        exact ⟨⟨b.size / 2, by rw [show ((b.size : Int) / 2) = ((b.size / 2 : Nat) : Int) by omega], by omega⟩, rfl⟩
      | false =>
        obtain ⟨h1, h2⟩ := hc rfl
        go_wp2_with fail
        all_goals go_meet
        exact ⟨⟨at'.toNat, by rw [Int.toNat_of_nonneg h1], by omega⟩, rfl⟩
    case rest =>
      obtain ⟨⟨k, rfl, hk⟩, hwx⟩ := hcut
      subst hwx
      clear hc
      obtain ⟨c0, c1, c2, c3, c4, c5, c6, cf⟩ := cells7 HX0.out
      have HF1 := feed_bad s _ b _ (HT.out.next HKB.out) (HI.out.next HKB.out) HMT.out.1 HMT.out.2 n HNN.out
      simp only [zeroV] at HF1
      clear cf HNN
      go_wp2_with fail
      refine HF1.mono ?_
      rintro e W1 ⟨rfl, b1⟩
      have HKW : Hid (∀ o, Below w.heap.size w (W1.alloc o)) := fun o => alloc_next (HKB.out.trans (b1.mono HKB.out.size)) o
      clear b1 HF1 c0 c1 c2 c3 c4 c5 c6
      go_wp2_with fail
      refine (readIn_any _ (HT.out.next (HKW.out _))).mono ?_
      rintro e W2 ⟨rfl, b2⟩
      have HK2 : Hid _ := (HKW.out _).trans (b2.mono (HKW.out _).size)
      clear b2 HKW
      go_wp2_with fail
      refine (readIn_any _ (HT.out.next HK2.out)).mono ?_
      rintro e W3 ⟨rfl, b3⟩
      go_wp2_with fail
      go_ret
      exact ⟨rfl, HK2.out.trans (b3.mono HK2.out.size)⟩
theorem parseCuts_any (s : St) (pp : Option Addr) (pc : Nat) (b : ByteArray) (at' : Int) (w : World) (hT : Tabs w) (hI : IntsV w (.slice pp s.ps.length pc) s.ps) (hm : s.mid.size ≤ 9223372036854775807) (ht : s.txt.size ≤ 9223372036854775807) (hb : b.size ≤ 9223372036854775807) :
    Calls Tryd.prog 5 #[.agg #[.int .i64 s.at', .int .u8 s.mark, .string s.mid, .slice pp s.ps.length pc, .string s.txt, .string s.left, .bool s.late], .string b, .int .i64 at'] w fun e w' => e = .returned (.bool true) ∧ Below w.heap.size w w' := by
  cases ho : okS s with
  | false => exact parseCuts_bad s pp pc b at' w hT hI hm ht hb 5 (.inl ⟨ho, rfl⟩)
  | true =>
    by_cases h4 : b.size ≤ 4000
    · exact parseCuts_good s pp pc b at' w hT hI ((okS_iff s).1 ho) h4
    · exact parseCuts_bad s pp pc b at' w hT hI hm ht hb 2 (.inr ⟨ho, by omega, rfl⟩)
end Prs
end Go.Proofs.YtbcpoofpmlemmaaDoor
