/- The law ParseFeed. -/
import Derived.Test.YtmgmdijhiplalaaDoorParseCk2
import Derived.Test.YtmgmdijhiplalaaDoorParseCk3
import Derived.Test.YtmgmdijhiplalaaDoorParseRb
namespace Go.Proofs.YtmgmdijhiplalaaDoor
open Go.ChangeShapes Go.WideShapes Go.ChangeAt Go.RowKit Go.Sort
namespace Prs
theorem checkState_any (s : St) (pa : Option Addr) (pc : Nat) (w : World) (hT : Tabs w) (hI : IntsV w (.slice pa s.ps.length pc) s.ps) (hmk : 0 ≤ s.mark ∧ s.mark ≤ 255) (hm : s.mid.size ≤ 9223372036854775807) (hl : s.left.size ≤ 9223372036854775807) (hp : s.ps.length ≤ 9223372036854775807) (ht : s.txt.size ≤ 9223372036854775807) :
    Calls Tryd.prog 7 #[.agg #[.int .i64 s.at', .int .u8 s.mark, .string s.mid, .slice pa s.ps.length pc, .string s.txt, .string s.left, .bool s.late]] w fun e w' => e = .returned (.bool (okS s)) ∧ Below w.heap.size w w' := by
  rw [← chk_ok]
  obtain ⟨a, mark, mid, ps, txt, left, late⟩ := s
  by_cases a0 : a = 0
  · subst a0
    exact check_zero mark mid ps txt left late pa pc w hm hT
  by_cases a1 : a = 1
  · subst a1
    exact check_one mark mid ps txt left late pa pc w hm
  by_cases a2 : a = 2
  · subst a2
    exact check_two mark mid ps txt left late pa pc w hm
  by_cases a3 : a = 3
  · subst a3
    exact check_three mark mid ps txt left late pa pc w hm hI hmk hp
  by_cases a4 : a = 4
  · subst a4
    exact check_four mark mid ps txt left late pa pc w hm ht
  by_cases a5 : a = 5
  · subst a5
    exact check_five mark mid ps txt left late pa pc w hm
  · exact check_other mark mid ps txt left late pa pc w hm a (by omega)
set_option maxHeartbeats 8000000 in
set_option maxRecDepth 100000 in
theorem parseFeed_any (s : St) (pp : Option Addr) (pc : Nat) (b : ByteArray) (w : World) (hT : Tabs w) (hI : IntsV w (.slice pp s.ps.length pc) s.ps) (hmk : 0 ≤ s.mark ∧ s.mark ≤ 255) (hm : s.mid.size ≤ 9223372036854775807) (hl : s.left.size ≤ 9223372036854775807) (hp : s.ps.length * 8 ≤ 140737488355328) (ht : s.txt.size ≤ 9223372036854775807) (hb : b.size ≤ 9223372036854775807) :
    Calls Tryd.prog 3 #[.agg #[.int .i64 s.at', .int .u8 s.mark, .string s.mid, .slice pp s.ps.length pc, .string s.txt, .string s.left, .bool s.late], .string b] w fun e w' => e = .returned (.bool true) ∧ Below w.heap.size w w' := by
  have x0 : ((w.alloc (.cells #[.int .i64 s.at', .int .u8 s.mark, .string s.mid, .slice pp s.ps.length pc, .string s.txt, .string s.left, .bool s.late] 24)).alloc (.cells #[.int .i64 s.at', .int .u8 s.mark, .string s.mid, .slice pp s.ps.length pc, .string s.txt, .string s.left, .bool s.late] 24)).heap[w.heap.size]? = some (.cells #[.int .i64 s.at', .int .u8 s.mark, .string s.mid, .slice pp s.ps.length pc, .string s.txt, .string s.left, .bool s.late] 24 (0, 0)) := heap_box _ _ (heap_alloc_new w _)
  have x1 := new_two w (.cells #[.int .i64 s.at', .int .u8 s.mark, .string s.mid, .slice pp s.ps.length pc, .string s.txt, .string s.left, .bool s.late] 24) (.cells #[.int .i64 s.at', .int .u8 s.mark, .string s.mid, .slice pp s.ps.length pc, .string s.txt, .string s.left, .bool s.late] 24)
  have kk : Below w.heap.size w ((w.alloc (.cells #[.int .i64 s.at', .int .u8 s.mark, .string s.mid, .slice pp s.ps.length pc, .string s.txt, .string s.left, .bool s.late] 24)).alloc (.cells #[.int .i64 s.at', .int .u8 s.mark, .string s.mid, .slice pp s.ps.length pc, .string s.txt, .string s.left, .bool s.late] 24)) := below_two w _ _
  obtain ⟨W0', hW0⟩ : ∃ W0', (w.alloc (.cells #[.int .i64 s.at', .int .u8 s.mark, .string s.mid, .slice pp s.ps.length pc, .string s.txt, .string s.left, .bool s.late] 24)).alloc (.cells #[.int .i64 s.at', .int .u8 s.mark, .string s.mid, .slice pp s.ps.length pc, .string s.txt, .string s.left, .bool s.late] 24) = W0' := ⟨_, rfl⟩
  rw [hW0] at x0 x1 kk
  have HW0 : Hid (_ = W0') := hW0
  have HT : Hid (Tabs w) := hT
  have HI : Hid (IntsV w (.slice pp s.ps.length pc) s.ps) := hI
  have HL : Hid (s.mid.size ≤ 9223372036854775807 ∧ s.left.size ≤ 9223372036854775807 ∧ s.ps.length * 8 ≤ 140737488355328 ∧ s.txt.size ≤ 9223372036854775807 ∧ (0 ≤ s.mark ∧ s.mark ≤ 255)) := ⟨hm, hl, hp, ht, hmk⟩
  have HX0 : Hid (W0'.heap[w.heap.size]? = _) := x0
  have HX1 : Hid (W0'.heap[w.heap.size + 1]? = _) := x1
  have HKK : Hid (Below w.heap.size w W0') := kk
  obtain ⟨c0, c1, c2, c3, c4, c5, c6, cf⟩ := cells7 x0
  have HCL := clone_ints s.ps _ W0' (HI.out.next HKK.out) HL.out.2.2.1
  clear hW0 hT hI hm hl hp ht hmk x0 x1 kk cf
  go_enter Tryd.func3, Tryd.ntmps3
  go_upto_region 2 with fail
  rw [HW0.out]
  go_wp2_with fail
  refine HCL.mono ?_
  rintro e W1 ⟨qa, qc, rfl, hown, b1⟩
  have HX01 : Hid (W1.heap[w.heap.size]? = _) := stay HX0.out b1
  have HX11 : Hid (W1.heap[w.heap.size + 1]? = _) := stay HX1.out b1
  have HK1 : Hid (Below w.heap.size w W1) := HKK.out.trans (b1.mono HKK.out.size)
  have HOW : Hid (W1.ownsRow W0'.heap.size 3 1 (.slice qa s.ps.length qc) s.ps.length (ints s.ps)) := hown
  obtain ⟨d0, d1, d2, d3, d4, d5, d6, df⟩ := cells7 HX11.out
  have df3 := df 3
  have y0 : (W1.setCell ⟨w.heap.size + 1, 3, none⟩ (.slice qa s.ps.length qc)).heap[w.heap.size]? = some (.cells #[.int .i64 s.at', .int .u8 s.mark, .string s.mid, .slice pp s.ps.length pc, .string s.txt, .string s.left, .bool s.late] 24 (0, 0)) := by rw [heap_setCell_other _ _ _ _ (by show w.heap.size ≠ w.heap.size + 1; omega)]; exact HX01.out
  have y1 : (W1.setCell ⟨w.heap.size + 1, 3, none⟩ (.slice qa s.ps.length qc)).heap[w.heap.size + 1]? = some (.cells #[.int .i64 s.at', .int .u8 s.mark, .string s.mid, .slice qa s.ps.length qc, .string s.txt, .string s.left, .bool s.late] 24 (0, 0)) := heap_setCell_same W1 (w.heap.size + 1) 3 _ _ _ HX11.out
  have yk : Below w.heap.size w (W1.setCell ⟨w.heap.size + 1, 3, none⟩ (.slice qa s.ps.length qc)) := HK1.out.setCell (by show w.heap.size ≤ w.heap.size + 1; omega) _
  have yi : IntsV (W1.setCell ⟨w.heap.size + 1, 3, none⟩ (.slice qa s.ps.length qc)) (.slice qa s.ps.length qc) s.ps := own_intsV (row_same HOW.out fun g hg => by
    obtain ⟨A, hA⟩ := row_block HOW.out hg
    rw [heap_setCell_other _ _ _ _ (blk_type hA HX11.out (by decide))])
  obtain ⟨W2, hW2⟩ : ∃ W2, W1.setCell ⟨w.heap.size + 1, 3, none⟩ (.slice qa s.ps.length qc) = W2 := ⟨_, rfl⟩
  rw [hW2] at y0 y1 yk yi
  have HW2 : Hid (_ = W2) := hW2
  have HY0 : Hid (W2.heap[w.heap.size]? = _) := y0
  have HY1 : Hid (W2.heap[w.heap.size + 1]? = _) := y1
  have HK2 : Hid (Below w.heap.size w W2) := yk
  have HI2 : Hid (IntsV W2 (.slice qa s.ps.length qc) s.ps) := yi
  clear HCL b1 hown df hW2 y0 y1 yk yi c0 c1 c2 c3 c4 c5 c6
  go_upto_region 3 with fail
  rw [HW2.out]
  clear d0 d1 d2 d3 d4 d5 d6 df3 HX01 HX11 HK1 HOW HX0 HX1 HKK HW0 HW2
  obtain ⟨c0, c1, c2, c3, c4, c5, c6, cf⟩ := cells7 HY1.out
  have HCK : Hid (∀ W, Below w.heap.size w W → Calls Tryd.prog 9 #[.agg #[.int .i64 s.at', .int .u8 s.mark, .string s.mid, .slice pp s.ps.length pc, .string s.txt, .string s.left, .bool s.late]] W fun e w' => e = .returned (.bool (okS s)) ∧ Below W.heap.size W w') := fun W hW => check_any s _ W (HT.out.next hW) (HI.out.next hW) HL.out.1 HL.out.2.2.2.1
  have HCS : Hid (∀ W, Below w.heap.size w W → Calls Tryd.prog 7 #[.agg #[.int .i64 s.at', .int .u8 s.mark, .string s.mid, .slice pp s.ps.length pc, .string s.txt, .string s.left, .bool s.late]] W fun e w' => e = .returned (.bool (okS s)) ∧ Below W.heap.size W w') := fun W hW => checkState_any s pp pc W (HT.out.next hW) (HI.out.next hW) HL.out.2.2.2.2 HL.out.1 HL.out.2.1 (by have := HL.out.2.2.1; omega) HL.out.2.2.2.1
  have HSM : Hid (∀ W, Below W2.heap.size W2 W → Calls Tryd.prog 10 #[.agg #[.int .i64 s.at', .int .u8 s.mark, .string s.mid, .slice qa s.ps.length qc, .string s.txt, .string s.left, .bool s.late], .agg #[.int .i64 s.at', .int .u8 s.mark, .string s.mid, .slice pp s.ps.length pc, .string s.txt, .string s.left, .bool s.late]] W fun e w' => e = .returned (.bool true) ∧ Below W.heap.size W w') := fun W hW => sameState_refl s _ _ W (HI2.out.next hW) (HI.out.next (HK2.out.trans (hW.mono HK2.out.size))) (by have := HL.out.2.2.1; omega)
  have HRI : Hid (∀ W, Below w.heap.size w W → Calls Tryd.prog 8 #[] W fun e w' => e = .returned (.bool true) ∧ Below W.heap.size W w') := fun W hW => readIn_any W (HT.out.next hW)
  have HSZ : Hid (∀ W, Calls Tryd.prog 10 #[.agg #[.int .i64 0, .int .u8 0, .string ⟨#[]⟩, .slice none 0 0, .string ⟨#[]⟩, .string ⟨#[]⟩, .bool false], .agg #[.int .i64 0, .int .u8 0, .string ⟨#[]⟩, .slice none 0 0, .string ⟨#[]⟩, .string ⟨#[]⟩, .bool false]] W fun e w' => e = .returned (.bool true) ∧ Below W.heap.size W w') := fun W => sameState_refl (bare 0) _ _ W (.inl ⟨rfl, _, _, rfl⟩) (.inl ⟨rfl, _, _, rfl⟩) (by decide)
  cases hok : okS s with
  | false =>
    have HF := feed_bad s (.slice qa s.ps.length qc) b W2 (HT.out.next HK2.out) HI2.out HL.out.1 HL.out.2.2.2.1 5 (.inl ⟨hok, rfl⟩)
    simp only [zeroV] at HF
    go_wp2_with fail
    refine HF.mono ?_
    rintro e W3 ⟨rfl, b3⟩
    clear HF
    clear c0 c1 c2 c3 c4 c5 c6
    have HN3 : Hid ((W3.alloc (.cells #[.int .i64 0, .int .u8 0, .string ⟨#[]⟩, .slice none 0 0, .string ⟨#[]⟩, .string ⟨#[]⟩, .bool false] 24)).heap[W3.heap.size]? = some (.cells #[.int .i64 0, .int .u8 0, .string ⟨#[]⟩, .slice none 0 0, .string ⟨#[]⟩, .string ⟨#[]⟩, .bool false] 24 (0, 0))) := heap_alloc_new W3 _
    have HB3 : Hid (Below W2.heap.size W2 (W3.alloc (.cells #[.int .i64 0, .int .u8 0, .string ⟨#[]⟩, .slice none 0 0, .string ⟨#[]⟩, .string ⟨#[]⟩, .bool false] 24))) := b3.alloc b3.size _
    have HB3w : Hid (Below w.heap.size w (W3.alloc (.cells #[.int .i64 0, .int .u8 0, .string ⟨#[]⟩, .slice none 0 0, .string ⟨#[]⟩, .string ⟨#[]⟩, .bool false] 24))) := HK2.out.trans (HB3.out.mono HK2.out.size)
    obtain ⟨c0, c1, c2, c3, c4, c5, c6, cf⟩ := cells7 (stay HY0.out HB3.out)
    clear b3 cf
    go_wp2_with fail
    refine (HCS.out _ HB3w.out).mono ?_
    rintro e W4 ⟨rfl, b4⟩
    have HB4 : Hid (Below W2.heap.size W2 W4) := HB3.out.trans (b4.mono HB3.out.size)
    have HB4w : Hid (Below w.heap.size w W4) := HK2.out.trans (HB4.out.mono HK2.out.size)
    have HN4 : Hid (W4.heap[W3.heap.size]? = _) := stay HN3.out b4
    clear c0 c1 c2 c3 c4 c5 c6 b4
    rw [hok]
    go_wp2_with fail
    refine (HRI.out _ HB4w.out).mono ?_
    rintro e W5 ⟨rfl, b5⟩
    have HB5 : Hid (Below W2.heap.size W2 W5) := HB4.out.trans (b5.mono HB4.out.size)
    have HB5w : Hid (Below w.heap.size w W5) := HK2.out.trans (HB5.out.mono HK2.out.size)
    have HN5 : Hid (W5.heap[W3.heap.size]? = _) := stay HN4.out b5
    obtain ⟨c0, c1, c2, c3, c4, c5, c6, cf⟩ := cells7 (stay HY0.out HB5.out)
    clear b5 cf
    have HCK5 := HCK.out _ HB5w.out
    rw [hok] at HCK5
    go_wp2_with fail
    refine HCK5.mono ?_
    rintro e W6 ⟨rfl, b6⟩
    have HB6 : Hid (Below W2.heap.size W2 W6) := HB5.out.trans (b6.mono HB5.out.size)
    have HN6 : Hid (W6.heap[W3.heap.size]? = _) := stay HN5.out b6
    clear c0 c1 c2 c3 c4 c5 c6 HCK5
    obtain ⟨c0, c1, c2, c3, c4, c5, c6, cf⟩ := cells7 (stay HY0.out HB6.out)
    obtain ⟨d0, d1, d2, d3, d4, d5, d6, df⟩ := cells7 (stay HY1.out HB6.out)
    clear b6 cf df
    go_wp2_with fail
    refine (HSM.out _ HB6.out).mono ?_
    rintro e W7 ⟨rfl, b7⟩
    have HB7 : Hid (Below W2.heap.size W2 W7) := HB6.out.trans (b7.mono HB6.out.size)
    have HB7w : Hid (Below w.heap.size w W7) := HK2.out.trans (HB7.out.mono HK2.out.size)
    have HN7 : Hid (W7.heap[W3.heap.size]? = _) := stay HN6.out b7
    have HB37 : Hid (Below (W3.alloc (.cells #[.int .i64 0, .int .u8 0, .string ⟨#[]⟩, .slice none 0 0, .string ⟨#[]⟩, .string ⟨#[]⟩, .bool false] 24)).heap.size (W3.alloc (.cells #[.int .i64 0, .int .u8 0, .string ⟨#[]⟩, .slice none 0 0, .string ⟨#[]⟩, .string ⟨#[]⟩, .bool false] 24)) W7 ∨ True) := .inr trivial
    clear c0 c1 c2 c3 c4 c5 c6 d0 d1 d2 d3 d4 d5 d6 HB37
    obtain ⟨c0, c1, c2, c3, c4, c5, c6, cf⟩ := cells7 HN7.out
    clear cf
    go_wp2_with fail
    refine (HSZ.out _).mono ?_
    rintro e W8 ⟨rfl, b8⟩
    clear c0 c1 c2 c3 c4 c5 c6
    go_wp2_with fail
    go_ret
    exact ⟨rfl, HB7w.out.trans (b8.mono HB7w.out.size)⟩
  | true =>
    have HOK : Hid (Ok s) := (okS_iff s).1 hok
    by_cases hb4 : b.size ≤ 4000
    · have hb5 : ¬ (4000 : Int) < (b.size : Int) := by omega
      have HF := feed_right s (.slice qa s.ps.length qc) b W2 (HT.out.next HK2.out) HI2.out HOK.out hb4
      have HFW : Hid (Few (feed s b.data.toList).2) := few_feed b.data.toList s HOK.out
      have HLN : Hid ((feed s b.data.toList).2.length ≤ 4000000) := by
        have h := feed_len b.data.toList s
        have h2 := left_small HOK.out.fl
        have h3 : b.data.toList.length = b.size := Array.length_toList
        unfold Hid
        omega
      have HRB : Hid (∀ W, Below w.heap.size w W → Calls Tryd.prog 11 #[.agg #[.int .i64 s.at', .int .u8 s.mark, .string s.mid, .slice pp s.ps.length pc, .string s.txt, .string s.left, .bool s.late], .string b] W fun e w' => ∃ pv' tv', e = .returned (.tuple #[stV (feed s b.data.toList).1 pv', tv']) ∧ IntsV w' pv' (feed s b.data.toList).1.ps ∧ EvsR w' tv' (feed s b.data.toList).2 ∧ Below W.heap.size W w') := fun W hW => readBytes_any s pp pc b W (HT.out.next hW) (HI.out.next hW) HOK.out hb4
      have HPL : Hid ((feed s b.data.toList).1.ps.length ≤ 16) := (feed_okS b.data.toList s HOK.out).pl
      generalize (feed s b.data.toList).2 = es at *
      generalize (feed s b.data.toList).1 = t at *
      simp only [stV] at HF HRB
      go_wp2_with fail
      refine HF.mono ?_
      rintro e W3 ⟨xv, lv, rfl, hP3, hE3, b3⟩
      obtain ⟨xa, xc, rfl⟩ := hP3.slice
      obtain ⟨la, lc, hlv⟩ := hE3.slice
      have HP3 : Hid (IntsV W3 (.slice xa t.ps.length xc) t.ps) := hP3
      have HE3 : Hid (EvsR W3 lv es) := hE3
      subst hlv
      clear HF hP3 hE3
      clear c0 c1 c2 c3 c4 c5 c6
      have HN3 : Hid ((W3.alloc (.cells #[.int .i64 t.at', .int .u8 t.mark, .string t.mid, .slice xa t.ps.length xc, .string t.txt, .string t.left, .bool t.late] 24)).heap[W3.heap.size]? = some (.cells #[.int .i64 t.at', .int .u8 t.mark, .string t.mid, .slice xa t.ps.length xc, .string t.txt, .string t.left, .bool t.late] 24 (0, 0))) := heap_alloc_new W3 _
      have HB3 : Hid (Below W2.heap.size W2 (W3.alloc (.cells #[.int .i64 t.at', .int .u8 t.mark, .string t.mid, .slice xa t.ps.length xc, .string t.txt, .string t.left, .bool t.late] 24))) := b3.alloc b3.size _
      have HB3w : Hid (Below w.heap.size w (W3.alloc (.cells #[.int .i64 t.at', .int .u8 t.mark, .string t.mid, .slice xa t.ps.length xc, .string t.txt, .string t.left, .bool t.late] 24))) := HK2.out.trans (HB3.out.mono HK2.out.size)
      obtain ⟨c0, c1, c2, c3, c4, c5, c6, cf⟩ := cells7 (stay HY0.out HB3.out)
      have HA3 : Hid (Below W3.heap.size W3 (W3.alloc (.cells #[.int .i64 t.at', .int .u8 t.mark, .string t.mid, .slice xa t.ps.length xc, .string t.txt, .string t.left, .bool t.late] 24))) := (Below.refl _ _).alloc (Nat.le_refl _) _
      clear b3 cf
      go_wp2_with fail
      refine (HCS.out _ HB3w.out).mono ?_
      rintro e W4 ⟨rfl, b4⟩
      have HB4 : Hid (Below W2.heap.size W2 W4) := HB3.out.trans (b4.mono HB3.out.size)
      have HB4w : Hid (Below w.heap.size w W4) := HK2.out.trans (HB4.out.mono HK2.out.size)
      have HN4 : Hid (W4.heap[W3.heap.size]? = _) := stay HN3.out b4
      have HA4 : Hid (Below W3.heap.size W3 W4) := HA3.out.trans (b4.mono HA3.out.size)
      clear c0 c1 c2 c3 c4 c5 c6 b4
      rw [hok]
      go_wp2_with fail
      refine (HRI.out _ HB4w.out).mono ?_
      rintro e W5 ⟨rfl, b5⟩
      have HB5 : Hid (Below W2.heap.size W2 W5) := HB4.out.trans (b5.mono HB4.out.size)
      have HB5w : Hid (Below w.heap.size w W5) := HK2.out.trans (HB5.out.mono HK2.out.size)
      have HN5 : Hid (W5.heap[W3.heap.size]? = _) := stay HN4.out b5
      obtain ⟨c0, c1, c2, c3, c4, c5, c6, cf⟩ := cells7 (stay HY0.out HB5.out)
      have HA5 : Hid (Below W3.heap.size W3 W5) := HA4.out.trans (b5.mono HA4.out.size)
      clear b5 cf
      have HCK5 := HCK.out _ HB5w.out
      rw [hok] at HCK5
      go_wp2_with fail
      refine HCK5.mono ?_
      rintro e W6 ⟨rfl, b6⟩
      have HB6 : Hid (Below W2.heap.size W2 W6) := HB5.out.trans (b6.mono HB5.out.size)
      have HN6 : Hid (W6.heap[W3.heap.size]? = _) := stay HN5.out b6
      clear c0 c1 c2 c3 c4 c5 c6 HCK5
      obtain ⟨c0, c1, c2, c3, c4, c5, c6, cf⟩ := cells7 (stay HY0.out HB6.out)
      obtain ⟨d0, d1, d2, d3, d4, d5, d6, df⟩ := cells7 (stay HY1.out HB6.out)
      have HA6 : Hid (Below W3.heap.size W3 W6) := HA5.out.trans (b6.mono HA5.out.size)
      clear b6 cf df
      go_wp2_with fail
      refine (HSM.out _ HB6.out).mono ?_
      rintro e W7 ⟨rfl, b7⟩
      have HB7 : Hid (Below W2.heap.size W2 W7) := HB6.out.trans (b7.mono HB6.out.size)
      have HB7w : Hid (Below w.heap.size w W7) := HK2.out.trans (HB7.out.mono HK2.out.size)
      have HN7 : Hid (W7.heap[W3.heap.size]? = _) := stay HN6.out b7
      have HA7 : Hid (Below W3.heap.size W3 W7) := HA6.out.trans (b7.mono HA6.out.size)
      have HB37 : Hid (Below (W3.alloc (.cells #[.int .i64 t.at', .int .u8 t.mark, .string t.mid, .slice xa t.ps.length xc, .string t.txt, .string t.left, .bool t.late] 24)).heap.size (W3.alloc (.cells #[.int .i64 t.at', .int .u8 t.mark, .string t.mid, .slice xa t.ps.length xc, .string t.txt, .string t.left, .bool t.late] 24)) W7 ∨ True) := .inr trivial
      clear c0 c1 c2 c3 c4 c5 c6 d0 d1 d2 d3 d4 d5 d6 HB37
      obtain ⟨c0, c1, c2, c3, c4, c5, c6, cf⟩ := cells7 (stay HY0.out HB7.out)
      clear cf
      go_wp2_with fail
      refine (HRB.out _ HB7w.out).mono ?_
      rintro e W8 ⟨yv, mv, rfl, hP8, hE8, b8⟩
      obtain ⟨ya, yc, rfl⟩ := hP8.slice
      obtain ⟨ma, mc, hmv⟩ := hE8.slice
      have HP8 : Hid (IntsV W8 (.slice ya t.ps.length yc) t.ps) := hP8
      have HE8 : Hid (EvsR W8 mv es) := hE8
      subst hmv
      have HA8 : Hid (Below W3.heap.size W3 W8) := HA7.out.trans (b8.mono HA7.out.size)
      have HN8 : Hid (W8.heap[W3.heap.size]? = _) := stay HN7.out b8
      have HB8w : Hid (Below w.heap.size w W8) := HB7w.out.trans (b8.mono HB7w.out.size)
      clear c0 c1 c2 c3 c4 c5 c6 b8 hP8 hE8
      have kA : Below W8.heap.size W8 (W8.alloc (.cells #[.int .i64 t.at', .int .u8 t.mark, .string t.mid, .slice ya t.ps.length yc, .string t.txt, .string t.left, .bool t.late] 24)) := (Below.refl _ _).alloc (Nat.le_refl _) _
      have HKA : Hid _ := kA
      obtain ⟨c0, c1, c2, c3, c4, c5, c6, cf⟩ := cells7 (stay HN8.out kA)
      obtain ⟨d0, d1, d2, d3, d4, d5, d6, df⟩ := cells7 (heap_alloc_new W8 (.cells #[.int .i64 t.at', .int .u8 t.mark, .string t.mid, .slice ya t.ps.length yc, .string t.txt, .string t.left, .bool t.late] 24))
      clear cf df
      go_wp2_with fail
      refine (sameState_refl t _ _ _ (HP3.out.next (HA8.out.trans (kA.mono HA8.out.size))) (HP8.out.next kA) (by have := HPL.out; omega)).mono ?_
      rintro e W9 ⟨rfl, b9⟩
      have k9 := kA.trans (b9.mono kA.size)
      have HE9 : Hid (EvsR W9 (.slice ma es.length mc) es) := HE8.out.next k9
      have HL9 : Hid (EvsR W9 (.slice la es.length lc) es) := HE3.out.next (HA8.out.trans (k9.mono HA8.out.size))
      have HB9w : Hid (Below w.heap.size w W9) := HB8w.out.trans (k9.mono HB8w.out.size)
      clear c0 c1 c2 c3 c4 c5 c6 d0 d1 d2 d3 d4 d5 d6 kA b9 k9
      go_wp2_with fail
      refine (equalFunc_refl es _ _ W9 HL9.out HE9.out HFW.out HLN.out).mono ?_
      rintro e W10 ⟨rfl, b10⟩
      go_wp2_with fail
      go_ret
      exact ⟨rfl, HB9w.out.trans (b10.mono HB9w.out.size)⟩
    · have hb5 : (4000 : Int) < (b.size : Int) := by omega
      have HF := feed_bad s (.slice qa s.ps.length qc) b W2 (HT.out.next HK2.out) HI2.out HL.out.1 HL.out.2.2.2.1 2 (.inr ⟨hok, by omega, rfl⟩)
      simp only [zeroV] at HF
      go_wp2_with fail
      refine HF.mono ?_
      rintro e W3 ⟨rfl, b3⟩
      clear HF
      clear c0 c1 c2 c3 c4 c5 c6
      have HN3 : Hid ((W3.alloc (.cells #[.int .i64 0, .int .u8 0, .string ⟨#[]⟩, .slice none 0 0, .string ⟨#[]⟩, .string ⟨#[]⟩, .bool false] 24)).heap[W3.heap.size]? = some (.cells #[.int .i64 0, .int .u8 0, .string ⟨#[]⟩, .slice none 0 0, .string ⟨#[]⟩, .string ⟨#[]⟩, .bool false] 24 (0, 0))) := heap_alloc_new W3 _
      have HB3 : Hid (Below W2.heap.size W2 (W3.alloc (.cells #[.int .i64 0, .int .u8 0, .string ⟨#[]⟩, .slice none 0 0, .string ⟨#[]⟩, .string ⟨#[]⟩, .bool false] 24))) := b3.alloc b3.size _
      have HB3w : Hid (Below w.heap.size w (W3.alloc (.cells #[.int .i64 0, .int .u8 0, .string ⟨#[]⟩, .slice none 0 0, .string ⟨#[]⟩, .string ⟨#[]⟩, .bool false] 24))) := HK2.out.trans (HB3.out.mono HK2.out.size)
      obtain ⟨c0, c1, c2, c3, c4, c5, c6, cf⟩ := cells7 (stay HY0.out HB3.out)
      clear b3 cf
      go_wp2_with fail
      refine (HCS.out _ HB3w.out).mono ?_
      rintro e W4 ⟨rfl, b4⟩
      have HB4 : Hid (Below W2.heap.size W2 W4) := HB3.out.trans (b4.mono HB3.out.size)
      have HB4w : Hid (Below w.heap.size w W4) := HK2.out.trans (HB4.out.mono HK2.out.size)
      have HN4 : Hid (W4.heap[W3.heap.size]? = _) := stay HN3.out b4
      clear c0 c1 c2 c3 c4 c5 c6 b4
      rw [hok]
      go_wp2_with fail
      refine (HRI.out _ HB4w.out).mono ?_
      rintro e W5 ⟨rfl, b5⟩
      have HB5 : Hid (Below W2.heap.size W2 W5) := HB4.out.trans (b5.mono HB4.out.size)
      have HB5w : Hid (Below w.heap.size w W5) := HK2.out.trans (HB5.out.mono HK2.out.size)
      have HN5 : Hid (W5.heap[W3.heap.size]? = _) := stay HN4.out b5
      obtain ⟨c0, c1, c2, c3, c4, c5, c6, cf⟩ := cells7 (stay HY0.out HB5.out)
      clear b5 cf
      have HCK5 := HCK.out _ HB5w.out
      rw [hok] at HCK5
      go_wp2_with fail
      refine HCK5.mono ?_
      rintro e W6 ⟨rfl, b6⟩
      have HB6 : Hid (Below W2.heap.size W2 W6) := HB5.out.trans (b6.mono HB5.out.size)
      have HN6 : Hid (W6.heap[W3.heap.size]? = _) := stay HN5.out b6
      clear c0 c1 c2 c3 c4 c5 c6 HCK5
      obtain ⟨c0, c1, c2, c3, c4, c5, c6, cf⟩ := cells7 (stay HY0.out HB6.out)
      obtain ⟨d0, d1, d2, d3, d4, d5, d6, df⟩ := cells7 (stay HY1.out HB6.out)
      clear b6 cf df
      go_wp2_with fail
      refine (HSM.out _ HB6.out).mono ?_
      rintro e W7 ⟨rfl, b7⟩
      have HB7 : Hid (Below W2.heap.size W2 W7) := HB6.out.trans (b7.mono HB6.out.size)
      have HB7w : Hid (Below w.heap.size w W7) := HK2.out.trans (HB7.out.mono HK2.out.size)
      have HN7 : Hid (W7.heap[W3.heap.size]? = _) := stay HN6.out b7
      have HB37 : Hid (Below (W3.alloc (.cells #[.int .i64 0, .int .u8 0, .string ⟨#[]⟩, .slice none 0 0, .string ⟨#[]⟩, .string ⟨#[]⟩, .bool false] 24)).heap.size (W3.alloc (.cells #[.int .i64 0, .int .u8 0, .string ⟨#[]⟩, .slice none 0 0, .string ⟨#[]⟩, .string ⟨#[]⟩, .bool false] 24)) W7 ∨ True) := .inr trivial
      clear c0 c1 c2 c3 c4 c5 c6 d0 d1 d2 d3 d4 d5 d6 HB37
      obtain ⟨c0, c1, c2, c3, c4, c5, c6, cf⟩ := cells7 HN7.out
      clear cf
      go_wp2_with fail
      refine (HSZ.out _).mono ?_
      rintro e W8 ⟨rfl, b8⟩
      clear c0 c1 c2 c3 c4 c5 c6
      go_wp2_with fail
      go_ret
      exact ⟨rfl, HB7w.out.trans (b8.mono HB7w.out.size)⟩
end Prs
end Go.Proofs.YtmgmdijhiplalaaDoor
