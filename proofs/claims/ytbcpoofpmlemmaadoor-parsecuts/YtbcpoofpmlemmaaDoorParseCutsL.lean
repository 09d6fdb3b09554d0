/- The law ParseCuts. -/
import Derived.Test.YtbcpoofpmlemmaaDoorParseJoin
namespace Go.Proofs.YtbcpoofpmlemmaaDoor
open Go.ChangeShapes Go.WideShapes Go.ChangeAt Go.RowKit
namespace Prs
set_option maxHeartbeats 8000000 in
set_option maxRecDepth 100000 in
theorem parseCuts_good (s : St) (pp : Option Addr) (pc : Nat) (b : ByteArray) (at' : Int) (w : World) (hT : Tabs w) (hI : IntsV w (.slice pp s.ps.length pc) s.ps) (ho : Ok s) (hb : b.size ≤ 4000) :
    Calls Tryd.prog 5 #[.agg #[.int .i64 s.at', .int .u8 s.mark, .string s.mid, .slice pp s.ps.length pc, .string s.txt, .string s.left, .bool s.late], .string b, .int .i64 at'] w fun e w' => e = .returned (.bool true) ∧ Below w.heap.size w w' := by
  have x0 := heap_alloc_new w (.cells #[.int .i64 s.at', .int .u8 s.mark, .string s.mid, .slice pp s.ps.length pc, .string s.txt, .string s.left, .bool s.late] 24)
  have kb : Below w.heap.size w (w.alloc (.cells #[.int .i64 s.at', .int .u8 s.mark, .string s.mid, .slice pp s.ps.length pc, .string s.txt, .string s.left, .bool s.late] 24)) := (Below.refl _ _).alloc (Nat.le_refl _) _
  have HT : Hid (Tabs w) := hT
  have HI : Hid (IntsV w (.slice pp s.ps.length pc) s.ps) := hI
  have HO : Hid (Ok s) := ho
  have HX0 : Hid _ := x0
  have HKB : Hid _ := kb
  clear x0 kb hT hI ho
  go_enter Tryd.func5, Tryd.ntmps5
  go_upto_region 1 with fail
  go_cut [23] from 16 to 23 (fun s23 wx => (∃ c : Bool, s23 = .bool c ∧ (c = false → 0 ≤ at' ∧ at' ≤ b.size)) ∧ wx = w.alloc (.cells #[.int .i64 s.at', .int .u8 s.mark, .string s.mid, .slice pp s.ps.length pc, .string s.txt, .string s.left, .bool s.late] 24))
  case first =>
    go_wp2_with fail
    all_goals go_meet
    all_goals refine ⟨⟨_, rfl, fun h => ?_⟩, rfl⟩
    all_goals (simp at h <;> omega)
  case rest =>
    obtain ⟨⟨c, rfl, hc⟩, hwx⟩ := hcut
    subst hwx
    go_upto_if 23 with fail
    go_cut [2] from 24 to 26 (fun s2 wx => (∃ k : Nat, s2 = .int .i64 (k : Int) ∧ k ≤ b.size) ∧ wx = w.alloc (.cells #[.int .i64 s.at', .int .u8 s.mark, .string s.mid, .slice pp s.ps.length pc, .string s.txt, .string s.left, .bool s.late] 24))
    case first =>
      cases c with
      | true =>
        go_wp2_with fail
        all_goals go_meet
        exact ⟨⟨b.size / 2, by rw [show ((b.size : Int) / 2) = ((b.size / 2 : Nat) : Int) by omega], by omega⟩, rfl⟩
      | false =>
        obtain ⟨h1, h2⟩ := hc rfl
        go_wp2_with fail
        all_goals go_meet
        exact ⟨⟨at'.toNat, by rw [Int.toNat_of_nonneg h1], by omega⟩, rfl⟩
    case rest =>
      obtain ⟨⟨k, rfl, hk⟩, hwx⟩ := hcut
      subst hwx
      clear hc
      obtain ⟨c0, c1, c2, c3, c4, c5, c6, cf⟩ := cells7 HX0.out
      have HF1 := feed_right s _ b _ (HT.out.next HKB.out) (HI.out.next HKB.out) HO.out hb
      have hok1 := feed_okS b.data.toList s HO.out
      have hfew := few_feed b.data.toList s HO.out
      have hcut := cut_feed s b k
      have hlen := feed_len b.data.toList s
      have hlb := left_small HO.out.fl
      have hsz : b.data.toList.length = b.size := by rw [Array.length_toList]; rfl
      obtain ⟨s1, es1, hfe⟩ : ∃ s1 es1, feed s b.data.toList = (s1, es1) := ⟨_, _, rfl⟩
      rw [hfe] at HF1 hok1 hfew hcut hlen
      have HOK1 : Hid (Ok s1) := hok1
      have HFEW : Hid (Few es1) := hfew
      obtain ⟨s2, es2, hf2⟩ : ∃ s2 es2, feed s (b.extract 0 k).data.toList = (s2, es2) := ⟨_, _, rfl⟩
      rw [hf2] at hcut
      obtain ⟨s3, es3, hf3⟩ : ∃ s3 es3, feed s2 (b.extract k b.size).data.toList = (s3, es3) := ⟨_, _, rfl⟩
      simp only [hf3, Prod.mk.injEq] at hcut
      have HCUT : Hid (s1 = s3 ∧ es1 = es2 ++ es3) := hcut
      have HF2E : Hid (feed s (b.extract 0 k).data.toList = (s2, es2)) := hf2
      have HF3E : Hid (feed s2 (b.extract k b.size).data.toList = (s3, es3)) := hf3
      clear hf2 hf3
      have hl1 : es1.length ≤ 10000 := by simp only at hlen; omega
      simp only [stV] at HF1
      clear cf hok1 hfew hcut hfe hlen hlb hsz
      go_wp2_with fail
      refine HF1.mono ?_
      rintro e W1 ⟨pv1, tv1, rfl, hI1, hE1, b1⟩
      obtain ⟨pp1, pc1, rfl⟩ := hI1.slice
      obtain ⟨ta1, tc1, rfl⟩ := hE1.slice
      have n1 := heap_alloc_new W1 (.cells #[.int .i64 s1.at', .int .u8 s1.mark, .string s1.mid, .slice pp1 s1.ps.length pc1, .string s1.txt, .string s1.left, .bool s1.late] 24)
      have kA : Below W1.heap.size W1 (W1.alloc (.cells #[.int .i64 s1.at', .int .u8 s1.mark, .string s1.mid, .slice pp1 s1.ps.length pc1, .string s1.txt, .string s1.left, .bool s1.late] 24)) := (Below.refl _ _).alloc (Nat.le_refl _) _
      have kw := (HKB.out.trans (b1.mono HKB.out.size)).trans (kA.mono (HKB.out.trans (b1.mono HKB.out.size)).size)
      have HI1 : Hid (IntsV (W1.alloc (.cells #[.int .i64 s1.at', .int .u8 s1.mark, .string s1.mid, .slice pp1 s1.ps.length pc1, .string s1.txt, .string s1.left, .bool s1.late] 24)) (.slice pp1 s1.ps.length pc1) s1.ps) := hI1.next kA
      have HE1 : Hid (EvsR (W1.alloc (.cells #[.int .i64 s1.at', .int .u8 s1.mark, .string s1.mid, .slice pp1 s1.ps.length pc1, .string s1.txt, .string s1.left, .bool s1.late] 24)) (.slice ta1 es1.length tc1) es1) := hE1.next kA
      have HN1 : Hid _ := n1
      have HKW : Hid _ := kw
      have HY0 : Hid ((W1.alloc (.cells #[.int .i64 s1.at', .int .u8 s1.mark, .string s1.mid, .slice pp1 s1.ps.length pc1, .string s1.txt, .string s1.left, .bool s1.late] 24)).heap[w.heap.size]? = _) := stay (stay HX0.out b1) kA
      clear HF1 hI1 hE1 kA kw n1 b1 c0 c1 c2 c3 c4 c5 c6
      go_wp2_with fail
      refine (readIn_any _ (HT.out.next HKW.out)).mono ?_
      rintro e W2 ⟨rfl, b2⟩
      have y0 := stay HY0.out b2
      have n2 := stay HN1.out b2
      obtain ⟨c0, c1, c2, c3, c4, c5, c6, cf⟩ := cells7 y0
      have HK2 : Hid (Below w.heap.size w W2) := HKW.out.trans (b2.mono HKW.out.size)
      have HI2 : Hid (IntsV W2 (.slice pp1 s1.ps.length pc1) s1.ps) := HI1.out.next b2
      have HE2 : Hid (EvsR W2 (.slice ta1 es1.length tc1) es1) := HE1.out.next b2
      have HY2 : Hid (W2.heap[w.heap.size]? = _) := y0
      have HN2 : Hid (W2.heap[W1.heap.size]? = _) := n2
      clear b2 y0 n2 HY0 HN1 HKW HI1 HE1
      go_wp2_with fail
      have HB0 : Hid ((b.extract 0 k).size ≤ 4000 ∧ (b.extract k b.size).size ≤ 4000) := by
        unfold Hid
        rw [ByteArray.size_extract, ByteArray.size_extract]
        omega
      have HF2 : Hid (∀ W, Below W2.heap.size W2 W → Calls Tryd.prog 9 #[.agg #[.int .i64 s.at', .int .u8 s.mark, .string s.mid, .slice pp s.ps.length pc, .string s.txt, .string s.left, .bool s.late], .string (b.extract 0 k)] W fun e w' => ∃ pa2 pc2 ta2 tc2, e = .returned (.tuple #[.agg #[.int .i64 s2.at', .int .u8 s2.mark, .string s2.mid, .slice pa2 s2.ps.length pc2, .string s2.txt, .string s2.left, .bool s2.late], .slice ta2 es2.length tc2, .int .i64 0]) ∧ w'.ownsRow W2.heap.size 3 1 (.slice pa2 s2.ps.length pc2) s2.ps.length (ints s2.ps) ∧ EvsV w' W2.heap.size (.slice ta2 es2.length tc2) es2 ∧ Below W.heap.size W w' ∧ Below W2.heap.size W2 w') := fun W hW => feed_own s _ _ W2 s2 es2 HF2E.out (HT.out.next HK2.out) (HI.out.next HK2.out) HO.out HB0.out.1 W hW
      have kz : Below W2.heap.size W2 W2 := Below.refl _ _
      obtain ⟨_, _, _, _, _, _, _⟩ := open7 (heap_box _ (.cells #[.int .i64 0, .int .u8 0, .string ⟨#[]⟩, .slice none 0 0, .string ⟨#[]⟩, .string ⟨#[]⟩, .bool false] 24) HY2.out)
      go_cut [10, 11, 12] from 41 to 49 (fun s10 s11 s12 wx => s12 = .int .i64 0 ∧ Got W2 s10 s11 s2 es2 wx)
      case first =>
        go_region_with (go_at_call 9; refine (HF2.out _ (by repeat' (first | with_reducible exact kz | with_reducible refine drew_next ?_ | with_reducible refine alloc_next ?_ _))).mono ?_; rintro e W3 ⟨pa2, pc2, ta2, tc2, rfl, hO, hE, d3, k3⟩; (try (have zA := old1d d3; obtain ⟨_, _, _, _, _, _, _⟩ := open7 zA; obtain ⟨_, _, _, _, _, _, _⟩ := frozen7 zA)))
        all_goals go_wp2_with fail
        all_goals go_meet
        all_goals refine ⟨rfl, ?_⟩
        all_goals first
          | with_reducible exact got_new hO hE k3
          | (rw [set7]; exact got_old hO hE k3 zA)
      case rest =>
        rename World => wa
        obtain ⟨rfl, p, pa2, pc2, ta2, tc2, rfl, rfl, hp2, hO2, hE2, k4⟩ := hcut
        have hok2 := feed_okS (b.extract 0 k).data.toList s HO.out
        rw [HF2E.out] at hok2
        have HOK2 : Hid (Ok s2) := hok2
        have HK4 : Hid (Below w.heap.size w wa) := HK2.out.trans (k4.mono HK2.out.size)
        have HN4 : Hid (wa.heap[W1.heap.size]? = _) := stay HN2.out k4
        have HI4 : Hid (IntsV wa (.slice pp1 s1.ps.length pc1) s1.ps) := HI2.out.next k4
        have HE4 : Hid (EvsR wa (.slice ta1 es1.length tc1) es1) := HE2.out.next k4
        have HJ : Hid (IntsV wa (.slice pa2 s2.ps.length pc2) s2.ps) := own_intsV hO2
        have HM4 : Hid (EvsV wa W2.heap.size (.slice ta2 es2.length tc2) es2) := hE2
        have HB4 : Hid (W2.heap.size ≤ wa.heap.size) := k4.size
        have HK24 : Hid (Below W2.heap.size W2 wa) := k4
        have HE2' : Hid (EvsR W2 (.slice ta1 es1.length tc1) es1) := HE2.out
        have HP2 : Hid (wa.heap[p]? = _) := hp2
        have HF3 : Hid (∀ W, Below wa.heap.size wa W → Calls Tryd.prog 9 #[.agg #[.int .i64 s2.at', .int .u8 s2.mark, .string s2.mid, .slice pa2 s2.ps.length pc2, .string s2.txt, .string s2.left, .bool s2.late], .string (b.extract k b.size)] W fun e w' => ∃ pa3 pc3 ta3 tc3, e = .returned (.tuple #[.agg #[.int .i64 s3.at', .int .u8 s3.mark, .string s3.mid, .slice pa3 s3.ps.length pc3, .string s3.txt, .string s3.left, .bool s3.late], .slice ta3 es3.length tc3, .int .i64 0]) ∧ w'.ownsRow wa.heap.size 3 1 (.slice pa3 s3.ps.length pc3) s3.ps.length (ints s3.ps) ∧ EvsV w' wa.heap.size (.slice ta3 es3.length tc3) es3 ∧ Below W.heap.size W w' ∧ Below wa.heap.size wa w') := fun W hW => feed_own s2 _ _ wa s3 es3 HF3E.out (HT.out.next HK4.out) HJ.out HOK2.out HB0.out.2 W hW
        clear HF2 HI2 HE2 HY2 HN2 c0 c1 c2 c3 c4 c5 c6 hO2 hE2 k4 hok2 cf kz
        obtain ⟨c0, c1, c2, c3, c4, c5, c6⟩ := open7 hp2
        obtain ⟨_, _, _, _, _, _, _⟩ := open7 (heap_box _ (.cells #[.int .i64 0, .int .u8 0, .string ⟨#[]⟩, .slice none 0 0, .string ⟨#[]⟩, .string ⟨#[]⟩, .bool false] 24) hp2)
        have kz : Below wa.heap.size wa wa := Below.refl _ _
        clear hp2
        go_wp2_with fail
        go_cut [13, 14, 15] from 50 to 58 (fun s13 s14 s15 wx => s15 = .int .i64 0 ∧ Got wa s13 s14 s3 es3 wx)
        case first =>
          go_region_with (go_at_call 9; refine (HF3.out _ (by repeat' (first | with_reducible exact kz | with_reducible refine drew_next ?_ | with_reducible refine alloc_next ?_ _))).mono ?_; rintro e W3 ⟨pa3, pc3, ta3, tc3, rfl, hO, hE, d3, k3⟩; (try (have zA := old1d d3; obtain ⟨_, _, _, _, _, _, _⟩ := open7 zA; obtain ⟨_, _, _, _, _, _, _⟩ := frozen7 zA)))
          all_goals go_wp2_with fail
          all_goals go_meet
          all_goals refine ⟨rfl, ?_⟩
          all_goals first
            | with_reducible exact got_new hO hE k3
            | (rw [set7]; exact got_old hO hE k3 zA)
        case rest =>
          obtain ⟨rfl, p3, pa3, pc3, ta3, tc3, rfl, rfl, hp3, hO3, hE3, k5⟩ := hcut
          have HK5 : Hid (Below w.heap.size w wc) := HK4.out.trans (k5.mono HK4.out.size)
          have hx := stay HN4.out k5
          have HI5 : Hid (IntsV wc (.slice pp1 s1.ps.length pc1) s1.ps) := HI4.out.next k5
          have HE5 : Hid (EvsR wc (.slice ta1 es1.length tc1) es1) := HE4.out.next k5
          have HM5 : Hid (EvsV wc W2.heap.size (.slice ta2 es2.length tc2) es2) := HM4.out.same fun g A t hg _ => k5.block g (blk_lt hg)
          have HM6 : Hid (EvsV wc wa.heap.size (.slice ta3 es3.length tc3) es3) := hE3
          have HJ5 : Hid (IntsV wc (.slice pa3 s3.ps.length pc3) s3.ps) := own_intsV hO3
          have HBB : Hid (W2.heap.size ≤ wc.heap.size) := Nat.le_trans HB4.out k5.size
          have HK25 : Hid (Below W2.heap.size W2 wc) := HK24.out.trans (k5.mono HB4.out)
          obtain ⟨h13, hes⟩ := HCUT.out
          subst h13
          have HES : Hid (es1 = es2 ++ es3) := hes
          have HX5 : Hid (wc.heap[W1.heap.size]? = _) := hx
          have HZ5 : Hid (wc.heap[p3]? = _) := hp3
          have hl23 : es2.length + es3.length ≤ 10000 := by
            have := congrArg List.length hes
            rw [List.length_append] at this
            omega
          clear c0 c1 c2 c3 c4 c5 c6 HF3 HF3E HF2E HP2 HJ HI4 HE4 HM4 HN4 hO3 hE3 k5 hes HCUT kz
          obtain ⟨e0, e1, e2, e3, e4, e5, e6⟩ := open7 hx
          clear hx hp3
          go_wp2_with fail
          refine (check_any s1 _ wc (HT.out.next HK5.out) HI5.out (by have := HOK1.out.ms; omega) (by have := HOK1.out.tl; omega)).mono ?_
          rintro e W6 ⟨rfl, b6⟩
          rw [(okS_iff s1).2 HOK1.out]
          obtain ⟨f0, f1, f2, f3, f4, f5, f6⟩ := open7 (stay HX5.out b6)
          obtain ⟨g0, g1, g2, g3, g4, g5, g6⟩ := open7 (stay HZ5.out b6)
          have HK6 : Hid (Below w.heap.size w W6) := HK5.out.trans (b6.mono HK5.out.size)
          have HI6 : Hid (IntsV W6 (.slice pp1 s1.ps.length pc1) s1.ps) := HI5.out.next b6
          have HJ6 : Hid (IntsV W6 (.slice pa3 s1.ps.length pc3) s1.ps) := HJ5.out.next b6
          have HB6 : Hid (Below wc.heap.size wc W6) := b6
          clear e0 e1 e2 e3 e4 e5 e6 b6 HI5 HJ5
          go_wp2_with fail
          refine (sameState_refl s1 _ _ W6 HI6.out HJ6.out (by have := HOK1.out.pl; omega)).mono ?_
          rintro e W7 ⟨rfl, b7⟩
          have HB7 : Hid (Below wc.heap.size wc W7) := HB6.out.trans (b7.mono HB6.out.size)
          have HK7 : Hid (Below w.heap.size w W7) := HK5.out.trans (HB7.out.mono HK5.out.size)
          have HM7 : Hid (EvsV W7 W2.heap.size (.slice ta2 es2.length tc2) es2) := HM5.out.same fun g A t hg _ => HB7.out.block g (blk_lt hg)
          have HN7 : Hid (EvsV W7 wa.heap.size (.slice ta3 es3.length tc3) es3) := HM6.out.same fun g A t hg _ => HB7.out.block g (blk_lt hg)
          have HE7 : Hid (EvsR W7 (.slice ta1 es1.length tc1) es1) := HE5.out.next HB7.out
          clear f0 f1 f2 f3 f4 f5 f6 g0 g1 g2 g3 g4 g5 g6 b7 HB6 HM5 HM6 HE5 HX5 HZ5 HI6 HJ6
          obtain ⟨eqs2, o2, m2, q2⟩ := HM7.out
          obtain ⟨eqs3, o3, m3, q3⟩ := HN7.out
          have l2 : eqs2.length = es2.length := by rw [← m2, List.length_map]
          have l3 : eqs3.length = es3.length := by rw [← m3, List.length_map]
          rcases row_cells o3 with ⟨hv3, h30, -⟩ | ⟨gn, cn, hv3, hcn⟩
          · have h3n : es3 = [] := List.eq_nil_of_length_eq_zero h30
            subst h3n
            injection hv3 with hv31 hv32 hv33
            subst hv31 hv33
            have HR2 : Hid (EvsR W7 (.slice ta2 es2.length tc2) es1) := by
              rw [HES.out, List.append_nil]
              exact HM7.out.read
            have hcap := row_cap o2
            clear HM7 HN7 o2 o3 m2 m3 q2 q3 l2 l3
            simp only [List.length_nil]
            rcases hcap with ⟨hta, htc, hte⟩ | ⟨ga, hta, hcc⟩
            · subst hta htc
              rw [hte] at HR2 ⊢
              go_wp2_with fail
              refine (equalFunc_refl es1 _ _ W7 HE7.out HR2.out HFEW.out (by omega)).mono ?_
              rintro e W9 ⟨rfl, b9⟩
              go_wp2_with fail
              go_ret
              exact ⟨rfl, HK7.out.trans (b9.mono HK7.out.size)⟩
            · subst hta
              go_wp2_with fail
              refine (equalFunc_refl es1 _ _ W7 HE7.out HR2.out HFEW.out (by omega)).mono ?_
              rintro e W9 ⟨rfl, b9⟩
              go_wp2_with fail
              go_ret
              exact ⟨rfl, HK7.out.trans (b9.mono HK7.out.size)⟩
          · injection hv3 with hv31 hv32 hv33
            subst hv31 hv33
            obtain ⟨i0, hi, hzz⟩ := Option.map_eq_some_iff.1 info_event
            simp only [Prod.mk.injEq] at hzz
            obtain ⟨hz0, hz1, hz2⟩ := hzz
            have HO2 : Hid (W7.ownsRow W2.heap.size 37 7 (.slice ta2 es2.length tc2) es2.length (evFlat eqs2)) := o2
            have HQ2 : Hid (∀ x, x ∈ eqs2 → W7.ownsRow W2.heap.size 3 1 x.2 x.1.ps.length (ints x.1.ps)) := q2
            have HQ3 : Hid (∀ x, x ∈ eqs3 → W7.ownsRow wa.heap.size 3 1 x.2 x.1.ps.length (ints x.1.ps)) := q3
            have HCN : Hid (∀ j u, (evFlat eqs3)[j]? = some u → W7.cell? ((⟨gn, 0, none⟩ : Addr).add j) = some u) := fun j u hj => by
              rw [Addr.add_mid, Nat.zero_add]
              exact hcn j u hj
            have HM23 : Hid (eqs2.map (·.1) = es2 ∧ eqs3.map (·.1) = es3 ∧ eqs2.length = es2.length ∧ eqs3.length = es3.length) := ⟨m2, m3, l2, l3⟩
            clear o2 o3 q2 q3 hcn m2 m3 l2 l3 HM7 HN7
            go_wp2_with (at_builtin; refine BigFrame.wpList_want rfl fun K hK => wp_append_own _ _ _ 26 rfl W2.heap.size 37 i0 (.agg #[.int .i64 0, .int .i32 0, .int .u8 0, .int .u8 0, .string ⟨#[]⟩, .slice none 0 0, .string ⟨#[]⟩]) 7 72 und_events hi hz0 hz1 hz2 rfl (by decide) (.slice ta2 es2.length tc2) es2.length (evFlat eqs2) rfl HO2.out ⟨gn, 0, none⟩ es3.length tc3 (evFlat eqs3) rfl (by rw [evFlat_len, HM23.out.2.2.2]) HCN.out (evFlat_one fun x hx => row_one (HQ3.out x hx)) (by unfold maxLen; omega) (by omega) (Nat.le_trans HBB.out HB7.out.size) (fun v3 W8 hown3 hgrow _ => hK _ _ ?_)
                         have HR8 : Hid (EvsR W8 v3 es1) := by
                           unfold Hid
                           rw [HES.out, ← HM23.out.1, ← HM23.out.2.1]
                           exact join_read (by rw [HM23.out.2.2.1]; exact HO2.out) HQ2.out HQ3.out (by rw [HM23.out.2.2.1, HM23.out.2.2.2]; exact hown3) hgrow
                         have HG8 : Hid (Below w.heap.size w W8) := HK7.out.grown hgrow HK7.out.size fun k hk => Nat.le_trans HK2.out.size (row_low HO2.out hk)
                         have HL8 : Hid (EvsR W8 (.slice ta1 es1.length tc1) es1) := HE2'.out.next ((HK25.out.trans (HB7.out.mono HBB.out)).grown hgrow (Nat.le_trans HBB.out HB7.out.size) fun k hk => row_low HO2.out hk)
                         clear hown3 hgrow)
            refine (equalFunc_refl es1 _ _ W8 HL8.out HR8.out HFEW.out (by omega)).mono ?_
            rintro e W9 ⟨rfl, b9⟩
            go_wp2_with fail
            go_ret
            exact ⟨rfl, HG8.out.trans (b9.mono HG8.out.size)⟩
end Prs
end Go.Proofs.YtbcpoofpmlemmaaDoor
