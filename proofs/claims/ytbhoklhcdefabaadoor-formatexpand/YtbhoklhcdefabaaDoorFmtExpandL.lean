/- The law FormatExpand. (Written by gen_fmtexpandl.py.) -/
import Derived.Test.YtbhoklhcdefabaaDoorFmtFact
import Derived.Test.YtbhoklhcdefabaaDoorFmtX7
namespace Go.Proofs.YtbhoklhcdefabaaDoor
open Go.ChangeShapes Go.WideShapes Go.ChangeAt Go.RowKit Go.Maps Go.Sort
namespace Fmt
open Txt (bs)
def lg (x : ByteArray × ByteArray) : Bool := decide (4000 < x.2.size)
theorem any_next (I : List (ByteArray × ByteArray)) (i : Nat) (h : i < I.length) : (I.take (i + 1)).any lg = ((I.take i).any lg || lg I[i]) := by
  rw [List.take_succ_eq_append_getElem h, List.any_append]
  simp
theorem any_end (I : List (ByteArray × ByteArray)) (i : Nat) (h : ¬ i < I.length) : (I.take i).any lg = I.any lg := by
  rw [List.take_of_length_le (by omega)]
set_option maxHeartbeats 16000000 in
set_option maxRecDepth 100000 in
theorem expand_a (s : ByteArray) (a : Option Addr) (c : Nat) (I : List (ByteArray × ByteArray)) (w : World) (hI : ItAt w (.slice a I.length c) I) (hT : Txt.Tab w) (hn : I.length ≤ 70368744177664) (h1 : 4000 < s.size) :
    Calls Tryd.prog 3 #[.string s, .slice a I.length c] w fun e w' => e = .returned (.bool true) ∧ Below w.heap.size w w' := by
  have HT : Hid (∀ V, Below w.heap.size w V → Txt.Tab V) := fun V hV => hT.below hV hT.pos
  have HI : Hid (∀ V, Below w.heap.size w V → ItAt V (.slice a I.length c) I) := fun V hV => hI.below hV
  have HF := fun V (hV : Below w.heap.size w V) => formatted_any V (HT.out V hV)
  have HE := expand_any s (.slice a I.length c) I w hI hT hn
  obtain ⟨a', c', hv, hcell⟩ := hI
  injection hv with e1 e2 e3
  subst e1 e3
  have HCC : Hid (∀ V, Below w.heap.size w V → ∀ i (h : i < I.length), ∃ b' o', a = some ⟨b', o', none⟩ ∧ V.cell? ⟨b', o' + i * 2, none⟩ = some (.string I[i].1) ∧ V.cell? ⟨b', o' + i * 2 + 1, none⟩ = some (.string I[i].2)) := fun V hV i h => by
    obtain ⟨b', o', e4, hc⟩ := hcell.resolve_left (by intro h'; rw [h'] at h; simp at h)
    have := hc i I[i] (List.getElem?_eq_getElem h)
    exact ⟨b', o', e4, cell_below hV this.1, cell_below hV this.2⟩
  have iI : (I.length : Int) ≤ 70368744177664 := by omega
  clear hT hcell
  have hm : much s I = true := by
    unfold much long
    rw [decide_eq_true h1]
    rfl
  unfold expV at HE
  rw [hm, if_pos rfl] at HE
  clear hm
  have i1 : (4000 : Int) < (s.size : Int) := by omega
  clear h1
  go_enter Tryd.func3, Tryd.ntmps3
  go_wp2_with fail
  refine HE.mono ?_
  rintro e W1 ⟨rfl, b1⟩
  have HB1 : Hid (Below w.heap.size w W1) := b1
  clear b1 HE
  go_wp2_with fail
  go_loopg [8, 30] (I.length + 1) (fun g u8 u30 wr => ∃ i : Nat, u30 = .int .i64 (i : Int) ∧ u8 = .bool (true || (I.take i).any lg) ∧ i ≤ I.length ∧ I.length - i < g ∧ Below w.heap.size w wr)
  case atStart => exact ⟨0, rfl, rfl, Nat.zero_le _, by omega, HB1.out⟩
  case round =>
    obtain ⟨i, rfl, hu8, hi, hg, hbW⟩ := hrel
    have HBW : Hid (Below w.heap.size w wr) := hbW
    clear HB1
    by_cases hil : i < I.length
    · have iin : (i : Int) < (I.length : Int) := Int.ofNat_lt.2 hil
      obtain ⟨b', o', e4, q0, q1⟩ := HCC.out wr hbW i hil
      subst e4
      have HNX : Hid ((I.take (i + 1)).any lg = ((I.take i).any lg || lg I[i])) := any_next I i hil
      obtain ⟨x, hx⟩ : ∃ x, I[i] = x := ⟨_, rfl⟩
      rw [hx] at q0 q1 HNX
      have HLX : Hid (lg x = decide (4000 < x.2.size)) := rfl
      have kA := own_of_below (w := wr) (.cells #[.string x.1, .string x.2] 27)
      obtain ⟨z0, z1⟩ := cells2 (heap_alloc_new wr (.cells #[.string x.1, .string x.2] 27))
      have K3 : Hid (Below w.heap.size w (wr.alloc (.cells #[.string x.1, .string x.2] 27))) := hbW.trans (kA.mono hbW.size)
      clear kA hx hbW
      rw [Bool.true_or] at hu8
      subst hu8
      go_wp2_with fail
      go_roundg (I.length - i)
      case measure => omega
      case rel => exact ⟨i + 1, by go_num, rfl, by omega, by omega, K3.out⟩
    · have iex : ¬ (i : Int) < (I.length : Int) := fun h => hil (Int.ofNat_lt.1 h)
      have hend := any_end I i hil
      rw [Bool.true_or] at hu8
      subst hu8
      clear hend
      go_wp2_with fail
      refine (HF _ HBW.out).mono ?_
      rintro e W2 ⟨rfl, b2⟩
      have k2 := HBW.out.trans (b2.mono HBW.out.size)
      go_wp2_with fail
      refine (HF _ k2).mono ?_
      rintro e W3 ⟨rfl, b3⟩
      have k3 := k2.trans (b3.mono k2.size)
      go_wp2_with fail
      go_ret
      exact ⟨rfl, k3⟩
set_option maxHeartbeats 16000000 in
set_option maxRecDepth 100000 in
theorem expand_b (s : ByteArray) (a : Option Addr) (c : Nat) (I : List (ByteArray × ByteArray)) (w : World) (hI : ItAt w (.slice a I.length c) I) (hT : Txt.Tab w) (hn : I.length ≤ 70368744177664) (h1 : ¬ 4000 < s.size) (h2 : 20 < I.length) :
    Calls Tryd.prog 3 #[.string s, .slice a I.length c] w fun e w' => e = .returned (.bool true) ∧ Below w.heap.size w w' := by
  have HT : Hid (∀ V, Below w.heap.size w V → Txt.Tab V) := fun V hV => hT.below hV hT.pos
  have HI : Hid (∀ V, Below w.heap.size w V → ItAt V (.slice a I.length c) I) := fun V hV => hI.below hV
  have HF := fun V (hV : Below w.heap.size w V) => formatted_any V (HT.out V hV)
  have HE := expand_any s (.slice a I.length c) I w hI hT hn
  obtain ⟨a', c', hv, hcell⟩ := hI
  injection hv with e1 e2 e3
  subst e1 e3
  have HCC : Hid (∀ V, Below w.heap.size w V → ∀ i (h : i < I.length), ∃ b' o', a = some ⟨b', o', none⟩ ∧ V.cell? ⟨b', o' + i * 2, none⟩ = some (.string I[i].1) ∧ V.cell? ⟨b', o' + i * 2 + 1, none⟩ = some (.string I[i].2)) := fun V hV i h => by
    obtain ⟨b', o', e4, hc⟩ := hcell.resolve_left (by intro h'; rw [h'] at h; simp at h)
    have := hc i I[i] (List.getElem?_eq_getElem h)
    exact ⟨b', o', e4, cell_below hV this.1, cell_below hV this.2⟩
  have iI : (I.length : Int) ≤ 70368744177664 := by omega
  clear hT hcell
  have hm : much s I = true := by
    unfold much long
    rw [decide_eq_false h1, decide_eq_true h2]
    rfl
  unfold expV at HE
  rw [hm, if_pos rfl] at HE
  clear hm
  have i1 : ¬ (4000 : Int) < (s.size : Int) := by omega
  have i2 : (20 : Int) < (I.length : Int) := by omega
  clear h1 h2
  go_enter Tryd.func3, Tryd.ntmps3
  go_wp2_with fail
  refine HE.mono ?_
  rintro e W1 ⟨rfl, b1⟩
  have HB1 : Hid (Below w.heap.size w W1) := b1
  clear b1 HE
  go_wp2_with fail
  go_loopg [8, 30] (I.length + 1) (fun g u8 u30 wr => ∃ i : Nat, u30 = .int .i64 (i : Int) ∧ u8 = .bool (true || (I.take i).any lg) ∧ i ≤ I.length ∧ I.length - i < g ∧ Below w.heap.size w wr)
  case atStart => exact ⟨0, rfl, rfl, Nat.zero_le _, by omega, HB1.out⟩
  case round =>
    obtain ⟨i, rfl, hu8, hi, hg, hbW⟩ := hrel
    have HBW : Hid (Below w.heap.size w wr) := hbW
    clear HB1
    by_cases hil : i < I.length
    · have iin : (i : Int) < (I.length : Int) := Int.ofNat_lt.2 hil
      obtain ⟨b', o', e4, q0, q1⟩ := HCC.out wr hbW i hil
      subst e4
      have HNX : Hid ((I.take (i + 1)).any lg = ((I.take i).any lg || lg I[i])) := any_next I i hil
      obtain ⟨x, hx⟩ : ∃ x, I[i] = x := ⟨_, rfl⟩
      rw [hx] at q0 q1 HNX
      have HLX : Hid (lg x = decide (4000 < x.2.size)) := rfl
      have kA := own_of_below (w := wr) (.cells #[.string x.1, .string x.2] 27)
      obtain ⟨z0, z1⟩ := cells2 (heap_alloc_new wr (.cells #[.string x.1, .string x.2] 27))
      have K3 : Hid (Below w.heap.size w (wr.alloc (.cells #[.string x.1, .string x.2] 27))) := hbW.trans (kA.mono hbW.size)
      clear kA hx hbW
      rw [Bool.true_or] at hu8
      subst hu8
      go_wp2_with fail
      go_roundg (I.length - i)
      case measure => omega
      case rel => exact ⟨i + 1, by go_num, rfl, by omega, by omega, K3.out⟩
    · have iex : ¬ (i : Int) < (I.length : Int) := fun h => hil (Int.ofNat_lt.1 h)
      have hend := any_end I i hil
      rw [Bool.true_or] at hu8
      subst hu8
      clear hend
      go_wp2_with fail
      refine (HF _ HBW.out).mono ?_
      rintro e W2 ⟨rfl, b2⟩
      have k2 := HBW.out.trans (b2.mono HBW.out.size)
      go_wp2_with fail
      refine (HF _ k2).mono ?_
      rintro e W3 ⟨rfl, b3⟩
      have k3 := k2.trans (b3.mono k2.size)
      go_wp2_with fail
      go_ret
      exact ⟨rfl, k3⟩
set_option maxHeartbeats 16000000 in
set_option maxRecDepth 100000 in
theorem expand_c (s : ByteArray) (a : Option Addr) (c : Nat) (I : List (ByteArray × ByteArray)) (w : World) (hI : ItAt w (.slice a I.length c) I) (hT : Txt.Tab w) (hn : I.length ≤ 70368744177664) (h1 : ¬ 4000 < s.size) (h2 : ¬ 20 < I.length) (h3 : I.any lg = true) :
    Calls Tryd.prog 3 #[.string s, .slice a I.length c] w fun e w' => e = .returned (.bool true) ∧ Below w.heap.size w w' := by
  have HT : Hid (∀ V, Below w.heap.size w V → Txt.Tab V) := fun V hV => hT.below hV hT.pos
  have HI : Hid (∀ V, Below w.heap.size w V → ItAt V (.slice a I.length c) I) := fun V hV => hI.below hV
  have HF := fun V (hV : Below w.heap.size w V) => formatted_any V (HT.out V hV)
  have HE := expand_any s (.slice a I.length c) I w hI hT hn
  obtain ⟨a', c', hv, hcell⟩ := hI
  injection hv with e1 e2 e3
  subst e1 e3
  have HCC : Hid (∀ V, Below w.heap.size w V → ∀ i (h : i < I.length), ∃ b' o', a = some ⟨b', o', none⟩ ∧ V.cell? ⟨b', o' + i * 2, none⟩ = some (.string I[i].1) ∧ V.cell? ⟨b', o' + i * 2 + 1, none⟩ = some (.string I[i].2)) := fun V hV i h => by
    obtain ⟨b', o', e4, hc⟩ := hcell.resolve_left (by intro h'; rw [h'] at h; simp at h)
    have := hc i I[i] (List.getElem?_eq_getElem h)
    exact ⟨b', o', e4, cell_below hV this.1, cell_below hV this.2⟩
  have iI : (I.length : Int) ≤ 70368744177664 := by omega
  clear hT hcell
  have hm : much s I = true := by
    unfold much long
    rw [decide_eq_false h1, decide_eq_false h2]
    exact h3
  unfold expV at HE
  rw [hm, if_pos rfl] at HE
  clear hm
  have i1 : ¬ (4000 : Int) < (s.size : Int) := by omega
  have i2 : ¬ (20 : Int) < (I.length : Int) := by omega
  clear h1 h2
  go_enter Tryd.func3, Tryd.ntmps3
  go_wp2_with fail
  refine HE.mono ?_
  rintro e W1 ⟨rfl, b1⟩
  have HB1 : Hid (Below w.heap.size w W1) := b1
  clear b1 HE
  go_wp2_with fail
  go_loopg [8, 30] (I.length + 1) (fun g u8 u30 wr => ∃ i : Nat, u30 = .int .i64 (i : Int) ∧ u8 = .bool (false || (I.take i).any lg) ∧ i ≤ I.length ∧ I.length - i < g ∧ Below w.heap.size w wr)
  case atStart => exact ⟨0, rfl, congrArg Value.bool (by rw [decide_eq_false (by omega), decide_eq_false (by omega)]; rfl), Nat.zero_le _, by omega, HB1.out⟩
  case round =>
    obtain ⟨i, rfl, hu8, hi, hg, hbW⟩ := hrel
    have HBW : Hid (Below w.heap.size w wr) := hbW
    clear HB1
    by_cases hil : i < I.length
    · have iin : (i : Int) < (I.length : Int) := Int.ofNat_lt.2 hil
      obtain ⟨b', o', e4, q0, q1⟩ := HCC.out wr hbW i hil
      subst e4
      have HNX : Hid ((I.take (i + 1)).any lg = ((I.take i).any lg || lg I[i])) := any_next I i hil
      obtain ⟨x, hx⟩ : ∃ x, I[i] = x := ⟨_, rfl⟩
      rw [hx] at q0 q1 HNX
      have HLX : Hid (lg x = decide (4000 < x.2.size)) := rfl
      have kA := own_of_below (w := wr) (.cells #[.string x.1, .string x.2] 27)
      obtain ⟨z0, z1⟩ := cells2 (heap_alloc_new wr (.cells #[.string x.1, .string x.2] 27))
      have K3 : Hid (Below w.heap.size w (wr.alloc (.cells #[.string x.1, .string x.2] 27))) := hbW.trans (kA.mono hbW.size)
      clear kA hx hbW
      rw [Bool.false_or] at hu8
      cases hy : (I.take i).any lg
      · rw [hy] at hu8 HNX
        subst hu8
        by_cases hz : 4000 < x.2.size
        · have iz : (4000 : Int) < (x.2.size : Int) := by omega
          have HN2 : Hid ((false || (I.take (i + 1)).any lg) = true) := by
            show _ = _
            rw [HNX.out, HLX.out, decide_eq_true hz]
            rfl
          clear HNX HLX hy
          go_wp2_with fail
          go_roundg (I.length - i)
          case measure => omega
          case rel => exact ⟨i + 1, by go_num, by rw [HN2.out], by omega, by omega, K3.out⟩
        · have iz : ¬ (4000 : Int) < (x.2.size : Int) := by omega
          have HN2 : Hid ((false || (I.take (i + 1)).any lg) = false) := by
            show _ = _
            rw [HNX.out, HLX.out, decide_eq_false hz]
            rfl
          clear HNX HLX hy
          go_wp2_with fail
          go_roundg (I.length - i)
          case measure => omega
          case rel => exact ⟨i + 1, by go_num, by rw [HN2.out], by omega, by omega, K3.out⟩
      · rw [hy] at hu8 HNX
        subst hu8
        have HN2 : Hid ((false || (I.take (i + 1)).any lg) = true) := by
          show _ = _
          rw [HNX.out]
          rfl
        clear HNX HLX hy
        go_wp2_with fail
        go_roundg (I.length - i)
        case measure => omega
        case rel => exact ⟨i + 1, by go_num, by rw [HN2.out], by omega, by omega, K3.out⟩
    · have iex : ¬ (i : Int) < (I.length : Int) := fun h => hil (Int.ofNat_lt.1 h)
      have hend := any_end I i hil
      rw [Bool.false_or, hend, h3] at hu8
      subst hu8
      clear hend
      go_wp2_with fail
      refine (HF _ HBW.out).mono ?_
      rintro e W2 ⟨rfl, b2⟩
      have k2 := HBW.out.trans (b2.mono HBW.out.size)
      go_wp2_with fail
      refine (HF _ k2).mono ?_
      rintro e W3 ⟨rfl, b3⟩
      have k3 := k2.trans (b3.mono k2.size)
      go_wp2_with fail
      go_ret
      exact ⟨rfl, k3⟩
set_option maxHeartbeats 16000000 in
set_option maxRecDepth 100000 in
theorem expand_bad (s : ByteArray) (a : Option Addr) (c : Nat) (I : List (ByteArray × ByteArray)) (w : World) (hI : ItAt w (.slice a I.length c) I) (hT : Txt.Tab w) (hn : I.length ≤ 70368744177664) (h1 : ¬ 4000 < s.size) (h2 : ¬ 20 < I.length) (h3 : I.any lg = false) (q : Nat) (hr : tx s I 5000 0 0 0 = .bad q) :
    Calls Tryd.prog 3 #[.string s, .slice a I.length c] w fun e w' => e = .returned (.bool true) ∧ Below w.heap.size w w' := by
  have HT : Hid (∀ V, Below w.heap.size w V → Txt.Tab V) := fun V hV => hT.below hV hT.pos
  have HI : Hid (∀ V, Below w.heap.size w V → ItAt V (.slice a I.length c) I) := fun V hV => hI.below hV
  have HF := fun V (hV : Below w.heap.size w V) => formatted_any V (HT.out V hV)
  have HE := expand_any s (.slice a I.length c) I w hI hT hn
  obtain ⟨a', c', hv, hcell⟩ := hI
  injection hv with e1 e2 e3
  subst e1 e3
  have HCC : Hid (∀ V, Below w.heap.size w V → ∀ i (h : i < I.length), ∃ b' o', a = some ⟨b', o', none⟩ ∧ V.cell? ⟨b', o' + i * 2, none⟩ = some (.string I[i].1) ∧ V.cell? ⟨b', o' + i * 2 + 1, none⟩ = some (.string I[i].2)) := fun V hV i h => by
    obtain ⟨b', o', e4, hc⟩ := hcell.resolve_left (by intro h'; rw [h'] at h; simp at h)
    have := hc i I[i] (List.getElem?_eq_getElem h)
    exact ⟨b', o', e4, cell_below hV this.1, cell_below hV this.2⟩
  have iI : (I.length : Int) ≤ 70368744177664 := by omega
  clear hT hcell
  have hs : s.size ≤ 4000 := by omega
  have hlen : I.length ≤ 20 := by omega
  have hz : ∀ x ∈ I, x.2.size ≤ 4000 := fun x hx => by
    have := List.any_eq_false.1 h3 x hx
    unfold lg at this
    simp at this
    exact this
  have hm : much s I = false := by
    unfold much long
    rw [decide_eq_false h1, decide_eq_false h2]
    exact h3
  unfold expV at HE
  rw [hm, if_neg (by decide), hr] at HE
  have i1 : ¬ (4000 : Int) < (s.size : Int) := by omega
  have i2 : ¬ (20 : Int) < (I.length : Int) := by omega
  clear h1 h2 hm
  unfold outV at HE
  have iq : (q : Int) ≥ 0 := Int.natCast_nonneg _
  go_enter Tryd.func3, Tryd.ntmps3
  go_wp2_with fail
  refine HE.mono ?_
  rintro e W1 ⟨rfl, b1⟩
  have HB1 : Hid (Below w.heap.size w W1) := b1
  clear b1 HE
  go_wp2_with fail
  go_loopg [8, 30] (I.length + 1) (fun g u8 u30 wr => ∃ i : Nat, u30 = .int .i64 (i : Int) ∧ u8 = .bool (false || (I.take i).any lg) ∧ i ≤ I.length ∧ I.length - i < g ∧ Below w.heap.size w wr)
  case atStart => exact ⟨0, rfl, congrArg Value.bool (by rw [decide_eq_false (by omega), decide_eq_false (by omega)]; rfl), Nat.zero_le _, by omega, HB1.out⟩
  case round =>
    obtain ⟨i, rfl, hu8, hi, hg, hbW⟩ := hrel
    have HBW : Hid (Below w.heap.size w wr) := hbW
    clear HB1
    by_cases hil : i < I.length
    · have iin : (i : Int) < (I.length : Int) := Int.ofNat_lt.2 hil
      obtain ⟨b', o', e4, q0, q1⟩ := HCC.out wr hbW i hil
      subst e4
      have HNX : Hid ((I.take (i + 1)).any lg = ((I.take i).any lg || lg I[i])) := any_next I i hil
      obtain ⟨x, hx⟩ : ∃ x, I[i] = x := ⟨_, rfl⟩
      rw [hx] at q0 q1 HNX
      have HLX : Hid (lg x = decide (4000 < x.2.size)) := rfl
      have kA := own_of_below (w := wr) (.cells #[.string x.1, .string x.2] 27)
      obtain ⟨z0, z1⟩ := cells2 (heap_alloc_new wr (.cells #[.string x.1, .string x.2] 27))
      have K3 : Hid (Below w.heap.size w (wr.alloc (.cells #[.string x.1, .string x.2] 27))) := hbW.trans (kA.mono hbW.size)
      clear kA hx hbW
      rw [Bool.false_or] at hu8
      cases hy : (I.take i).any lg
      · rw [hy] at hu8 HNX
        subst hu8
        by_cases hz : 4000 < x.2.size
        · have iz : (4000 : Int) < (x.2.size : Int) := by omega
          have HN2 : Hid ((false || (I.take (i + 1)).any lg) = true) := by
            show _ = _
            rw [HNX.out, HLX.out, decide_eq_true hz]
            rfl
          clear HNX HLX hy
          go_wp2_with fail
          go_roundg (I.length - i)
          case measure => omega
          case rel => exact ⟨i + 1, by go_num, by rw [HN2.out], by omega, by omega, K3.out⟩
        · have iz : ¬ (4000 : Int) < (x.2.size : Int) := by omega
          have HN2 : Hid ((false || (I.take (i + 1)).any lg) = false) := by
            show _ = _
            rw [HNX.out, HLX.out, decide_eq_false hz]
            rfl
          clear HNX HLX hy
          go_wp2_with fail
          go_roundg (I.length - i)
          case measure => omega
          case rel => exact ⟨i + 1, by go_num, by rw [HN2.out], by omega, by omega, K3.out⟩
      · rw [hy] at hu8 HNX
        subst hu8
        have HN2 : Hid ((false || (I.take (i + 1)).any lg) = true) := by
          show _ = _
          rw [HNX.out]
          rfl
        clear HNX HLX hy
        go_wp2_with fail
        go_roundg (I.length - i)
        case measure => omega
        case rel => exact ⟨i + 1, by go_num, by rw [HN2.out], by omega, by omega, K3.out⟩
    · have iex : ¬ (i : Int) < (I.length : Int) := fun h => hil (Int.ofNat_lt.1 h)
      have hend := any_end I i hil
      rw [Bool.false_or, hend, h3] at hu8
      subst hu8
      clear hend
      go_wp2_with fail
      refine (HF _ HBW.out).mono ?_
      rintro e W2 ⟨rfl, b2⟩
      have k2 := HBW.out.trans (b2.mono HBW.out.size)
      have kA := own_of_below (w := W2) (.cells #[.string s, .int .i64 0, .int .i64 (-1), .slice a I.length c] 31)
      have k3 := k2.trans (kA.mono k2.size)
      have rA : ExAt (W2.alloc (.cells #[.string s, .int .i64 0, .int .i64 (-1), .slice a I.length c] 31)) W2.heap.size s (.slice a I.length c) 0 (-1) := heap_alloc_new W2 (.cells #[.string s, .int .i64 0, .int .i64 (-1), .slice a I.length c] 31)
      have E : Env W2 W2.heap.size (.slice a I.length c) I := ⟨Nat.le_refl _, fun V hV => HI.out V (k2.trans (hV.mono k2.size)), fun V hV => HT.out V (k2.trans (hV.mono k2.size)), hz, hlen⟩
      have HX := textX_any W2 W2.heap.size s (.slice a I.length c) I E hs 5000 0 0 0 _ kA rA (Nat.zero_le _) (by omega) (by omega)
      rw [hr] at HX
      rw [show ends 0 = ⟨#[]⟩ from rfl] at HX
      have HA : Hid (Below w.heap.size w (W2.alloc (.cells #[.string s, .int .i64 0, .int .i64 (-1), .slice a I.length c] 31)) ∧ w.heap.size ≤ W2.heap.size) := ⟨k3, k2.size⟩
      clear b2 kA rA E k3
      go_wp2_with fail
      refine HX.mono ?_
      rintro e W3 ⟨z, rfl, hzz, r3, b3⟩
      obtain ⟨⟨_, _, x2, _⟩, _⟩ := r3.cells
      have HO : Hid (Below w.heap.size w W3) := HA.out.1.trans (b3.below HA.out.2 HA.out.1.size)
      clear r3 b3 hzz HA
      go_wp2_with fail
      go_ret
      exact ⟨rfl, HO.out⟩
set_option maxHeartbeats 16000000 in
set_option maxRecDepth 100000 in
theorem expand_full (s : ByteArray) (a : Option Addr) (c : Nat) (I : List (ByteArray × ByteArray)) (w : World) (hI : ItAt w (.slice a I.length c) I) (hT : Txt.Tab w) (hn : I.length ≤ 70368744177664) (h1 : ¬ 4000 < s.size) (h2 : ¬ 20 < I.length) (h3 : I.any lg = false) (o : List UInt8) (q : Nat) (hr : tx s I 5000 0 0 0 = .ok o q) (h4 : 4000 < o.length) :
    Calls Tryd.prog 3 #[.string s, .slice a I.length c] w fun e w' => e = .returned (.bool true) ∧ Below w.heap.size w w' := by
  have HT : Hid (∀ V, Below w.heap.size w V → Txt.Tab V) := fun V hV => hT.below hV hT.pos
  have HI : Hid (∀ V, Below w.heap.size w V → ItAt V (.slice a I.length c) I) := fun V hV => hI.below hV
  have HF := fun V (hV : Below w.heap.size w V) => formatted_any V (HT.out V hV)
  have HE := expand_any s (.slice a I.length c) I w hI hT hn
  obtain ⟨a', c', hv, hcell⟩ := hI
  injection hv with e1 e2 e3
  subst e1 e3
  have HCC : Hid (∀ V, Below w.heap.size w V → ∀ i (h : i < I.length), ∃ b' o', a = some ⟨b', o', none⟩ ∧ V.cell? ⟨b', o' + i * 2, none⟩ = some (.string I[i].1) ∧ V.cell? ⟨b', o' + i * 2 + 1, none⟩ = some (.string I[i].2)) := fun V hV i h => by
    obtain ⟨b', o', e4, hc⟩ := hcell.resolve_left (by intro h'; rw [h'] at h; simp at h)
    have := hc i I[i] (List.getElem?_eq_getElem h)
    exact ⟨b', o', e4, cell_below hV this.1, cell_below hV this.2⟩
  have iI : (I.length : Int) ≤ 70368744177664 := by omega
  clear hT hcell
  have hs : s.size ≤ 4000 := by omega
  have hlen : I.length ≤ 20 := by omega
  have hz : ∀ x ∈ I, x.2.size ≤ 4000 := fun x hx => by
    have := List.any_eq_false.1 h3 x hx
    unfold lg at this
    simp at this
    exact this
  have hm : much s I = false := by
    unfold much long
    rw [decide_eq_false h1, decide_eq_false h2]
    exact h3
  unfold expV at HE
  rw [hm, if_neg (by decide), hr] at HE
  have i1 : ¬ (4000 : Int) < (s.size : Int) := by omega
  have i2 : ¬ (20 : Int) < (I.length : Int) := by omega
  clear h1 h2 hm
  unfold outV at HE
  dsimp only at HE
  rw [if_pos h4] at HE
  have hol : (⟨o.toArray⟩ : ByteArray).size = o.length := List.size_toArray
  have i4 : (4000 : Int) < ((⟨o.toArray⟩ : ByteArray).size : Int) := by rw [hol]; omega
  have i5 : (4000 : Int) < (o.length : Int) := by omega
  have i6 : 4000 < o.length := h4
  clear h4 hol
  go_enter Tryd.func3, Tryd.ntmps3
  go_wp2_with fail
  refine HE.mono ?_
  rintro e W1 ⟨rfl, b1⟩
  have HB1 : Hid (Below w.heap.size w W1) := b1
  clear b1 HE
  go_wp2_with fail
  go_loopg [8, 30] (I.length + 1) (fun g u8 u30 wr => ∃ i : Nat, u30 = .int .i64 (i : Int) ∧ u8 = .bool (false || (I.take i).any lg) ∧ i ≤ I.length ∧ I.length - i < g ∧ Below w.heap.size w wr)
  case atStart => exact ⟨0, rfl, congrArg Value.bool (by rw [decide_eq_false (by omega), decide_eq_false (by omega)]; rfl), Nat.zero_le _, by omega, HB1.out⟩
  case round =>
    obtain ⟨i, rfl, hu8, hi, hg, hbW⟩ := hrel
    have HBW : Hid (Below w.heap.size w wr) := hbW
    clear HB1
    by_cases hil : i < I.length
    · have iin : (i : Int) < (I.length : Int) := Int.ofNat_lt.2 hil
      obtain ⟨b', o', e4, q0, q1⟩ := HCC.out wr hbW i hil
      subst e4
      have HNX : Hid ((I.take (i + 1)).any lg = ((I.take i).any lg || lg I[i])) := any_next I i hil
      obtain ⟨x, hx⟩ : ∃ x, I[i] = x := ⟨_, rfl⟩
      rw [hx] at q0 q1 HNX
      have HLX : Hid (lg x = decide (4000 < x.2.size)) := rfl
      have kA := own_of_below (w := wr) (.cells #[.string x.1, .string x.2] 27)
      obtain ⟨z0, z1⟩ := cells2 (heap_alloc_new wr (.cells #[.string x.1, .string x.2] 27))
      have K3 : Hid (Below w.heap.size w (wr.alloc (.cells #[.string x.1, .string x.2] 27))) := hbW.trans (kA.mono hbW.size)
      clear kA hx hbW
      rw [Bool.false_or] at hu8
      cases hy : (I.take i).any lg
      · rw [hy] at hu8 HNX
        subst hu8
        by_cases hz : 4000 < x.2.size
        · have iz : (4000 : Int) < (x.2.size : Int) := by omega
          have HN2 : Hid ((false || (I.take (i + 1)).any lg) = true) := by
            show _ = _
            rw [HNX.out, HLX.out, decide_eq_true hz]
            rfl
          clear HNX HLX hy
          go_wp2_with fail
          go_roundg (I.length - i)
          case measure => omega
          case rel => exact ⟨i + 1, by go_num, by rw [HN2.out], by omega, by omega, K3.out⟩
        · have iz : ¬ (4000 : Int) < (x.2.size : Int) := by omega
          have HN2 : Hid ((false || (I.take (i + 1)).any lg) = false) := by
            show _ = _
            rw [HNX.out, HLX.out, decide_eq_false hz]
            rfl
          clear HNX HLX hy
          go_wp2_with fail
          go_roundg (I.length - i)
          case measure => omega
          case rel => exact ⟨i + 1, by go_num, by rw [HN2.out], by omega, by omega, K3.out⟩
      · rw [hy] at hu8 HNX
        subst hu8
        have HN2 : Hid ((false || (I.take (i + 1)).any lg) = true) := by
          show _ = _
          rw [HNX.out]
          rfl
        clear HNX HLX hy
        go_wp2_with fail
        go_roundg (I.length - i)
        case measure => omega
        case rel => exact ⟨i + 1, by go_num, by rw [HN2.out], by omega, by omega, K3.out⟩
    · have iex : ¬ (i : Int) < (I.length : Int) := fun h => hil (Int.ofNat_lt.1 h)
      have hend := any_end I i hil
      rw [Bool.false_or, hend, h3] at hu8
      subst hu8
      clear hend
      go_wp2_with fail
      refine (HF _ HBW.out).mono ?_
      rintro e W2 ⟨rfl, b2⟩
      have k2 := HBW.out.trans (b2.mono HBW.out.size)
      have kA := own_of_below (w := W2) (.cells #[.string s, .int .i64 0, .int .i64 (-1), .slice a I.length c] 31)
      have k3 := k2.trans (kA.mono k2.size)
      have rA : ExAt (W2.alloc (.cells #[.string s, .int .i64 0, .int .i64 (-1), .slice a I.length c] 31)) W2.heap.size s (.slice a I.length c) 0 (-1) := heap_alloc_new W2 (.cells #[.string s, .int .i64 0, .int .i64 (-1), .slice a I.length c] 31)
      have E : Env W2 W2.heap.size (.slice a I.length c) I := ⟨Nat.le_refl _, fun V hV => HI.out V (k2.trans (hV.mono k2.size)), fun V hV => HT.out V (k2.trans (hV.mono k2.size)), hz, hlen⟩
      have HX := textX_any W2 W2.heap.size s (.slice a I.length c) I E hs 5000 0 0 0 _ kA rA (Nat.zero_le _) (by omega) (by omega)
      rw [hr] at HX
      rw [show ends 0 = ⟨#[]⟩ from rfl] at HX
      have HA : Hid (Below w.heap.size w (W2.alloc (.cells #[.string s, .int .i64 0, .int .i64 (-1), .slice a I.length c] 31)) ∧ w.heap.size ≤ W2.heap.size) := ⟨k3, k2.size⟩
      clear b2 kA rA E k3
      go_wp2_with fail
      refine HX.mono ?_
      rintro e W3 ⟨rfl, r3, b3⟩
      obtain ⟨⟨_, _, x2, _⟩, _⟩ := r3.cells
      have HO : Hid (Below w.heap.size w W3) := HA.out.1.trans (b3.below HA.out.2 HA.out.1.size)
      clear r3 b3 HA
      go_wp2_with fail
      go_ret
      exact ⟨rfl, HO.out⟩
set_option maxHeartbeats 16000000 in
set_option maxRecDepth 100000 in
theorem expand_good (s : ByteArray) (a : Option Addr) (c : Nat) (I : List (ByteArray × ByteArray)) (w : World) (hI : ItAt w (.slice a I.length c) I) (hT : Txt.Tab w) (hn : I.length ≤ 70368744177664) (h1 : ¬ 4000 < s.size) (h2 : ¬ 20 < I.length) (h3 : I.any lg = false) (o : List UInt8) (q : Nat) (hr : tx s I 5000 0 0 0 = .ok o q) (h4 : ¬ 4000 < o.length) :
    Calls Tryd.prog 3 #[.string s, .slice a I.length c] w fun e w' => e = .returned (.bool true) ∧ Below w.heap.size w w' := by
  have HT : Hid (∀ V, Below w.heap.size w V → Txt.Tab V) := fun V hV => hT.below hV hT.pos
  have HI : Hid (∀ V, Below w.heap.size w V → ItAt V (.slice a I.length c) I) := fun V hV => hI.below hV
  have HF := fun V (hV : Below w.heap.size w V) => formatted_any V (HT.out V hV)
  have HE := expand_any s (.slice a I.length c) I w hI hT hn
  obtain ⟨a', c', hv, hcell⟩ := hI
  injection hv with e1 e2 e3
  subst e1 e3
  have HCC : Hid (∀ V, Below w.heap.size w V → ∀ i (h : i < I.length), ∃ b' o', a = some ⟨b', o', none⟩ ∧ V.cell? ⟨b', o' + i * 2, none⟩ = some (.string I[i].1) ∧ V.cell? ⟨b', o' + i * 2 + 1, none⟩ = some (.string I[i].2)) := fun V hV i h => by
    obtain ⟨b', o', e4, hc⟩ := hcell.resolve_left (by intro h'; rw [h'] at h; simp at h)
    have := hc i I[i] (List.getElem?_eq_getElem h)
    exact ⟨b', o', e4, cell_below hV this.1, cell_below hV this.2⟩
  have iI : (I.length : Int) ≤ 70368744177664 := by omega
  clear hT hcell
  have hs : s.size ≤ 4000 := by omega
  have hlen : I.length ≤ 20 := by omega
  have hz : ∀ x ∈ I, x.2.size ≤ 4000 := fun x hx => by
    have := List.any_eq_false.1 h3 x hx
    unfold lg at this
    simp at this
    exact this
  have hm : much s I = false := by
    unfold much long
    rw [decide_eq_false h1, decide_eq_false h2]
    exact h3
  unfold expV at HE
  rw [hm, if_neg (by decide), hr] at HE
  have i1 : ¬ (4000 : Int) < (s.size : Int) := by omega
  have i2 : ¬ (20 : Int) < (I.length : Int) := by omega
  clear h1 h2 hm
  unfold outV at HE
  dsimp only at HE
  rw [if_neg h4] at HE
  have hol : (⟨o.toArray⟩ : ByteArray).size = o.length := List.size_toArray
  have i4 : ¬ (4000 : Int) < ((⟨o.toArray⟩ : ByteArray).size : Int) := by rw [hol]; omega
  have i5 : ¬ (4000 : Int) < (o.length : Int) := by omega
  have i6 : ¬ 4000 < o.length := h4
  clear h4 hol
  go_enter Tryd.func3, Tryd.ntmps3
  go_wp2_with fail
  refine HE.mono ?_
  rintro e W1 ⟨rfl, b1⟩
  have HB1 : Hid (Below w.heap.size w W1) := b1
  clear b1 HE
  go_wp2_with fail
  go_loopg [8, 30] (I.length + 1) (fun g u8 u30 wr => ∃ i : Nat, u30 = .int .i64 (i : Int) ∧ u8 = .bool (false || (I.take i).any lg) ∧ i ≤ I.length ∧ I.length - i < g ∧ Below w.heap.size w wr)
  case atStart => exact ⟨0, rfl, congrArg Value.bool (by rw [decide_eq_false (by omega), decide_eq_false (by omega)]; rfl), Nat.zero_le _, by omega, HB1.out⟩
  case round =>
    obtain ⟨i, rfl, hu8, hi, hg, hbW⟩ := hrel
    have HBW : Hid (Below w.heap.size w wr) := hbW
    clear HB1
    by_cases hil : i < I.length
    · have iin : (i : Int) < (I.length : Int) := Int.ofNat_lt.2 hil
      obtain ⟨b', o', e4, q0, q1⟩ := HCC.out wr hbW i hil
      subst e4
      have HNX : Hid ((I.take (i + 1)).any lg = ((I.take i).any lg || lg I[i])) := any_next I i hil
      obtain ⟨x, hx⟩ : ∃ x, I[i] = x := ⟨_, rfl⟩
      rw [hx] at q0 q1 HNX
      have HLX : Hid (lg x = decide (4000 < x.2.size)) := rfl
      have kA := own_of_below (w := wr) (.cells #[.string x.1, .string x.2] 27)
      obtain ⟨z0, z1⟩ := cells2 (heap_alloc_new wr (.cells #[.string x.1, .string x.2] 27))
      have K3 : Hid (Below w.heap.size w (wr.alloc (.cells #[.string x.1, .string x.2] 27))) := hbW.trans (kA.mono hbW.size)
      clear kA hx hbW
      rw [Bool.false_or] at hu8
      cases hy : (I.take i).any lg
      · rw [hy] at hu8 HNX
        subst hu8
        by_cases hz : 4000 < x.2.size
        · have iz : (4000 : Int) < (x.2.size : Int) := by omega
          have HN2 : Hid ((false || (I.take (i + 1)).any lg) = true) := by
            show _ = _
            rw [HNX.out, HLX.out, decide_eq_true hz]
            rfl
          clear HNX HLX hy
          go_wp2_with fail
          go_roundg (I.length - i)
          case measure => omega
          case rel => exact ⟨i + 1, by go_num, by rw [HN2.out], by omega, by omega, K3.out⟩
        · have iz : ¬ (4000 : Int) < (x.2.size : Int) := by omega
          have HN2 : Hid ((false || (I.take (i + 1)).any lg) = false) := by
            show _ = _
            rw [HNX.out, HLX.out, decide_eq_false hz]
            rfl
          clear HNX HLX hy
          go_wp2_with fail
          go_roundg (I.length - i)
          case measure => omega
          case rel => exact ⟨i + 1, by go_num, by rw [HN2.out], by omega, by omega, K3.out⟩
      · rw [hy] at hu8 HNX
        subst hu8
        have HN2 : Hid ((false || (I.take (i + 1)).any lg) = true) := by
          show _ = _
          rw [HNX.out]
          rfl
        clear HNX HLX hy
        go_wp2_with fail
        go_roundg (I.length - i)
        case measure => omega
        case rel => exact ⟨i + 1, by go_num, by rw [HN2.out], by omega, by omega, K3.out⟩
    · have iex : ¬ (i : Int) < (I.length : Int) := fun h => hil (Int.ofNat_lt.1 h)
      have hend := any_end I i hil
      rw [Bool.false_or, hend, h3] at hu8
      subst hu8
      clear hend
      go_wp2_with fail
      refine (HF _ HBW.out).mono ?_
      rintro e W2 ⟨rfl, b2⟩
      have k2 := HBW.out.trans (b2.mono HBW.out.size)
      have kA := own_of_below (w := W2) (.cells #[.string s, .int .i64 0, .int .i64 (-1), .slice a I.length c] 31)
      have k3 := k2.trans (kA.mono k2.size)
      have rA : ExAt (W2.alloc (.cells #[.string s, .int .i64 0, .int .i64 (-1), .slice a I.length c] 31)) W2.heap.size s (.slice a I.length c) 0 (-1) := heap_alloc_new W2 (.cells #[.string s, .int .i64 0, .int .i64 (-1), .slice a I.length c] 31)
      have E : Env W2 W2.heap.size (.slice a I.length c) I := ⟨Nat.le_refl _, fun V hV => HI.out V (k2.trans (hV.mono k2.size)), fun V hV => HT.out V (k2.trans (hV.mono k2.size)), hz, hlen⟩
      have HX := textX_any W2 W2.heap.size s (.slice a I.length c) I E hs 5000 0 0 0 _ kA rA (Nat.zero_le _) (by omega) (by omega)
      rw [hr] at HX
      rw [show ends 0 = ⟨#[]⟩ from rfl] at HX
      have HA : Hid (Below w.heap.size w (W2.alloc (.cells #[.string s, .int .i64 0, .int .i64 (-1), .slice a I.length c] 31)) ∧ w.heap.size ≤ W2.heap.size) := ⟨k3, k2.size⟩
      clear b2 kA rA E k3
      go_wp2_with fail
      refine HX.mono ?_
      rintro e W3 ⟨rfl, r3, b3⟩
      obtain ⟨⟨_, _, x2, _⟩, _⟩ := r3.cells
      have HO : Hid (Below w.heap.size w W3) := HA.out.1.trans (b3.below HA.out.2 HA.out.1.size)
      clear r3 b3 HA
      go_wp2_with fail
      go_ret
      exact ⟨rfl, HO.out⟩
theorem formatExpand_walk (s : ByteArray) (a : Option Addr) (c : Nat) (I : List (ByteArray × ByteArray)) (w : World) (hI : ItAt w (.slice a I.length c) I) (hT : Txt.Tab w) (hn : I.length ≤ 70368744177664) :
    Calls Tryd.prog 3 #[.string s, .slice a I.length c] w fun e w' => e = .returned (.bool true) ∧ Below w.heap.size w w' := by
  by_cases h1 : 4000 < s.size
  · exact expand_a s a c I w hI hT hn h1
  by_cases h2 : 20 < I.length
  · exact expand_b s a c I w hI hT hn h1 h2
  cases h3 : I.any lg
  rotate_left
  · exact expand_c s a c I w hI hT hn h1 h2 h3
  cases hr : tx s I 5000 0 0 0 with
  | bad q => exact expand_bad s a c I w hI hT hn h1 h2 h3 q hr
  | ok o q =>
    by_cases h4 : 4000 < o.length
    · exact expand_full s a c I w hI hT hn h1 h2 h3 o q hr h4
    · exact expand_good s a c I w hI hT hn h1 h2 h3 o q hr h4
end Fmt
end Go.Proofs.YtbhoklhcdefabaaDoor
