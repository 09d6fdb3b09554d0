/- The walk of text.Wide. -/
import Derived.Test.YtplceodnllcimaaDoorPartD
import Derived.Test.YtplceodnllcimaaDoorShelf
import Derived.Lib.LaidU8
import Derived.Deep.Strs
import Derived.Laws.Tables
import Derived.Laws.CopyOwn
import Derived.Laws.OwnMore
import Derived.WalkSmall
import Derived.Maps.AppendAt
import Derived.Deep.MidRow
import Derived.Deep.RegionHeld3
import Derived.Deep.CutRange
import Derived.Laws.IdiomStrings
import Derived.BigQuiet
import Derived.Laws.ResultCell
import Derived.Lib.IndexLaws
import Derived.Lib.Strings
import Derived.Lib.AtoiErrMem
namespace Go.Proofs.YtplceodnllcimaaDoor
open Go.ChangeShapes Go.WideShapes Go.ChangeAt Go.RowKit
namespace Txt

end Txt
end Go.Proofs.YtplceodnllcimaaDoor

/- The walk of text.Cut. -/
namespace Go.Proofs.YtplceodnllcimaaDoor
open Go.ChangeShapes Go.WideShapes Go.ChangeAt Go.RowKit
namespace Txt
theorem ret_str {a b : ByteArray} (h : a = b) : Ending.returned (.string a) = .returned (.string b) := by rw [h]

set_option maxHeartbeats 400000 in
theorem clone_any (s : ByteArray) (w : World) (hs : s.size ≤ 281474976710656) :
    Calls Tryd.prog 9 #[.string s] w fun e w' => e = .returned (.string s) ∧ Below w.heap.size w w' := by
  go_enter Tryd.func9, Tryd.ntmps9
  go_wp2_with (go_at_call 15; refine (Tryd.stringslite_Clone _ _ hs).mono ?_; rintro e W1 ⟨rfl, b1⟩)
  go_ret
  exact ⟨rfl, b1⟩
theorem extract_take (s : ByteArray) (k : Nat) : s.extract 0 k = ⟨(s.data.toList.take k).toArray⟩ := by
  rw [Lib.extract_eq]; simp
theorem extract_size_le (s : ByteArray) (k : Nat) : (s.extract 0 k).size ≤ s.size := by
  simp; omega

end Txt
end Go.Proofs.YtplceodnllcimaaDoor

/- The walks of text.Cut, text.Wide and text.Fit, said of lists of bytes; and of trellislaw.written. -/
namespace Go.Proofs.YtplceodnllcimaaDoor
open Go.ChangeShapes Go.WideShapes Go.ChangeAt Go.RowKit
namespace Txt
def cutB (l : List UInt8) (n : Int) : List UInt8 := l.take (cutL n (rn l) 0)
def wideB (l : List UInt8) : Int := wideL (rn l)
def fitB (l : List UInt8) (n : Int) : List UInt8 := if n < 0 ∨ 120 < n then [] else fitL l n
def bs (l : List UInt8) : ByteArray := ⟨l.toArray⟩
theorem bs_size (l : List UInt8) : (bs l).size = l.length := by simp [bs, ByteArray.size]
theorem bs_data (l : List UInt8) : (bs l).data.toList = l := by simp [bs]
theorem bs_self (s : ByteArray) : bs s.data.toList = s := by cases s; simp [bs]
theorem bs_append (a b : List UInt8) : bs a ++ bs b = bs (a ++ b) := by
  apply ByteArray.ext
  simp [bs]
theorem cutB_length (l : List UInt8) (n : Int) : (cutB l n).length ≤ l.length := by simp [cutB]; omega

end Txt
end Go.Proofs.YtplceodnllcimaaDoor

/- The table of spans as the row lists it: its cells. -/
namespace Go.Proofs.YtplceodnllcimaaDoor
open Go.ChangeShapes Go.WideShapes Go.ChangeAt Go.RowKit
namespace Txt
theorem slices3 : ∀ (l : List (Int × Int × Int)) (cs : List Value), cs.length = 3 * l.length → (∀ i x, l[i]? = some x → (cs.drop (i * 3)).take 3 = cell3 x) → cs = l.flatMap cell3
  | [], cs, hl, _ => by simpa using hl
  | x :: t, cs, hl, h => by
    have h0 := h 0 x rfl
    have ht := slices3 t (cs.drop 3) (by simp only [List.length_drop, List.length_cons] at hl ⊢; omega) (fun i y hy => by
      have := h (i + 1) y (by simpa using hy)
      rw [List.drop_drop]
      rwa [show 3 + i * 3 = (i + 1) * 3 from by omega])
    simp only [Nat.zero_mul, List.drop_zero] at h0
    rw [List.flatMap_cons, ← ht, ← h0, List.take_append_drop]
theorem laid_eq {H : Type} : (Rows.laid_trellis_text_spans : DataW H) = .agg (spans.map fun x => .agg [.lit (.int .i32 x.1), .lit (.int .i32 x.2.1), .lit (.int .i64 x.2.2)]) := rfl
theorem tab_of_reads {w : World} (h : Lib.VarReads Tryd.prog w "trellis/text.spans" Rows.laid_trellis_text_spans) : Tab w := by
  obtain ⟨g, t, cs, fuel, p, hg, hty, hvar, hd⟩ := h
  obtain rfl := Option.some.inj ((show Tryd.prog.globalNamed "trellis/text.spans" = some 2 by kernel_rfl).symm.trans hg)
  obtain rfl := Option.some.inj ((show (Tryd.prog.globals[2]?).map (fun x => x.type) = some 75 by kernel_rfl).symm.trans hty)
  have hlen : cs.toList.length = 63 := by
    obtain ⟨xs, m, _, _, hl, _, _⟩ := DataW.trod_array Tryd.underlying75 hd
    rw [hl]; kernel_rfl
  rw [laid_eq] at hd
  have hcs : cs.toList = spans.flatMap cell3 := by
    refine slices3 spans cs.toList (by rw [hlen]; rfl) (fun i x hx => ?_)
    have hi : i < 21 := (List.getElem?_eq_some_iff.1 hx).1
    obtain ⟨fuel', d, q, hdi, he⟩ := Lib.array_elem Tryd.underlying75 hd i hi
    rw [List.getElem?_map, hx] at hdi
    obtain rfl := Option.some.inj hdi
    rw [show Tryd.prog.cellsOf 74 = 3 by kernel_rfl] at he
    obtain ⟨y0, y1, y2, n, hy, hl, e0, e1, e2⟩ := Deep.trod_struct3 Tryd.underlying74 he
    rw [show Tryd.prog.cellsOf 74 = 3 by kernel_rfl] at hl
    generalize (cs.toList.drop (i * 3)).take 3 = c3 at *
    simp only [Prod.mk.injEq, DataW.agg.injEq, List.cons.injEq, and_true] at hy
    obtain ⟨⟨g0, g1, g2⟩, _⟩ := hy
    simp only [show Tryd.prog.cellsOf 21 = 1 by kernel_rfl, show Tryd.prog.cellsOf 3 = 1 by kernel_rfl] at e0 e1 e2
    obtain ⟨z0, k0, rfl, _⟩ := DataW.trod_int Tryd.underlying21 e0
    obtain ⟨z1, k1, rfl, _⟩ := DataW.trod_int Tryd.underlying21 e1
    obtain ⟨z2, k2, rfl, _⟩ := DataW.trod_int Tryd.underlying3 e2
    match c3, hl with
    | [a, b, c], _ =>
      simp at k0 k1 k2 g0 g1 g2
      subst k0 k1 k2 g0 g1 g2
      rfl
  unfold World.var? at hvar
  rw [hg] at hvar
  simp only [Option.bind_some] at hvar
  split at hvar
  · rename_i c tt fr hh
    obtain rfl := Option.some.inj hvar
    have hc : c = spanCells := by unfold spanCells; rw [← hcs]
    exact ⟨tt, fr, by rw [hh, hc]⟩
  · cases hvar
end Txt
end Go.Proofs.YtplceodnllcimaaDoor

/- The walks of text.Next and of the law TextNext. -/
namespace Go.Proofs.YtplceodnllcimaaDoor
open Go.ChangeShapes Go.WideShapes Go.ChangeAt Go.RowKit
namespace Txt
abbrev U8 (w : World) : Prop := Lib.Utf8Tabs 0 1 w
theorem lt_of_cell {w : World} {b o : Nat} {v : Value} (h : w.cell? ⟨b, o, none⟩ = some v) : b < w.heap.size := by
  by_cases hb : b < w.heap.size
  · exact hb
  · simp [World.cell?, show w.heap[b]? = none from Array.getElem?_eq_none (by omega)] at h
theorem U8.below {w w' : World} (h : U8 w) (hb : Below w.heap.size w w') : U8 w' := by
  refine ⟨fun c hc => ?_, fun i hi => ?_⟩
  · have := h.1 c hc
    rw [hb.cell (lt_of_cell this)]; exact this
  · have := h.2 i hi
    exact ⟨by rw [hb.cell (lt_of_cell this.1)]; exact this.1, by rw [hb.cell (lt_of_cell this.2)]; exact this.2⟩
set_option maxHeartbeats 400000 in
theorem next_empty (w : World) :
    Calls Tryd.prog 25 #[.string (bs [])] w fun e w' => e = .returned (.tuple #[.int .i32 0, .int .i64 0]) ∧ Below w.heap.size w w' := by
  have he : ((bs []).toList == []) = true := by decide +kernel
  go_enter Tryd.func25, Tryd.ntmps25
  go_wp2
  go_ret2
  exact ⟨rfl, Below.refl _ _⟩
set_option maxHeartbeats 400000 in
theorem next_any (s : ByteArray) (w : World) (hU : U8 w) (hs : (s.toList == []) = false) :
    Calls Tryd.prog 25 #[.string s] w fun e w' => e = .returned (.tuple #[.int .i32 (Lib.decodeGo s).1, .int .i64 (Lib.decodeGo s).2]) ∧ Below w.heap.size w w' := by
  have HU : Hid (U8 w) := hU
  clear hU
  go_enter Tryd.func25, Tryd.ntmps25
  go_wp2_with (go_at_call 20; refine (Tryd.utf8_DecodeRuneInString _ _ HU.out).mono ?_; rintro e W1 ⟨rfl, b1⟩)
  go_ret2
  exact ⟨rfl, b1⟩
theorem u8x : U8Extra Tryd.prog Tryd.lays260_ren := { n3 := by kernel_rfl, n4 := by kernel_rfl, y3 := by kernel_rfl, y4 := by kernel_rfl, c5 := by kernel_rfl, c119 := by kernel_rfl, c138 := by kernel_rfl }
theorem first_eq : Lib.firstData = Rows.laid_unicode_utf8_first := by kernel_rfl
theorem accept_eq : Lib.acceptData = Rows.laid_unicode_utf8_acceptRanges := by kernel_rfl
def firstCells : Array Value := (Go.Pinned.utf8FirstZ.map fun (z : Nat) => Value.int .u8 (z : Int)).toArray
def acceptCells : Array Value := ((List.range 16).flatMap fun i => [Value.int .u8 (Lib.accLo i : Int), Value.int .u8 (Lib.accHi i : Int)]).toArray
end Txt
end Go.Proofs.YtplceodnllcimaaDoor

/- utf8.FullRuneInString. (Written by gen_fullrune.py.) -/
namespace Go.Proofs.YtplceodnllcimaaDoor
open Go.ChangeShapes Go.WideShapes Go.ChangeAt Go.RowKit
namespace Prs
open Go.Lib (firstT accLo accHi)
theorem ret_bool {a b : Bool} (h : a = b) : Ending.returned (.bool a) = Ending.returned (.bool b) := by rw [h]
theorem bdn0 {B : Nat} {a w : World} (h : Below B a w) (n : Nat) : Below B a (w.drewN n) := h.trans ⟨rfl, rfl, rfl, Nat.le_refl _, fun _ _ => rfl⟩
set_option maxHeartbeats 4000000 in
set_option maxRecDepth 1000000 in
theorem fullRune_any (s : ByteArray) (w : World) (hT : Lib.Utf8Tabs 0 1 w) :
    Calls Tryd.prog 19 #[.string s] w fun e w' => e = .returned (.bool (full s)) ∧ Below w.heap.size w w' := by
  by_cases h0 : s.size = 0
  · have hz : (s.size : Int) = 0 := by omega
    have e : full s = false := if_pos h0
    rw [e]
    clear e
    go_enter Tryd.func19, Tryd.ntmps19
    go_wp2_with fail
    go_ret
    exact ⟨rfl, Below.refl _ _⟩
  · have hz0 : (0 : Int) < (s.size : Int) := by omega
    have hz0' : ¬ ((s.size : Int) = 0) := by omega
    obtain ⟨x0, hx0⟩ : ∃ x0, s.get! 0 = x0 := ⟨_, rfl⟩
    obtain ⟨x1, hx1⟩ : ∃ x1, s.get! 1 = x1 := ⟨_, rfl⟩
    obtain ⟨x2, hx2⟩ : ∃ x2, s.get! 2 = x2 := ⟨_, rfl⟩
    have hs0 : s[0]'(by omega) = x0 := by rw [← hx0]; exact (Utf8W.get!_of_lt s 0 (by omega)).symm
    have l0 := x0.toNat_lt
    have l1 := x1.toNat_lt
    have l2 := x2.toNat_lt
    have hf : full s = fullN s.size x0.toNat x1.toNat x2.toNat := by unfold full; rw [if_neg h0, hx0, hx1, hx2]
    rw [hf]
    clear hf
    have hc0 := hT.1 x0.toNat (by omega)
    unfold fullN
    rcases Lib.firstT_cases x0.toNat with hX | hX | hX | hX | hX | hX | hX | hX | hX
    · rw [hX] at hc0 ⊢
      rw [if_pos (by omega)]
      clear hT hX
      go_enter Tryd.func19, Tryd.ntmps19
      go_wp2_with fail
      go_ret
      exact ⟨ret_bool (by simp), (Below.refl _ _)⟩
    · rw [hX] at hc0 ⊢
      rw [if_pos (by omega)]
      clear hT hX
      go_enter Tryd.func19, Tryd.ntmps19
      go_wp2_with fail
      go_ret
      exact ⟨ret_bool (by simp), (Below.refl _ _)⟩
    · rw [hX] at hc0 ⊢
      have ha0 := (hT.2 0 (by omega)).1
      have ha1 := (hT.2 0 (by omega)).2
      simp only [accLo, accHi, Nat.reduceMul, Nat.reduceAdd, Nat.reduceEqDiff, if_true, if_false, Nat.reduceMod, Nat.reduceDiv] at ha0 ha1 ⊢
      clear hT hX
      by_cases hn : 2 ≤ s.size
      · have hnz : (2 : Int) ≤ (s.size : Int) := by omega
        rw [if_pos hn]
        go_enter Tryd.func19, Tryd.ntmps19
        go_wp2_with fail
        go_ret
        exact ⟨ret_bool (by simp), (Below.refl _ _)⟩
      · have hnz : ¬ (2 : Int) ≤ (s.size : Int) := by omega
        rw [if_neg hn]
        have m1 : ¬ (1 : Int) < (s.size : Int) := by omega
        have m1d : decide ((1 : Int) < (s.size : Int)) = false := by rw [decide_eq_false_iff_not]; exact m1
        have m2 : ¬ (2 : Int) < (s.size : Int) := by omega
        have m2d : decide ((2 : Int) < (s.size : Int)) = false := by rw [decide_eq_false_iff_not]; exact m2
        rw [if_neg (by omega)]
        go_enter Tryd.func19, Tryd.ntmps19
        go_wp2_with fail
        go_big_quiet (fail)
        go_wp2_with fail
        go_ret
        exact ⟨ret_bool (by simp <;> omega), bdn0 ((Below.refl _ _).alloc (Nat.le_refl _) _) _⟩
    · rw [hX] at hc0 ⊢
      have ha0 := (hT.2 1 (by omega)).1
      have ha1 := (hT.2 1 (by omega)).2
      simp only [accLo, accHi, Nat.reduceMul, Nat.reduceAdd, Nat.reduceEqDiff, if_true, if_false, Nat.reduceMod, Nat.reduceDiv] at ha0 ha1 ⊢
      clear hT hX
      by_cases hn : 3 ≤ s.size
      · have hnz : (3 : Int) ≤ (s.size : Int) := by omega
        rw [if_pos hn]
        go_enter Tryd.func19, Tryd.ntmps19
        go_wp2_with fail
        go_ret
        exact ⟨ret_bool (by simp), (Below.refl _ _)⟩
      · have hnz : ¬ (3 : Int) ≤ (s.size : Int) := by omega
        rw [if_neg hn]
        by_cases n1 : 1 < s.size
        · have m1 : (1 : Int) < (s.size : Int) := by omega
          have hs1 : s[1]'(by omega) = x1 := by rw [← hx1]; exact (Utf8W.get!_of_lt s 1 (by omega)).symm
          by_cases a1 : x1.toNat < 160
          · have a1' : (x1.toNat : Int) < 160 := by omega
            rw [if_pos (by omega)]
            go_enter Tryd.func19, Tryd.ntmps19
            go_wp2_with fail
            go_big_quiet (fail)
            go_wp2_with fail
            go_ret
            exact ⟨ret_bool (by simp), bdn0 ((Below.refl _ _).alloc (Nat.le_refl _) _) _⟩
          · have a1' : ¬ (x1.toNat : Int) < 160 := by omega
            have a1d : decide ((x1.toNat : Int) < 160) = false := by rw [decide_eq_false_iff_not]; exact a1'
            by_cases a2 : 191 < x1.toNat
            · have a2' : (191 : Int) < (x1.toNat : Int) := by omega
              rw [if_pos (by omega)]
              go_enter Tryd.func19, Tryd.ntmps19
              go_wp2_with fail
              go_big_quiet (fail)
              go_wp2_with fail
              go_ret
              exact ⟨ret_bool (by simp), bdn0 ((Below.refl _ _).alloc (Nat.le_refl _) _) _⟩
            · have a2' : ¬ (191 : Int) < (x1.toNat : Int) := by omega
              rw [if_neg (by omega)]
              have m2 : ¬ (2 : Int) < (s.size : Int) := by omega
              have m2d : decide ((2 : Int) < (s.size : Int)) = false := by rw [decide_eq_false_iff_not]; exact m2
              go_enter Tryd.func19, Tryd.ntmps19
              go_wp2_with fail
              go_big_quiet (fail)
              go_wp2_with fail
              go_ret
              exact ⟨ret_bool (by simp <;> omega), bdn0 ((Below.refl _ _).alloc (Nat.le_refl _) _) _⟩
        · have m1 : ¬ (1 : Int) < (s.size : Int) := by omega
          have m1d : decide ((1 : Int) < (s.size : Int)) = false := by rw [decide_eq_false_iff_not]; exact m1
          have m2 : ¬ (2 : Int) < (s.size : Int) := by omega
          have m2d : decide ((2 : Int) < (s.size : Int)) = false := by rw [decide_eq_false_iff_not]; exact m2
          rw [if_neg (by omega)]
          go_enter Tryd.func19, Tryd.ntmps19
          go_wp2_with fail
          go_big_quiet (fail)
          go_wp2_with fail
          go_ret
          exact ⟨ret_bool (by simp <;> omega), bdn0 ((Below.refl _ _).alloc (Nat.le_refl _) _) _⟩
    · rw [hX] at hc0 ⊢
      have ha0 := (hT.2 0 (by omega)).1
      have ha1 := (hT.2 0 (by omega)).2
      simp only [accLo, accHi, Nat.reduceMul, Nat.reduceAdd, Nat.reduceEqDiff, if_true, if_false, Nat.reduceMod, Nat.reduceDiv] at ha0 ha1 ⊢
      clear hT hX
      by_cases hn : 3 ≤ s.size
      · have hnz : (3 : Int) ≤ (s.size : Int) := by omega
        rw [if_pos hn]
        go_enter Tryd.func19, Tryd.ntmps19
        go_wp2_with fail
        go_ret
        exact ⟨ret_bool (by simp), (Below.refl _ _)⟩
      · have hnz : ¬ (3 : Int) ≤ (s.size : Int) := by omega
        rw [if_neg hn]
        by_cases n1 : 1 < s.size
        · have m1 : (1 : Int) < (s.size : Int) := by omega
          have hs1 : s[1]'(by omega) = x1 := by rw [← hx1]; exact (Utf8W.get!_of_lt s 1 (by omega)).symm
          by_cases a1 : x1.toNat < 128
          · have a1' : (x1.toNat : Int) < 128 := by omega
            rw [if_pos (by omega)]
            go_enter Tryd.func19, Tryd.ntmps19
            go_wp2_with fail
            go_big_quiet (fail)
            go_wp2_with fail
            go_ret
            exact ⟨ret_bool (by simp), bdn0 ((Below.refl _ _).alloc (Nat.le_refl _) _) _⟩
          · have a1' : ¬ (x1.toNat : Int) < 128 := by omega
            have a1d : decide ((x1.toNat : Int) < 128) = false := by rw [decide_eq_false_iff_not]; exact a1'
            by_cases a2 : 191 < x1.toNat
            · have a2' : (191 : Int) < (x1.toNat : Int) := by omega
              rw [if_pos (by omega)]
              go_enter Tryd.func19, Tryd.ntmps19
              go_wp2_with fail
              go_big_quiet (fail)
              go_wp2_with fail
              go_ret
              exact ⟨ret_bool (by simp), bdn0 ((Below.refl _ _).alloc (Nat.le_refl _) _) _⟩
            · have a2' : ¬ (191 : Int) < (x1.toNat : Int) := by omega
              rw [if_neg (by omega)]
              have m2 : ¬ (2 : Int) < (s.size : Int) := by omega
              have m2d : decide ((2 : Int) < (s.size : Int)) = false := by rw [decide_eq_false_iff_not]; exact m2
              go_enter Tryd.func19, Tryd.ntmps19
              go_wp2_with fail
              go_big_quiet (fail)
              go_wp2_with fail
              go_ret
              exact ⟨ret_bool (by simp <;> omega), bdn0 ((Below.refl _ _).alloc (Nat.le_refl _) _) _⟩
        · have m1 : ¬ (1 : Int) < (s.size : Int) := by omega
          have m1d : decide ((1 : Int) < (s.size : Int)) = false := by rw [decide_eq_false_iff_not]; exact m1
          have m2 : ¬ (2 : Int) < (s.size : Int) := by omega
          have m2d : decide ((2 : Int) < (s.size : Int)) = false := by rw [decide_eq_false_iff_not]; exact m2
          rw [if_neg (by omega)]
          go_enter Tryd.func19, Tryd.ntmps19
          go_wp2_with fail
          go_big_quiet (fail)
          go_wp2_with fail
          go_ret
          exact ⟨ret_bool (by simp <;> omega), bdn0 ((Below.refl _ _).alloc (Nat.le_refl _) _) _⟩
    · rw [hX] at hc0 ⊢
      have ha0 := (hT.2 2 (by omega)).1
      have ha1 := (hT.2 2 (by omega)).2
      simp only [accLo, accHi, Nat.reduceMul, Nat.reduceAdd, Nat.reduceEqDiff, if_true, if_false, Nat.reduceMod, Nat.reduceDiv] at ha0 ha1 ⊢
      clear hT hX
      by_cases hn : 3 ≤ s.size
      · have hnz : (3 : Int) ≤ (s.size : Int) := by omega
        rw [if_pos hn]
        go_enter Tryd.func19, Tryd.ntmps19
        go_wp2_with fail
        go_ret
        exact ⟨ret_bool (by simp), (Below.refl _ _)⟩
      · have hnz : ¬ (3 : Int) ≤ (s.size : Int) := by omega
        rw [if_neg hn]
        by_cases n1 : 1 < s.size
        · have m1 : (1 : Int) < (s.size : Int) := by omega
          have hs1 : s[1]'(by omega) = x1 := by rw [← hx1]; exact (Utf8W.get!_of_lt s 1 (by omega)).symm
          by_cases a1 : x1.toNat < 128
          · have a1' : (x1.toNat : Int) < 128 := by omega
            rw [if_pos (by omega)]
            go_enter Tryd.func19, Tryd.ntmps19
            go_wp2_with fail
            go_big_quiet (fail)
            go_wp2_with fail
            go_ret
            exact ⟨ret_bool (by simp), bdn0 ((Below.refl _ _).alloc (Nat.le_refl _) _) _⟩
          · have a1' : ¬ (x1.toNat : Int) < 128 := by omega
            have a1d : decide ((x1.toNat : Int) < 128) = false := by rw [decide_eq_false_iff_not]; exact a1'
            by_cases a2 : 159 < x1.toNat
            · have a2' : (159 : Int) < (x1.toNat : Int) := by omega
              rw [if_pos (by omega)]
              go_enter Tryd.func19, Tryd.ntmps19
              go_wp2_with fail
              go_big_quiet (fail)
              go_wp2_with fail
              go_ret
              exact ⟨ret_bool (by simp), bdn0 ((Below.refl _ _).alloc (Nat.le_refl _) _) _⟩
            · have a2' : ¬ (159 : Int) < (x1.toNat : Int) := by omega
              rw [if_neg (by omega)]
              have m2 : ¬ (2 : Int) < (s.size : Int) := by omega
              have m2d : decide ((2 : Int) < (s.size : Int)) = false := by rw [decide_eq_false_iff_not]; exact m2
              go_enter Tryd.func19, Tryd.ntmps19
              go_wp2_with fail
              go_big_quiet (fail)
              go_wp2_with fail
              go_ret
              exact ⟨ret_bool (by simp <;> omega), bdn0 ((Below.refl _ _).alloc (Nat.le_refl _) _) _⟩
        · have m1 : ¬ (1 : Int) < (s.size : Int) := by omega
          have m1d : decide ((1 : Int) < (s.size : Int)) = false := by rw [decide_eq_false_iff_not]; exact m1
          have m2 : ¬ (2 : Int) < (s.size : Int) := by omega
          have m2d : decide ((2 : Int) < (s.size : Int)) = false := by rw [decide_eq_false_iff_not]; exact m2
          rw [if_neg (by omega)]
          go_enter Tryd.func19, Tryd.ntmps19
          go_wp2_with fail
          go_big_quiet (fail)
          go_wp2_with fail
          go_ret
          exact ⟨ret_bool (by simp <;> omega), bdn0 ((Below.refl _ _).alloc (Nat.le_refl _) _) _⟩
    · rw [hX] at hc0 ⊢
      have ha0 := (hT.2 3 (by omega)).1
      have ha1 := (hT.2 3 (by omega)).2
      simp only [accLo, accHi, Nat.reduceMul, Nat.reduceAdd, Nat.reduceEqDiff, if_true, if_false, Nat.reduceMod, Nat.reduceDiv] at ha0 ha1 ⊢
      clear hT hX
      by_cases hn : 4 ≤ s.size
      · have hnz : (4 : Int) ≤ (s.size : Int) := by omega
        rw [if_pos hn]
        go_enter Tryd.func19, Tryd.ntmps19
        go_wp2_with fail
        go_ret
        exact ⟨ret_bool (by simp), (Below.refl _ _)⟩
      · have hnz : ¬ (4 : Int) ≤ (s.size : Int) := by omega
        rw [if_neg hn]
        by_cases n1 : 1 < s.size
        · have m1 : (1 : Int) < (s.size : Int) := by omega
          have hs1 : s[1]'(by omega) = x1 := by rw [← hx1]; exact (Utf8W.get!_of_lt s 1 (by omega)).symm
          by_cases a1 : x1.toNat < 144
          · have a1' : (x1.toNat : Int) < 144 := by omega
            rw [if_pos (by omega)]
            go_enter Tryd.func19, Tryd.ntmps19
            go_wp2_with fail
            go_big_quiet (fail)
            go_wp2_with fail
            go_ret
            exact ⟨ret_bool (by simp), bdn0 ((Below.refl _ _).alloc (Nat.le_refl _) _) _⟩
          · have a1' : ¬ (x1.toNat : Int) < 144 := by omega
            have a1d : decide ((x1.toNat : Int) < 144) = false := by rw [decide_eq_false_iff_not]; exact a1'
            by_cases a2 : 191 < x1.toNat
            · have a2' : (191 : Int) < (x1.toNat : Int) := by omega
              rw [if_pos (by omega)]
              go_enter Tryd.func19, Tryd.ntmps19
              go_wp2_with fail
              go_big_quiet (fail)
              go_wp2_with fail
              go_ret
              exact ⟨ret_bool (by simp), bdn0 ((Below.refl _ _).alloc (Nat.le_refl _) _) _⟩
            · have a2' : ¬ (191 : Int) < (x1.toNat : Int) := by omega
              rw [if_neg (by omega)]
              by_cases n2 : 2 < s.size
              · have m2 : (2 : Int) < (s.size : Int) := by omega
                have hs2 : s[2]'(by omega) = x2 := by rw [← hx2]; exact (Utf8W.get!_of_lt s 2 (by omega)).symm
                by_cases b1 : x2.toNat < 128
                · have b1' : (x2.toNat : Int) < 128 := by omega
                  go_enter Tryd.func19, Tryd.ntmps19
                  go_wp2_with fail
                  go_big_quiet (fail)
                  go_wp2_with fail
                  go_ret
                  exact ⟨ret_bool (by simp [n2, b1]), bdn0 ((Below.refl _ _).alloc (Nat.le_refl _) _) _⟩
                · have b1' : ¬ (x2.toNat : Int) < 128 := by omega
                  have b1d : decide ((x2.toNat : Int) < 128) = false := by rw [decide_eq_false_iff_not]; exact b1'
                  by_cases b2 : 191 < x2.toNat
                  · have b2' : (191 : Int) < (x2.toNat : Int) := by omega
                    go_enter Tryd.func19, Tryd.ntmps19
                    go_wp2_with fail
                    go_big_quiet (fail)
                    go_wp2_with fail
                    go_ret
                    exact ⟨ret_bool (by simp [n2, b2]), bdn0 ((Below.refl _ _).alloc (Nat.le_refl _) _) _⟩
                  · have b2' : ¬ (191 : Int) < (x2.toNat : Int) := by omega
                    go_enter Tryd.func19, Tryd.ntmps19
                    go_wp2_with fail
                    go_big_quiet (fail)
                    go_wp2_with fail
                    go_ret
                    exact ⟨ret_bool (by simp <;> omega), bdn0 ((Below.refl _ _).alloc (Nat.le_refl _) _) _⟩
              · have m2 : ¬ (2 : Int) < (s.size : Int) := by omega
                have m2d : decide ((2 : Int) < (s.size : Int)) = false := by rw [decide_eq_false_iff_not]; exact m2
                go_enter Tryd.func19, Tryd.ntmps19
                go_wp2_with fail
                go_big_quiet (fail)
                go_wp2_with fail
                go_ret
                exact ⟨ret_bool (by simp <;> omega), bdn0 ((Below.refl _ _).alloc (Nat.le_refl _) _) _⟩
        · have m1 : ¬ (1 : Int) < (s.size : Int) := by omega
          have m1d : decide ((1 : Int) < (s.size : Int)) = false := by rw [decide_eq_false_iff_not]; exact m1
          have m2 : ¬ (2 : Int) < (s.size : Int) := by omega
          have m2d : decide ((2 : Int) < (s.size : Int)) = false := by rw [decide_eq_false_iff_not]; exact m2
          rw [if_neg (by omega)]
          go_enter Tryd.func19, Tryd.ntmps19
          go_wp2_with fail
          go_big_quiet (fail)
          go_wp2_with fail
          go_ret
          exact ⟨ret_bool (by simp <;> omega), bdn0 ((Below.refl _ _).alloc (Nat.le_refl _) _) _⟩
    · rw [hX] at hc0 ⊢
      have ha0 := (hT.2 0 (by omega)).1
      have ha1 := (hT.2 0 (by omega)).2
      simp only [accLo, accHi, Nat.reduceMul, Nat.reduceAdd, Nat.reduceEqDiff, if_true, if_false, Nat.reduceMod, Nat.reduceDiv] at ha0 ha1 ⊢
      clear hT hX
      by_cases hn : 4 ≤ s.size
      · have hnz : (4 : Int) ≤ (s.size : Int) := by omega
        rw [if_pos hn]
        go_enter Tryd.func19, Tryd.ntmps19
        go_wp2_with fail
        go_ret
        exact ⟨ret_bool (by simp), (Below.refl _ _)⟩
      · have hnz : ¬ (4 : Int) ≤ (s.size : Int) := by omega
        rw [if_neg hn]
        by_cases n1 : 1 < s.size
        · have m1 : (1 : Int) < (s.size : Int) := by omega
          have hs1 : s[1]'(by omega) = x1 := by rw [← hx1]; exact (Utf8W.get!_of_lt s 1 (by omega)).symm
          by_cases a1 : x1.toNat < 128
          · have a1' : (x1.toNat : Int) < 128 := by omega
            rw [if_pos (by omega)]
            go_enter Tryd.func19, Tryd.ntmps19
            go_wp2_with fail
            go_big_quiet (fail)
            go_wp2_with fail
            go_ret
            exact ⟨ret_bool (by simp), bdn0 ((Below.refl _ _).alloc (Nat.le_refl _) _) _⟩
          · have a1' : ¬ (x1.toNat : Int) < 128 := by omega
            have a1d : decide ((x1.toNat : Int) < 128) = false := by rw [decide_eq_false_iff_not]; exact a1'
            by_cases a2 : 191 < x1.toNat
            · have a2' : (191 : Int) < (x1.toNat : Int) := by omega
              rw [if_pos (by omega)]
              go_enter Tryd.func19, Tryd.ntmps19
              go_wp2_with fail
              go_big_quiet (fail)
              go_wp2_with fail
              go_ret
              exact ⟨ret_bool (by simp), bdn0 ((Below.refl _ _).alloc (Nat.le_refl _) _) _⟩
            · have a2' : ¬ (191 : Int) < (x1.toNat : Int) := by omega
              rw [if_neg (by omega)]
              by_cases n2 : 2 < s.size
              · have m2 : (2 : Int) < (s.size : Int) := by omega
                have hs2 : s[2]'(by omega) = x2 := by rw [← hx2]; exact (Utf8W.get!_of_lt s 2 (by omega)).symm
                by_cases b1 : x2.toNat < 128
                · have b1' : (x2.toNat : Int) < 128 := by omega
                  go_enter Tryd.func19, Tryd.ntmps19
                  go_wp2_with fail
                  go_big_quiet (fail)
                  go_wp2_with fail
                  go_ret
                  exact ⟨ret_bool (by simp [n2, b1]), bdn0 ((Below.refl _ _).alloc (Nat.le_refl _) _) _⟩
                · have b1' : ¬ (x2.toNat : Int) < 128 := by omega
                  have b1d : decide ((x2.toNat : Int) < 128) = false := by rw [decide_eq_false_iff_not]; exact b1'
                  by_cases b2 : 191 < x2.toNat
                  · have b2' : (191 : Int) < (x2.toNat : Int) := by omega
                    go_enter Tryd.func19, Tryd.ntmps19
                    go_wp2_with fail
                    go_big_quiet (fail)
                    go_wp2_with fail
                    go_ret
                    exact ⟨ret_bool (by simp [n2, b2]), bdn0 ((Below.refl _ _).alloc (Nat.le_refl _) _) _⟩
                  · have b2' : ¬ (191 : Int) < (x2.toNat : Int) := by omega
                    go_enter Tryd.func19, Tryd.ntmps19
                    go_wp2_with fail
                    go_big_quiet (fail)
                    go_wp2_with fail
                    go_ret
                    exact ⟨ret_bool (by simp <;> omega), bdn0 ((Below.refl _ _).alloc (Nat.le_refl _) _) _⟩
              · have m2 : ¬ (2 : Int) < (s.size : Int) := by omega
                have m2d : decide ((2 : Int) < (s.size : Int)) = false := by rw [decide_eq_false_iff_not]; exact m2
                go_enter Tryd.func19, Tryd.ntmps19
                go_wp2_with fail
                go_big_quiet (fail)
                go_wp2_with fail
                go_ret
                exact ⟨ret_bool (by simp <;> omega), bdn0 ((Below.refl _ _).alloc (Nat.le_refl _) _) _⟩
        · have m1 : ¬ (1 : Int) < (s.size : Int) := by omega
          have m1d : decide ((1 : Int) < (s.size : Int)) = false := by rw [decide_eq_false_iff_not]; exact m1
          have m2 : ¬ (2 : Int) < (s.size : Int) := by omega
          have m2d : decide ((2 : Int) < (s.size : Int)) = false := by rw [decide_eq_false_iff_not]; exact m2
          rw [if_neg (by omega)]
          go_enter Tryd.func19, Tryd.ntmps19
          go_wp2_with fail
          go_big_quiet (fail)
          go_wp2_with fail
          go_ret
          exact ⟨ret_bool (by simp <;> omega), bdn0 ((Below.refl _ _).alloc (Nat.le_refl _) _) _⟩
    · rw [hX] at hc0 ⊢
      have ha0 := (hT.2 4 (by omega)).1
      have ha1 := (hT.2 4 (by omega)).2
      simp only [accLo, accHi, Nat.reduceMul, Nat.reduceAdd, Nat.reduceEqDiff, if_true, if_false, Nat.reduceMod, Nat.reduceDiv] at ha0 ha1 ⊢
      clear hT hX
      by_cases hn : 4 ≤ s.size
      · have hnz : (4 : Int) ≤ (s.size : Int) := by omega
        rw [if_pos hn]
        go_enter Tryd.func19, Tryd.ntmps19
        go_wp2_with fail
        go_ret
        exact ⟨ret_bool (by simp), (Below.refl _ _)⟩
      · have hnz : ¬ (4 : Int) ≤ (s.size : Int) := by omega
        rw [if_neg hn]
        by_cases n1 : 1 < s.size
        · have m1 : (1 : Int) < (s.size : Int) := by omega
          have hs1 : s[1]'(by omega) = x1 := by rw [← hx1]; exact (Utf8W.get!_of_lt s 1 (by omega)).symm
          by_cases a1 : x1.toNat < 128
          · have a1' : (x1.toNat : Int) < 128 := by omega
            rw [if_pos (by omega)]
            go_enter Tryd.func19, Tryd.ntmps19
            go_wp2_with fail
            go_big_quiet (fail)
            go_wp2_with fail
            go_ret
            exact ⟨ret_bool (by simp), bdn0 ((Below.refl _ _).alloc (Nat.le_refl _) _) _⟩
          · have a1' : ¬ (x1.toNat : Int) < 128 := by omega
            have a1d : decide ((x1.toNat : Int) < 128) = false := by rw [decide_eq_false_iff_not]; exact a1'
            by_cases a2 : 143 < x1.toNat
            · have a2' : (143 : Int) < (x1.toNat : Int) := by omega
              rw [if_pos (by omega)]
              go_enter Tryd.func19, Tryd.ntmps19
              go_wp2_with fail
              go_big_quiet (fail)
              go_wp2_with fail
              go_ret
              exact ⟨ret_bool (by simp), bdn0 ((Below.refl _ _).alloc (Nat.le_refl _) _) _⟩
            · have a2' : ¬ (143 : Int) < (x1.toNat : Int) := by omega
              rw [if_neg (by omega)]
              by_cases n2 : 2 < s.size
              · have m2 : (2 : Int) < (s.size : Int) := by omega
                have hs2 : s[2]'(by omega) = x2 := by rw [← hx2]; exact (Utf8W.get!_of_lt s 2 (by omega)).symm
                by_cases b1 : x2.toNat < 128
                · have b1' : (x2.toNat : Int) < 128 := by omega
                  go_enter Tryd.func19, Tryd.ntmps19
                  go_wp2_with fail
                  go_big_quiet (fail)
                  go_wp2_with fail
                  go_ret
                  exact ⟨ret_bool (by simp [n2, b1]), bdn0 ((Below.refl _ _).alloc (Nat.le_refl _) _) _⟩
                · have b1' : ¬ (x2.toNat : Int) < 128 := by omega
                  have b1d : decide ((x2.toNat : Int) < 128) = false := by rw [decide_eq_false_iff_not]; exact b1'
                  by_cases b2 : 191 < x2.toNat
                  · have b2' : (191 : Int) < (x2.toNat : Int) := by omega
                    go_enter Tryd.func19, Tryd.ntmps19
                    go_wp2_with fail
                    go_big_quiet (fail)
                    go_wp2_with fail
                    go_ret
                    exact ⟨ret_bool (by simp [n2, b2]), bdn0 ((Below.refl _ _).alloc (Nat.le_refl _) _) _⟩
                  · have b2' : ¬ (191 : Int) < (x2.toNat : Int) := by omega
                    go_enter Tryd.func19, Tryd.ntmps19
                    go_wp2_with fail
                    go_big_quiet (fail)
                    go_wp2_with fail
                    go_ret
                    exact ⟨ret_bool (by simp <;> omega), bdn0 ((Below.refl _ _).alloc (Nat.le_refl _) _) _⟩
              · have m2 : ¬ (2 : Int) < (s.size : Int) := by omega
                have m2d : decide ((2 : Int) < (s.size : Int)) = false := by rw [decide_eq_false_iff_not]; exact m2
                go_enter Tryd.func19, Tryd.ntmps19
                go_wp2_with fail
                go_big_quiet (fail)
                go_wp2_with fail
                go_ret
                exact ⟨ret_bool (by simp <;> omega), bdn0 ((Below.refl _ _).alloc (Nat.le_refl _) _) _⟩
        · have m1 : ¬ (1 : Int) < (s.size : Int) := by omega
          have m1d : decide ((1 : Int) < (s.size : Int)) = false := by rw [decide_eq_false_iff_not]; exact m1
          have m2 : ¬ (2 : Int) < (s.size : Int) := by omega
          have m2d : decide ((2 : Int) < (s.size : Int)) = false := by rw [decide_eq_false_iff_not]; exact m2
          rw [if_neg (by omega)]
          go_enter Tryd.func19, Tryd.ntmps19
          go_wp2_with fail
          go_big_quiet (fail)
          go_wp2_with fail
          go_ret
          exact ⟨ret_bool (by simp <;> omega), bdn0 ((Below.refl _ _).alloc (Nat.le_refl _) _) _⟩
end Prs
end Go.Proofs.YtplceodnllcimaaDoor

/- Package keys: the small readers. (Written by gen_keysrd1.py.) -/
namespace Go.Proofs.YtplceodnllcimaaDoor
open Go.ChangeShapes Go.WideShapes Go.ChangeAt Go.RowKit
namespace Kys
open Txt (wd bs dec)
theorem results_key_tmp {P : Program} {fn : Func} {p u : Tmp} {ty : TypeId} (h : fn.results = #[.cell p ty, .tmp u]) (tmps : Array Value) (w : World) (g : Nat) (t : TypeId) (cs : Array Value) (fr : Nat × Nat) (d : TypeDesc)
    (hp : tmps.getD p undef = .pointer (some ⟨g, 0, none⟩)) (hg : w.heap[g]? = some (.cells cs t fr))
    (hu : P.underlying ty = some d) (hd : (match d with | .struct _ | .array _ _ => true | _ => false) = true) (hi : (P.info? ty).map (·.size) = some cs.size) (v : Value) (hv : tmps.getD u undef = v) :
    (results fn tmps).run P w = .ok (.tuple #[.agg cs, v]) w := by
  rw [results_cell_tmp h, hp, hv]
  simp [asAddr, run_loadVar_row w g t ty cs fr d hg hu hd hi, Result.andThen]
theorem one4 (a b c d : Int) : (#[.int .i64 a, .int .i32 b, .int .i64 c, .int .i64 d] : Array Value).all (·.oneCell') = true := by simp [Value.oneCell']
theorem kb_z (w : World) : Below w.heap.size w (w.alloc (.cells #[.int .i64 0, .int .i32 0, .int .i64 0, .int .i64 0] 31)) := (Below.refl _ _).alloc (Nat.le_refl _) _
theorem hz (w : World) : (w.alloc (.cells #[.int .i64 0, .int .i32 0, .int .i64 0, .int .i64 0] 31)).heap[w.heap.size]? = some (.cells #[.int .i64 0, .int .i32 0, .int .i64 0, .int .i64 0] 31 (0, 0)) := heap_alloc_new _ _
set_option maxHeartbeats 4000000 in
theorem unended_any (last : Bool) (w : World) : Calls Tryd.prog 13 #[.bool last] w fun e w' => e = .returned (.tuple #[kyv (unendedL last).1, .int .i64 ((unendedL last).2 : Nat)]) ∧ Below w.heap.size w w' := by
  cases last
  · go_enter Tryd.func13, Tryd.ntmps13
    go_wp2_with (first | (refine wpList_store_row rfl 31 (.tmp 2) (.tmp 6) rfl w.heap.size #[.int .i64 0, .int .i32 0, .int .i64 0, .int .i64 0] rfl rfl _ _ (hz w) (by kernel_rfl) rfl (one4 _ _ _ _) ?_) | (refine wpList_store_row rfl 31 (.tmp 3) (.tmp 6) rfl w.heap.size #[.int .i64 0, .int .i32 0, .int .i64 0, .int .i64 0] rfl rfl _ _ (hz w) (by kernel_rfl) rfl (one4 _ _ _ _) ?_))
    (try simp only [Exit.inBlock, Exit.then])
    refine bodyPost_ret (v := .tuple #[.agg #[.int .i64 0, .int .i32 0, .int .i64 0, .int .i64 0], .int .i64 0]) ?_ rfl ⟨rfl, below_setRow (kb_z w) (Nat.le_refl _) _⟩
    exact results_key_tmp rfl _ _ w.heap.size _ _ _ _ rfl (setRow_heap _ _ _ _ _ _ (hz w)) Tryd.underlying31 rfl (by kernel_rfl) _ rfl
  · go_enter Tryd.func13, Tryd.ntmps13
    go_wp2_with (first | (refine wpList_store_row rfl 31 (.tmp 2) (.tmp 7) rfl w.heap.size #[.int .i64 5, .int .i32 0, .int .i64 0, .int .i64 0] rfl rfl _ _ (hz w) (by kernel_rfl) rfl (one4 _ _ _ _) ?_) | (refine wpList_store_row rfl 31 (.tmp 3) (.tmp 7) rfl w.heap.size #[.int .i64 5, .int .i32 0, .int .i64 0, .int .i64 0] rfl rfl _ _ (hz w) (by kernel_rfl) rfl (one4 _ _ _ _) ?_))
    (try simp only [Exit.inBlock, Exit.then])
    refine bodyPost_ret (v := .tuple #[.agg #[.int .i64 5, .int .i32 0, .int .i64 0, .int .i64 0], .int .i64 1]) ?_ rfl ⟨rfl, below_setRow (kb_z w) (Nat.le_refl _) _⟩
    exact results_key_tmp rfl _ _ w.heap.size _ _ _ _ rfl (setRow_heap _ _ _ _ _ _ (hz w)) Tryd.underlying31 rfl (by kernel_rfl) _ rfl
theorem ret_val {a b : Value} (h : b = a) : Ending.returned a = Ending.returned b := by rw [h]
set_option maxHeartbeats 4000000 in
theorem control_any (c : UInt8) (w : World) : Calls Tryd.prog 24 #[.int .u8 (c.toNat : Int)] w fun e w' => e = .returned (kyv (ctl c)) ∧ Below w.heap.size w w' := by
  have hlt : c.toNat < 256 := c.toNat_lt
  have hq : ∀ j : UInt8, c = j ↔ c.toNat = j.toNat := fun j => ⟨fun h => by rw [h], fun h => UInt8.toNat_inj.1 h⟩
  have E : ctl c = if c.toNat = 9 then ⟨3, 0, 0, 0⟩ else if c.toNat = 13 then ⟨2, 0, 0, 0⟩ else if c.toNat = 8 ∨ c.toNat = 127 then ⟨4, 0, 0, 0⟩ else if c.toNat = 0 then ⟨1, 32, 0, 0⟩ else if c.toNat ≤ 26 then ⟨1, 96 + (c.toNat : Int), 0, 4⟩ else ⟨1, 63, 0, 0⟩ := by
    unfold ctl
    simp only [hq]
    rfl
  obtain ⟨v, hv⟩ : ∃ v, kyv (ctl c) = v := ⟨_, rfl⟩
  rw [hv]
  have HC : Hid (kyv (ctl c) = v) := hv
  rw [E] at HC
  clear hv E hq
  generalize c.toNat = m at *
  clear c
  by_cases h9 : m = 9
  · subst h9
    go_enter Tryd.func24, Tryd.ntmps24
    go_wp2_with (refine wpList_store_row rfl 31 (.tmp 2) (.tmp 6) rfl w.heap.size #[.int .i64 3, .int .i32 0, .int .i64 0, .int .i64 0] rfl rfl _ _ (hz w) (by kernel_rfl) rfl (one4 _ _ _ _) ?_)
    (try simp only [Exit.inBlock, Exit.then])
    refine bodyPost_ret (v := .agg #[.int .i64 3, .int .i32 0, .int .i64 0, .int .i64 0]) ?_ rfl ⟨ret_val ?_, below_setRow (kb_z w) (Nat.le_refl _) _⟩
    · exact results_cell_row rfl _ _ w.heap.size _ _ _ _ rfl (setRow_heap _ _ _ _ _ _ (hz w)) Tryd.underlying31 rfl (by kernel_rfl)
    · rw [← HC.out]; rfl
  by_cases h13 : m = 13
  · subst h13
    go_enter Tryd.func24, Tryd.ntmps24
    go_wp2_with (refine wpList_store_row rfl 31 (.tmp 2) (.tmp 10) rfl w.heap.size #[.int .i64 2, .int .i32 0, .int .i64 0, .int .i64 0] rfl rfl _ _ (hz w) (by kernel_rfl) rfl (one4 _ _ _ _) ?_)
    (try simp only [Exit.inBlock, Exit.then])
    refine bodyPost_ret (v := .agg #[.int .i64 2, .int .i32 0, .int .i64 0, .int .i64 0]) ?_ rfl ⟨ret_val ?_, below_setRow (kb_z w) (Nat.le_refl _) _⟩
    · exact results_cell_row rfl _ _ w.heap.size _ _ _ _ rfl (setRow_heap _ _ _ _ _ _ (hz w)) Tryd.underlying31 rfl (by kernel_rfl)
    · rw [← HC.out]; rfl
  by_cases h8 : m = 8
  · subst h8
    go_enter Tryd.func24, Tryd.ntmps24
    go_wp2_with (refine wpList_store_row rfl 31 (.tmp 2) (.tmp 18) rfl w.heap.size #[.int .i64 4, .int .i32 0, .int .i64 0, .int .i64 0] rfl rfl _ _ (hz w) (by kernel_rfl) rfl (one4 _ _ _ _) ?_)
    (try simp only [Exit.inBlock, Exit.then])
    refine bodyPost_ret (v := .agg #[.int .i64 4, .int .i32 0, .int .i64 0, .int .i64 0]) ?_ rfl ⟨ret_val ?_, below_setRow (kb_z w) (Nat.le_refl _) _⟩
    · exact results_cell_row rfl _ _ w.heap.size _ _ _ _ rfl (setRow_heap _ _ _ _ _ _ (hz w)) Tryd.underlying31 rfl (by kernel_rfl)
    · rw [← HC.out]; rfl
  by_cases h127 : m = 127
  · subst h127
    go_enter Tryd.func24, Tryd.ntmps24
    go_wp2_with (refine wpList_store_row rfl 31 (.tmp 2) (.tmp 18) rfl w.heap.size #[.int .i64 4, .int .i32 0, .int .i64 0, .int .i64 0] rfl rfl _ _ (hz w) (by kernel_rfl) rfl (one4 _ _ _ _) ?_)
    (try simp only [Exit.inBlock, Exit.then])
    refine bodyPost_ret (v := .agg #[.int .i64 4, .int .i32 0, .int .i64 0, .int .i64 0]) ?_ rfl ⟨ret_val ?_, below_setRow (kb_z w) (Nat.le_refl _) _⟩
    · exact results_cell_row rfl _ _ w.heap.size _ _ _ _ rfl (setRow_heap _ _ _ _ _ _ (hz w)) Tryd.underlying31 rfl (by kernel_rfl)
    · rw [← HC.out]; rfl
  by_cases h0 : m = 0
  · subst h0
    go_enter Tryd.func24, Tryd.ntmps24
    go_wp2_with (refine wpList_store_row rfl 31 (.tmp 2) (.tmp 22) rfl w.heap.size #[.int .i64 1, .int .i32 32, .int .i64 0, .int .i64 0] rfl rfl _ _ (hz w) (by kernel_rfl) rfl (one4 _ _ _ _) ?_)
    (try simp only [Exit.inBlock, Exit.then])
    refine bodyPost_ret (v := .agg #[.int .i64 1, .int .i32 32, .int .i64 0, .int .i64 0]) ?_ rfl ⟨ret_val ?_, below_setRow (kb_z w) (Nat.le_refl _) _⟩
    · exact results_cell_row rfl _ _ w.heap.size _ _ _ _ rfl (setRow_heap _ _ _ _ _ _ (hz w)) Tryd.underlying31 rfl (by kernel_rfl)
    · rw [← HC.out]; rfl
  by_cases h26 : m ≤ 26
  · have x9 : ((m : Int) == 9) = false := by rw [beq_eq_false_iff_ne]; omega
    have x13 : ((m : Int) == 13) = false := by rw [beq_eq_false_iff_ne]; omega
    have x8 : ((m : Int) == 8) = false := by rw [beq_eq_false_iff_ne]; omega
    have x127 : ((m : Int) == 127) = false := by rw [beq_eq_false_iff_ne]; omega
    have x0 : ((m : Int) == 0) = false := by rw [beq_eq_false_iff_ne]; omega
    have g26 : (m : Int) ≤ 26 := by omega
    have hw : wrap32 (96 + (m : Int)) = 96 + (m : Int) := by unfold wrap32; omega
    go_enter Tryd.func24, Tryd.ntmps24
    go_wp2_with (refine wpList_store_row rfl 31 (.tmp 2) (.tmp 29) rfl w.heap.size #[.int .i64 1, .int .i32 (96 + (m : Int)), .int .i64 0, .int .i64 4] rfl rfl _ _ (hz w) (by kernel_rfl) rfl (one4 _ _ _ _) ?_)
    (try simp only [Exit.inBlock, Exit.then])
    refine bodyPost_ret (v := .agg #[.int .i64 1, .int .i32 (96 + (m : Int)), .int .i64 0, .int .i64 4]) ?_ rfl ⟨ret_val ?_, below_setRow (kb_z w) (Nat.le_refl _) _⟩
    · exact results_cell_row rfl _ _ w.heap.size _ _ _ _ rfl (setRow_heap _ _ _ _ _ _ (hz w)) Tryd.underlying31 rfl (by kernel_rfl)
    · rw [← HC.out]; rw [if_neg h9, if_neg h13, if_neg (by omega), if_neg h0, if_pos h26]; rfl
  · have x9 : ((m : Int) == 9) = false := by rw [beq_eq_false_iff_ne]; omega
    have x13 : ((m : Int) == 13) = false := by rw [beq_eq_false_iff_ne]; omega
    have x8 : ((m : Int) == 8) = false := by rw [beq_eq_false_iff_ne]; omega
    have x127 : ((m : Int) == 127) = false := by rw [beq_eq_false_iff_ne]; omega
    have x0 : ((m : Int) == 0) = false := by rw [beq_eq_false_iff_ne]; omega
    have g26 : ¬ (m : Int) ≤ 26 := by omega
    go_enter Tryd.func24, Tryd.ntmps24
    go_wp2_with (refine wpList_store_row rfl 31 (.tmp 2) (.tmp 30) rfl w.heap.size #[.int .i64 1, .int .i32 63, .int .i64 0, .int .i64 0] rfl rfl _ _ (hz w) (by kernel_rfl) rfl (one4 _ _ _ _) ?_)
    (try simp only [Exit.inBlock, Exit.then])
    refine bodyPost_ret (v := .agg #[.int .i64 1, .int .i32 63, .int .i64 0, .int .i64 0]) ?_ rfl ⟨ret_val ?_, below_setRow (kb_z w) (Nat.le_refl _) _⟩
    · exact results_cell_row rfl _ _ w.heap.size _ _ _ _ rfl (setRow_heap _ _ _ _ _ _ (hz w)) Tryd.underlying31 rfl (by kernel_rfl)
    · rw [← HC.out]; rw [if_neg h9, if_neg h13, if_neg (by omega), if_neg h0, if_neg h26]; rfl
end Kys
end Go.Proofs.YtplceodnllcimaaDoor

/- Package keys: numbers within a sequence. -/
namespace Go.Proofs.YtplceodnllcimaaDoor
open Go.ChangeShapes Go.WideShapes Go.ChangeAt Go.RowKit
namespace Kys
open Txt (wd bs dec)
theorem drop_cons (s : ByteArray) (k : Nat) (h : k < s.size) : s.data.toList.drop k = s[k] :: s.data.toList.drop (k + 1) := by
  have h' : k < s.data.toList.length := by rw [Array.length_toList]; exact h
  rw [List.drop_eq_getElem_cons h']
  rfl
set_option maxHeartbeats 4000000 in
theorem numbersAhead_any (s : ByteArray) (w : World) : Calls Tryd.prog 27 #[.string s] w fun e w' => e = .returned (.int .i64 (aheadF 10 s.data.toList : Nat)) ∧ Below w.heap.size w w' := by
  obtain ⟨res, hres⟩ : ∃ res, aheadF 10 s.data.toList = res := ⟨_, rfl⟩
  rw [hres]
  have HR : Hid (aheadF 10 s.data.toList = res) := hres
  clear hres
  go_enter Tryd.func27, Tryd.ntmps27
  go_wp2_with fail
  go_loopg [3] 10 (fun g v wr => ∃ k : Nat, k ≤ 10 ∧ k ≤ s.size ∧ 10 - k ≤ g ∧ v = .int .i64 k ∧ Below w.heap.size w wr ∧ aheadF (10 - k) (s.data.toList.drop k) + k = res)
  case atStart => exact ⟨0, by omega, by omega, by omega, rfl, Below.refl _ _, by rw [← HR.out]; rfl⟩
  case round =>
    obtain ⟨k, hk, hks, hg, rfl, hb, hl⟩ := hrel
    have HL : Hid (aheadF (10 - k) (s.data.toList.drop k) + k = res) := hl
    clear hl
    by_cases h1 : k < s.size
    · have i1 : (k : Int) < (s.size : Int) := by omega
      by_cases h2 : k < 10
      · have i2 : (k : Int) < 10 := by omega
        obtain ⟨x, hx⟩ : ∃ x, s[k]'h1 = x := ⟨_, rfl⟩
        have HD : Hid (s.data.toList.drop k = x :: s.data.toList.drop (k + 1)) := by
          unfold Hid
          rw [drop_cons s k h1, hx]
        have hxl := x.toNat_lt
        obtain ⟨q, hq⟩ : ∃ q, 10 - k = q + 1 := ⟨10 - k - 1, by omega⟩
        have hw : wrap64 ((k : Int) + 1) = (k : Int) + 1 := by unfold wrap64; omega
        by_cases d1 : 48 ≤ x.toNat ∧ x.toNat ≤ 57
        · have i3 : (48 : Int) ≤ (x.toNat : Int) := by omega
          have i4 : (x.toNat : Int) ≤ 57 := by omega
          go_wp2_with fail
          go_roundg (10 - (k + 1))
          case measure => omega
          case rel => exact ⟨k + 1, by omega, by omega, by omega, by go_num, hb, by rw [← HL.out, HD.out, hq]; simp only [aheadF]; rw [if_pos (by unfold isNum; simp [d1.1, d1.2]), show 10 - (k + 1) = q by omega]; omega⟩
        · by_cases d2 : x.toNat = 59
          · have i3 : (48 : Int) ≤ (x.toNat : Int) := by omega
            have i4 : ¬ (x.toNat : Int) ≤ 57 := by omega
            have i5 : ((x.toNat : Int) == 59) = true := by rw [beq_iff_eq]; omega
            have D2 : Hid (x.toNat = 59) := d2
            clear d2
            go_wp2_with fail
            go_roundg (10 - (k + 1))
            case measure => omega
            case rel => exact ⟨k + 1, by omega, by omega, by omega, by go_num, hb, by rw [← HL.out, HD.out, hq]; simp only [aheadF]; rw [if_pos (by unfold isNum; simp [D2.out]), show 10 - (k + 1) = q by omega]; omega⟩
          · have i5 : ((x.toNat : Int) == 59) = false := by rw [beq_eq_false_iff_ne]; omega
            have fin : res = k := by
              rw [← HL.out, HD.out, hq]
              simp only [aheadF]
              rw [if_neg (by unfold isNum; simp; omega)]
              omega
            by_cases d3 : 48 ≤ x.toNat
            · have i3 : (48 : Int) ≤ (x.toNat : Int) := by omega
              have i4 : ¬ (x.toNat : Int) ≤ 57 := by omega
              go_wp2_with fail
              go_ret
              exact ⟨Txt.ret_int (by first | rfl | rw [fin]), hb⟩
            · have i3 : ¬ (48 : Int) ≤ (x.toNat : Int) := by omega
              go_wp2_with fail
              go_ret
              exact ⟨Txt.ret_int (by first | rfl | rw [fin]), hb⟩
      · have i2 : ¬ (k : Int) < 10 := by omega
        have fin : res = k := by
          rw [← HL.out, show 10 - k = 0 by omega]
          simp [aheadF]
        go_wp2_with fail
        go_ret
        exact ⟨Txt.ret_int (by first | rfl | rw [fin]), hb⟩
    · have i1 : ¬ (k : Int) < (s.size : Int) := by omega
      have fin : res = k := by
        rw [← HL.out, List.drop_eq_nil_of_le (by rw [Array.length_toList]; exact Nat.not_lt.1 h1)]
        cases 10 - k <;> simp [aheadF]
      go_wp2_with fail
      go_ret
      exact ⟨Txt.ret_int (by first | rfl | rw [fin]), hb⟩
end Kys
end Go.Proofs.YtplceodnllcimaaDoor

/- Package keys: plain: the first key of bytes that don't begin with ESC. -/
namespace Go.Proofs.YtplceodnllcimaaDoor
open Go.ChangeShapes Go.WideShapes Go.ChangeAt Go.RowKit
namespace Kys
open Txt (wd bs dec)
theorem get_zero (s : ByteArray) (i : Nat) (h : i < s.size) : s.data.toList.getD i 0 = s[i] := by
  have := Utf8W.get!_of_lt s i h
  rw [← this]
  have g := Txt.get_drop s 0 i
  simpa using g.symm
theorem full_fl (s : ByteArray) : Prs.full s = fl s.data.toList := by
  unfold Prs.full fl
  have e : ∀ k, s.get! k = s.data.toList.getD k 0 := fun k => by
    have := Txt.get_drop s 0 k
    simpa using this
  rw [e, e, e]
  rfl
theorem go_dec (s : ByteArray) (h : s.size ≠ 0) : Lib.decodeGo s = dec s.data.toList := by
  unfold Lib.decodeGo
  rw [if_neg h, Txt.decode_dec]
  simp
theorem held_block {w W : World} {o : Obj} (h : Below (w.alloc o).heap.size (w.alloc o) W) : W.heap[w.heap.size]? = some o := by
  rw [h.block _ (by rw [show (w.alloc o).heap.size = w.heap.size + 1 by simp]; omega)]
  exact heap_alloc_new _ _
theorem by_block {W W' : World} {b : Nat} {o : Obj} (h : W.heap[b]? = some o) (hb : Below W.heap.size W W') : W'.heap[b]? = some o := by
  have : b < W.heap.size := (Array.getElem?_eq_some_iff.1 h).1
  rw [hb.block _ this]
  exact h
set_option maxHeartbeats 4000000 in
theorem plain_any (s : ByteArray) (last : Bool) (w : World) (hT : Txt.Tab w) (hU : Txt.U8 w) (hs : s.size ≠ 0) :
    Calls Tryd.prog 12 #[.string s, .bool last] w fun e w' => e = .returned (.tuple #[kyv (plainL s.data.toList last).1, .int .i64 ((plainL s.data.toList last).2 : Nat)]) ∧ Below w.heap.size w w' := by
  have hz0 : (0 : Int) < (s.size : Int) := by omega
  have hlt : 0 < s.size := by omega
  obtain ⟨x, hx⟩ : ∃ x, s[0]'hlt = x := ⟨_, rfl⟩
  have hg : s.data.toList.getD 0 0 = x := by rw [get_zero s 0 hlt]; exact hx
  have hxl := x.toNat_lt
  have kb := kb_z w
  have HCT := control_any x
  have Z := hz w
  have hT1 : Txt.Tab (w.alloc (.cells #[.int .i64 0, .int .i32 0, .int .i64 0, .int .i64 0] 31)) := Tab.alloc hT _
  have hU1 : Txt.U8 (w.alloc (.cells #[.int .i64 0, .int .i32 0, .int .i64 0, .int .i64 0] 31)) := hU.below kb
  have HE : Hid (plainL s.data.toList last = if x.toNat < 32 ∨ x.toNat = 127 then (ctl x, 1) else if last = false ∧ Prs.full s = false then (zk, 0) else (⟨1, if wd ((Lib.decodeGo s).1 : Int) = 0 then 63 else ((Lib.decodeGo s).1 : Int), 0, 0⟩, (Lib.decodeGo s).2)) := by
    unfold Hid plainL shown
    rw [hg, full_fl, go_dec s hs]
  generalize plainL s.data.toList last = res at HE ⊢
  have HS : Hid (s.size ≠ 0) := hs
  have hse : (s.toList == []) = false := by
    rw [beq_eq_false_iff_ne]
    intro h
    rw [Lib.toList_data] at h
    have := congrArg List.length h
    rw [Array.length_toList] at this
    exact hs this
  by_cases c1 : x.toNat < 32 ∨ x.toNat = 127
  · rw [HE.out, if_pos c1]
    clear HE hT1 hU1 hT hU
    obtain ⟨cv, hcv⟩ : ∃ cv, ctl x = cv := ⟨_, rfl⟩
    rw [hcv] at HCT ⊢
    obtain ⟨kd, rr, nn, hh⟩ := cv
    clear hcv
    unfold kyv at HCT ⊢
    by_cases c2 : x.toNat < 32
    · have q1 : (x.toNat : Int) < 32 := by omega
      go_enter Tryd.func12, Tryd.ntmps12
      go_wp2_with (first | (go_at_call 24; refine (HCT _).mono ?_; rintro e W1 ⟨rfl, b1⟩; have hW := held_block b1; replace kb := kb.trans (b1.mono kb.size)) | (refine wpList_store_row rfl 31 (.tmp 4) (.tmp 18) rfl w.heap.size #[.int .i64 kd, .int .i32 rr, .int .i64 nn, .int .i64 hh] rfl rfl _ _ hW (by kernel_rfl) rfl (one4 _ _ _ _) ?_))
      (try simp only [Exit.inBlock, Exit.then])
      refine bodyPost_ret (v := .tuple #[.agg #[.int .i64 kd, .int .i32 rr, .int .i64 nn, .int .i64 hh], .int .i64 1]) ?_ rfl ⟨rfl, below_setRow kb (Nat.le_refl _) _⟩
      exact results_key_tmp rfl _ _ w.heap.size _ _ _ _ rfl (setRow_heap _ _ _ _ _ _ hW) Tryd.underlying31 rfl (by kernel_rfl) _ rfl
    · have q1 : ¬ (x.toNat : Int) < 32 := by omega
      have q2 : ((x.toNat : Int) == 127) = true := by rw [beq_iff_eq]; omega
      go_enter Tryd.func12, Tryd.ntmps12
      go_wp2_with (first | (go_at_call 24; refine (HCT _).mono ?_; rintro e W1 ⟨rfl, b1⟩; have hW := held_block b1; replace kb := kb.trans (b1.mono kb.size)) | (refine wpList_store_row rfl 31 (.tmp 4) (.tmp 18) rfl w.heap.size #[.int .i64 kd, .int .i32 rr, .int .i64 nn, .int .i64 hh] rfl rfl _ _ hW (by kernel_rfl) rfl (one4 _ _ _ _) ?_))
      (try simp only [Exit.inBlock, Exit.then])
      refine bodyPost_ret (v := .tuple #[.agg #[.int .i64 kd, .int .i32 rr, .int .i64 nn, .int .i64 hh], .int .i64 1]) ?_ rfl ⟨rfl, below_setRow kb (Nat.le_refl _) _⟩
      exact results_key_tmp rfl _ _ w.heap.size _ _ _ _ rfl (setRow_heap _ _ _ _ _ _ hW) Tryd.underlying31 rfl (by kernel_rfl) _ rfl
  · have q1 : ¬ (x.toNat : Int) < 32 := by omega
    have q2 : ((x.toNat : Int) == 127) = false := by rw [beq_eq_false_iff_ne]; omega
    have E1 := HE.out
    rw [if_neg c1] at E1
    clear HE HCT
    have HE : Hid (res = if last = false ∧ Prs.full s = false then (zk, 0) else (⟨1, if wd ((Lib.decodeGo s).1 : Int) = 0 then 63 else ((Lib.decodeGo s).1 : Int), 0, 0⟩, (Lib.decodeGo s).2)) := E1
    clear E1
    have HF : ∀ W, Txt.U8 W → Calls Tryd.prog 19 #[.string s] W fun e w' => e = .returned (.bool (Prs.full s)) ∧ Below W.heap.size W w' := fun W h => Prs.fullRune_any s W h
    have HN : ∀ W, Txt.U8 W → Calls Tryd.prog 25 #[.string s] W fun e w' => e = .returned (.tuple #[.int .i32 (Lib.decodeGo s).1, .int .i64 (Lib.decodeGo s).2]) ∧ Below W.heap.size W w' := fun W h => Txt.next_any s W h hse
    have HW : ∀ W, Txt.Tab W → Calls Tryd.prog 26 #[.int .i32 ((Lib.decodeGo s).1 : Int)] W fun e w' => e = .returned (.int .i64 (wd ((Lib.decodeGo s).1 : Int))) ∧ Below W.heap.size W w' := fun W h => Txt.width_any _ W h
    have tabB : ∀ {A B : World}, Txt.Tab A → Below A.heap.size A B → Txt.Tab B := fun h b => h.below b h.pos
    generalize Prs.full s = ff at *
    generalize (Lib.decodeGo s).1 = r at *
    generalize (Lib.decodeGo s).2 = z at *
    generalize wd (r : Int) = d at *
    have Q1 : Hid (Txt.Tab (w.alloc (.cells #[.int .i64 0, .int .i32 0, .int .i64 0, .int .i64 0] 31))) := hT1
    have Q2 : Hid (Txt.U8 (w.alloc (.cells #[.int .i64 0, .int .i32 0, .int .i64 0, .int .i64 0] 31))) := hU1
    clear hT hU hT1 hU1 hse
    by_cases c2 : last = false ∧ ff = false
    · obtain ⟨rfl, rfl⟩ := c2
      rw [HE.out, if_pos ⟨rfl, rfl⟩]
      clear HE
      go_enter Tryd.func12, Tryd.ntmps12
      go_wp2_with (first | (go_at_call 19; refine (HF _ Q2.out).mono ?_; rintro e W1 ⟨rfl, b1⟩; have hW := held_block b1; replace kb := kb.trans (b1.mono kb.size)) | (refine wpList_store_row rfl 31 (.tmp 4) (.tmp 26) rfl w.heap.size #[.int .i64 0, .int .i32 0, .int .i64 0, .int .i64 0] rfl rfl _ _ hW (by kernel_rfl) rfl (one4 _ _ _ _) ?_))
      (try simp only [Exit.inBlock, Exit.then])
      refine bodyPost_ret (v := .tuple #[.agg #[.int .i64 0, .int .i32 0, .int .i64 0, .int .i64 0], .int .i64 0]) ?_ rfl ⟨rfl, below_setRow kb (Nat.le_refl _) _⟩
      exact results_key_tmp rfl _ _ w.heap.size _ _ _ _ rfl (setRow_heap _ _ _ _ _ _ hW) Tryd.underlying31 rfl (by kernel_rfl) _ rfl
    · rw [HE.out, if_neg c2]
      clear HE
      by_cases c3 : d = 0
      · rw [if_pos c3]
        subst c3
        cases last
        · have hff : ff = true := by simpa using c2
          subst hff
          go_enter Tryd.func12, Tryd.ntmps12
          go_wp2_with (first | (go_at_call 19; refine (HF _ Q2.out).mono ?_; rintro e W1 ⟨rfl, b1⟩; have hW := held_block b1; have Q1 := tabB Q1.out b1; have Q2 := Txt.U8.below Q2.out b1; replace kb := kb.trans (b1.mono kb.size)) | (go_at_call 25; refine (HN _ Q2).mono ?_; rintro e W2 ⟨rfl, b2⟩; have hW2 := by_block hW b2; have Q3 := tabB Q1 b2; replace kb := kb.trans (b2.mono kb.size)) | (go_at_call 26; refine (HW _ Q3).mono ?_; rintro e W3 ⟨rfl, b3⟩; have hW3 := by_block hW2 b3; replace kb := kb.trans (b3.mono kb.size)) | (refine wpList_store_row rfl 31 (.tmp 4) (.tmp 36) rfl w.heap.size #[.int .i64 1, .int .i32 63, .int .i64 0, .int .i64 0] rfl rfl _ _ hW3 (by kernel_rfl) rfl (one4 _ _ _ _) ?_))
          (try simp only [Exit.inBlock, Exit.then])
          refine bodyPost_ret (v := .tuple #[.agg #[.int .i64 1, .int .i32 63, .int .i64 0, .int .i64 0], .int .i64 z]) ?_ rfl ⟨rfl, below_setRow kb (Nat.le_refl _) _⟩
          exact results_key_tmp rfl _ _ w.heap.size _ _ _ _ rfl (setRow_heap _ _ _ _ _ _ hW3) Tryd.underlying31 rfl (by kernel_rfl) _ rfl
        · clear HF c2
          go_enter Tryd.func12, Tryd.ntmps12
          go_wp2_with (first | (go_at_call 25; refine (HN _ Q2.out).mono ?_; rintro e W2 ⟨rfl, b2⟩; have hW2 := held_block b2; have Q3 := tabB Q1.out b2; replace kb := kb.trans (b2.mono kb.size)) | (go_at_call 26; refine (HW _ Q3).mono ?_; rintro e W3 ⟨rfl, b3⟩; have hW3 := by_block hW2 b3; replace kb := kb.trans (b3.mono kb.size)) | (refine wpList_store_row rfl 31 (.tmp 4) (.tmp 36) rfl w.heap.size #[.int .i64 1, .int .i32 63, .int .i64 0, .int .i64 0] rfl rfl _ _ hW3 (by kernel_rfl) rfl (one4 _ _ _ _) ?_))
          (try simp only [Exit.inBlock, Exit.then])
          refine bodyPost_ret (v := .tuple #[.agg #[.int .i64 1, .int .i32 63, .int .i64 0, .int .i64 0], .int .i64 z]) ?_ rfl ⟨rfl, below_setRow kb (Nat.le_refl _) _⟩
          exact results_key_tmp rfl _ _ w.heap.size _ _ _ _ rfl (setRow_heap _ _ _ _ _ _ hW3) Tryd.underlying31 rfl (by kernel_rfl) _ rfl
      · rw [if_neg c3]
        have q3 : (d == 0) = false := by rw [beq_eq_false_iff_ne]; exact c3
        cases last
        · have hff : ff = true := by simpa using c2
          subst hff
          go_enter Tryd.func12, Tryd.ntmps12
          go_wp2_with (first | (go_at_call 19; refine (HF _ Q2.out).mono ?_; rintro e W1 ⟨rfl, b1⟩; have hW := held_block b1; have Q1 := tabB Q1.out b1; have Q2 := Txt.U8.below Q2.out b1; replace kb := kb.trans (b1.mono kb.size)) | (go_at_call 25; refine (HN _ Q2).mono ?_; rintro e W2 ⟨rfl, b2⟩; have hW2 := by_block hW b2; have Q3 := tabB Q1 b2; replace kb := kb.trans (b2.mono kb.size)) | (go_at_call 26; refine (HW _ Q3).mono ?_; rintro e W3 ⟨rfl, b3⟩; have hW3 := by_block hW2 b3; replace kb := kb.trans (b3.mono kb.size)) | (refine wpList_store_row rfl 31 (.tmp 4) (.tmp 36) rfl w.heap.size #[.int .i64 1, .int .i32 (r : Int), .int .i64 0, .int .i64 0] rfl rfl _ _ hW3 (by kernel_rfl) rfl (one4 _ _ _ _) ?_))
          (try simp only [Exit.inBlock, Exit.then])
          refine bodyPost_ret (v := .tuple #[.agg #[.int .i64 1, .int .i32 (r : Int), .int .i64 0, .int .i64 0], .int .i64 z]) ?_ rfl ⟨rfl, below_setRow kb (Nat.le_refl _) _⟩
          exact results_key_tmp rfl _ _ w.heap.size _ _ _ _ rfl (setRow_heap _ _ _ _ _ _ hW3) Tryd.underlying31 rfl (by kernel_rfl) _ rfl
        · clear HF c2
          go_enter Tryd.func12, Tryd.ntmps12
          go_wp2_with (first | (go_at_call 25; refine (HN _ Q2.out).mono ?_; rintro e W2 ⟨rfl, b2⟩; have hW2 := held_block b2; have Q3 := tabB Q1.out b2; replace kb := kb.trans (b2.mono kb.size)) | (go_at_call 26; refine (HW _ Q3).mono ?_; rintro e W3 ⟨rfl, b3⟩; have hW3 := by_block hW2 b3; replace kb := kb.trans (b3.mono kb.size)) | (refine wpList_store_row rfl 31 (.tmp 4) (.tmp 36) rfl w.heap.size #[.int .i64 1, .int .i32 (r : Int), .int .i64 0, .int .i64 0] rfl rfl _ _ hW3 (by kernel_rfl) rfl (one4 _ _ _ _) ?_))
          (try simp only [Exit.inBlock, Exit.then])
          refine bodyPost_ret (v := .tuple #[.agg #[.int .i64 1, .int .i32 (r : Int), .int .i64 0, .int .i64 0], .int .i64 z]) ?_ rfl ⟨rfl, below_setRow kb (Nat.le_refl _) _⟩
          exact results_key_tmp rfl _ _ w.heap.size _ _ _ _ rfl (setRow_heap _ _ _ _ _ _ hW3) Tryd.underlying31 rfl (by kernel_rfl) _ rfl
end Kys
end Go.Proofs.YtplceodnllcimaaDoor

/- Plain mathematics: the names of keys; a name names its key. -/
namespace Go.Proofs.YtplceodnllcimaaDoor
namespace Kys
open Txt (dec wd okRune)
def sgn (h b : Int) (l : List UInt8) : List UInt8 := if h / b % 2 = 1 then l else []
def holdsN (h : Int) : List UInt8 := sgn h 4 [67, 45] ++ sgn h 2 [77, 45] ++ sgn h 1 [83, 45]
def namesL : List (List UInt8) := [[], [], [69, 110, 116, 101, 114], [84, 97, 98], [66, 83, 112, 97, 99, 101], [69, 115, 99, 97, 112, 101], [85, 112], [68, 111, 119, 110], [82, 105, 103, 104, 116], [76, 101, 102, 116], [72, 111, 109, 101], [69, 110, 100], [80, 97, 103, 101, 85, 112], [80, 97, 103, 101, 68, 111, 119, 110], [68, 101, 108, 101, 116, 101]]
def spaceL : List UInt8 := [83, 112, 97, 99, 101]
def bareN (k : Ky) : List UInt8 :=
  if k.kind = 15 then 70 :: digB k.n.toNat
  else if k.kind ≠ 1 then namesL.getD k.kind.toNat []
  else if k.r = 32 then spaceL else Lib.encodeRune k.r
def nameL (k : Ky) : List UInt8 := holdsN k.held ++ bareN k
/-- One sign ahead, if it is there. -/
def off (p l : List UInt8) : List UInt8 := if Lib.hasPrefix l p then l.drop p.length else l
def has (p l : List UInt8) (b : Int) : Int := if Lib.hasPrefix l p then b else 0
def offC (l : List UInt8) : List UInt8 := off [67, 45] l
def offM (l : List UInt8) : List UInt8 := off [77, 45] (offC l)
def offS (l : List UInt8) : List UInt8 := off [83, 45] (offM l)
def heldS (l : List UInt8) : Int := has [67, 45] l 4 + has [77, 45] (offC l) 2 + has [83, 45] (offM l) 1
def atoiN (l : List UInt8) : Int := match Lib.atoiAll l with
  | .ok v => v
  | .syntax => 0
  | .range => Lib.atoiSat l
/-- The first place from i on at which l stands. -/
def place (l : List UInt8) : List (List UInt8) → Nat → Option Nat
  | [], _ => none
  | x :: t, i => if x = l then some i else place l t (i + 1)
def bareK (l : List UInt8) : Ky := match place l namesL 0 with
  | some i => ⟨i, 0, 0, 0⟩
  | none => if l.getD 0 0 = 70 ∧ 1 < l.length then ⟨15, 0, atoiN (l.drop 1), 0⟩ else if l = spaceL then ⟨1, 32, 0, 0⟩ else ⟨1, ((dec l).1 : Int), 0, 0⟩
def cand (s : List UInt8) : Ky := { bareK (offS s) with held := heldS s }
def named (s : List UInt8) : Option Ky := if chk (cand s) = true ∧ nameL (cand s) = s then some (cand s) else none
theorem name_plain : ∀ k ∈ plainKeys, cand (nameL k) = k ∧ (nameL k).length ≤ 16 := by decide +kernel
theorem name_ctrl : ∀ k ∈ ctrlKeys, cand (nameL k) = k ∧ (nameL k).length ≤ 16 := by decide +kernel
theorem name_space : ∀ h ∈ ([0, 2] : List Int), cand (nameL ⟨1, 32, 0, h⟩) = ⟨1, 32, 0, h⟩ ∧ (nameL ⟨1, 32, 0, h⟩).length ≤ 16 := by decide +kernel
theorem name_ascii : ∀ i ∈ List.range 128, ∀ h ∈ ([0, 2] : List Int), i ≠ 32 → cand (nameL ⟨1, (i : Int), 0, h⟩) = ⟨1, (i : Int), 0, h⟩ ∧ (nameL ⟨1, (i : Int), 0, h⟩).length ≤ 16 := by decide +kernel
theorem prefix_high (l : List UInt8) (a b : UInt8) (h : 128 ≤ (l.getD 0 0).toNat) (ha : a.toNat < 128) : Lib.hasPrefix l [a, b] = false := by
  cases l with
  | nil => rfl
  | cons x t =>
    simp only [List.getD_cons_zero] at h
    have hx : (a == x) = false := by
      rw [beq_eq_false_iff_ne]
      rintro rfl
      omega
    show ((a == x) && _) = false
    rw [hx]
    rfl
theorem high_no : ∀ x ∈ namesL, ¬ 128 ≤ (x.getD 0 0).toNat := by decide +kernel
theorem name_high (r : Int) (h : okRune r) (h1 : 127 < r) (hd : Int) (hh : hd = 0 ∨ hd = 2) : cand (nameL ⟨1, r, 0, hd⟩) = ⟨1, r, 0, hd⟩ ∧ (nameL ⟨1, r, 0, hd⟩).length ≤ 16 := by
  have hl : (Lib.encodeRune r).length ≤ 4 := by
    have := Lib.encodeRuneZ_length r
    simp only [Lib.encodeRune, List.length_map]
    omega
  rcases enc_head r h with ⟨c, _⟩ | ⟨_, h2⟩
  · omega
  · have dE := Txt.dec_encode r h []
    rw [List.append_nil] at dE
    have hr0 : ((r.toNat : Nat) : Int) = r := by omega
    have pC := prefix_high (Lib.encodeRune r) 67 45 h2 (by decide)
    have pM := prefix_high (Lib.encodeRune r) 77 45 h2 (by decide)
    have pS := prefix_high (Lib.encodeRune r) 83 45 h2 (by decide)
    have hp : place (Lib.encodeRune r) namesL 0 = none := by
      have hne := Txt.encode_ne r
      have hh : ∀ x ∈ namesL, ¬ x = Lib.encodeRune r := by
        intro x hx e
        rw [← e] at h2
        exact absurd h2 (high_no x hx)
      unfold namesL at hh ⊢
      simp only [place]
      simp only [List.mem_cons, forall_eq_or_imp] at hh
      obtain ⟨a0, a1, a2, a3, a4, a5, a6, a7, a8, a9, b0, b1, b2, b3, b4, _⟩ := hh
      rw [if_neg a0, if_neg a1, if_neg a2, if_neg a3, if_neg a4, if_neg a5, if_neg a6, if_neg a7, if_neg a8, if_neg a9, if_neg b0, if_neg b1, if_neg b2, if_neg b3, if_neg b4]
    have hb : bareK (Lib.encodeRune r) = ⟨1, r, 0, 0⟩ := by
      unfold bareK
      rw [hp]
      simp only
      rw [if_neg (fun c => by rw [c.1] at h2; exact absurd h2 (by decide)), if_neg (fun c => by rw [c] at h2; exact absurd h2 (by decide)), dE]
      simp only [hr0]
    have nb : ∀ x, bareN ⟨1, r, 0, x⟩ = Lib.encodeRune r := by
      intro x
      simp [bareN, show ¬ r = 32 by omega]
    rcases hh with rfl | rfl
    · have e : nameL ⟨1, r, 0, 0⟩ = Lib.encodeRune r := by
        unfold nameL
        rw [nb]
        rfl
      rw [e]
      refine ⟨?_, by omega⟩
      simp only [cand, heldS, offS, offM, offC, off, has, pC, pM, pS, Bool.false_eq_true, if_false, hb]
      rfl
    · have e : nameL ⟨1, r, 0, 2⟩ = 77 :: 45 :: Lib.encodeRune r := by
        unfold nameL
        rw [nb]
        rfl
      rw [e]
      refine ⟨?_, by simp; omega⟩
      have q1 : Lib.hasPrefix (77 :: 45 :: Lib.encodeRune r) [67, 45] = false := rfl
      have q2 : Lib.hasPrefix (77 :: 45 :: Lib.encodeRune r) [77, 45] = true := by cases Lib.encodeRune r <;> rfl
      simp only [cand, heldS, offS, offM, offC, off, has, q1, q2, pS, Bool.false_eq_true, if_false, if_true, List.length_cons, List.length_nil, List.drop_succ_cons, List.drop_zero, hb]
      rfl
/-- A key's name names it. -/
theorem named_name (k : Ky) (h : chk k = true) : named (nameL k) = some k ∧ (nameL k).length ≤ 16 := by
  have hc : cand (nameL k) = k ∧ (nameL k).length ≤ 16 := by
    rcases chk_cases k h with h1 | ⟨h1, h2⟩ | ⟨h1, h2, h3, h4⟩
    · exact name_plain k h1
    · exact name_ctrl k h1
    · obtain ⟨kind, r, n, held⟩ := k
      simp only at h1 h2 h3 h4
      subst h1 h2
      obtain ⟨ho, h32, h127⟩ := wd_bounds r h3
      have hh : held = 0 ∨ held = 2 := by rcases h4 with h | h; exact Or.inl h; exact Or.inr h.1
      by_cases hr : r = 32
      · subst hr
        exact name_space held (by rcases hh with rfl | rfl <;> simp)
      · by_cases hr2 : 127 < r
        · exact name_high r ho hr2 held hh
        · obtain ⟨i, hi, rfl⟩ : ∃ i : Nat, i < 128 ∧ r = (i : Int) := ⟨r.toNat, by omega, by omega⟩
          exact name_ascii i (List.mem_range.2 hi) held (by rcases hh with rfl | rfl <;> simp) (by omega)
  refine ⟨?_, hc.2⟩
  unfold named
  rw [hc.1, if_pos ⟨h, rfl⟩]
end Kys
end Go.Proofs.YtplceodnllcimaaDoor

/- Package keys: a number, and what it says of what is held. -/
namespace Go.Proofs.YtplceodnllcimaaDoor
open Go.ChangeShapes Go.WideShapes Go.ChangeAt Go.RowKit
namespace Kys
open Txt (wd bs dec)
/-- The library's two errors lie somewhere. -/
def ErrAt (w : World) (g : Nat) : Prop := ∃ ev, w.cell? ⟨g, 0, none⟩ = some ev ∧ (ev = .nilIface ∨ ∃ te pe, ev = .iface te pe)
def Errs (w : World) : Prop := ErrAt w 5 ∧ ErrAt w 6
theorem ErrAt.below {w w' : World} {g : Nat} (h : ErrAt w g) (hb : Below w.heap.size w w') : ErrAt w' g := by
  obtain ⟨ev, h1, h2⟩ := h
  exact ⟨ev, by rw [hb.cell (Txt.lt_of_cell h1)]; exact h1, h2⟩
theorem Errs.below {w w' : World} (h : Errs w) (hb : Below w.heap.size w w') : Errs w' := ⟨h.1.below hb, h.2.below hb⟩
def okN (l : List UInt8) : Bool := match Lib.atoiAll l with
  | .ok _ => true
  | _ => false
theorem atoi_ok (s : ByteArray) (hs : s.size ≤ 281474976710656) (w : World) (v : Int) (h : Lib.atoiAll s.data.toList = .ok v) : Calls Tryd.prog 40 #[.string s] w fun e w' => e = .returned (.tuple #[.int .i64 v, .nilIface]) ∧ Below w.heap.size w w' := by
  refine (Tryd.strconv_Atoi_ok s (by omega) v h w).mono ?_
  rintro e w' ⟨rfl, rfl | ⟨t, rfl⟩⟩
  · exact ⟨rfl, Below.refl _ _⟩
  · exact ⟨rfl, Lib.bytesWorld_below _ _ _⟩
theorem atoi_no (s : ByteArray) (hs : s.size ≤ 281474976710656) (w : World) (hE : Errs w) (h : okN s.data.toList = false) : Calls Tryd.prog 40 #[.string s] w fun e w' => ∃ N, e = .returned (.tuple #[.int .i64 (atoiN s.data.toList), .iface 92 (.pointer (some ⟨N, 0, none⟩))]) ∧ Below w.heap.size w w' := by
  unfold okN at h
  unfold atoiN
  cases ha : Lib.atoiAll s.data.toList with
  | ok v => rw [ha] at h; cases h
  | «syntax» =>
    obtain ⟨ev, h1, h2⟩ := hE.1
    refine (Tryd.strconv_Atoi_syntax s hs ha ev w h1 h2).mono ?_
    rintro e w' ⟨N, rfl, _, _, hb⟩
    exact ⟨N, rfl, hb⟩
  | range =>
    obtain ⟨ev, h1, h2⟩ := hE.2
    refine (Tryd.strconv_Atoi_range s hs ha ev w h1 h2).mono ?_
    rintro e w' ⟨N, rfl, _, _, hb⟩
    exact ⟨N, rfl, hb⟩
set_option maxHeartbeats 4000000 in
theorem heldOf_any (s : ByteArray) (hs : s.size ≤ 281474976710656) (w : World) (hE : Errs w) : Calls Tryd.prog 54 #[.string s] w fun e w' => e = .returned (.tuple #[.int .i64 ((heldN s.data.toList).getD 0), .bool (heldN s.data.toList).isSome]) ∧ Below w.heap.size w w' := by
  cases hk : okN s.data.toList with
  | true =>
    obtain ⟨v, hv⟩ : ∃ v, Lib.atoiAll s.data.toList = .ok v := by
      unfold okN at hk
      split at hk
      · exact ⟨_, by assumption⟩
      · cases hk
    have HA := atoi_ok s hs w v hv
    have e : heldN s.data.toList = if 1 ≤ v ∧ v ≤ 8 then some (v - 1) else none := by unfold heldN; rw [hv]
    rw [e]
    clear e hE hk hv
    by_cases h1 : 1 ≤ v
    · by_cases h8 : v ≤ 8
      · rw [if_pos ⟨h1, h8⟩]
        have i1 : ¬ v < 1 := by omega
        have i2 : ¬ 8 < v := by omega
        have hw : wrap64 (v - 1) = v - 1 := by unfold wrap64; omega
        go_enter Tryd.func54, Tryd.ntmps54
        go_wp2_with (go_at_call 40; refine HA.mono ?_; rintro e W1 ⟨rfl, b1⟩)
        go_ret2
        exact ⟨rfl, b1⟩
      · rw [if_neg (fun h => h8 h.2)]
        have i1 : ¬ v < 1 := by omega
        have i2 : 8 < v := by omega
        go_enter Tryd.func54, Tryd.ntmps54
        go_wp2_with (go_at_call 40; refine HA.mono ?_; rintro e W1 ⟨rfl, b1⟩)
        go_ret2
        exact ⟨rfl, b1⟩
    · rw [if_neg (fun h => h1 h.1)]
      have i1 : v < 1 := by omega
      go_enter Tryd.func54, Tryd.ntmps54
      go_wp2_with (go_at_call 40; refine HA.mono ?_; rintro e W1 ⟨rfl, b1⟩)
      go_ret2
      exact ⟨rfl, b1⟩
  | false =>
    have HA := atoi_no s hs w hE hk
    have e : heldN s.data.toList = none := by
      unfold heldN
      unfold okN at hk
      split at hk
      · cases hk
      · rename_i hh
        split
        · rename_i v hv
          exact absurd hv (hh v)
        · rfl
    rw [e]
    clear e hE hk
    go_enter Tryd.func54, Tryd.ntmps54
    go_wp2_with (go_at_call 40; refine HA.mono ?_; rintro e W1 ⟨N, rfl, b1⟩)
    go_ret2
    exact ⟨rfl, b1⟩
/-- Texts as bytes. -/
theorem toL_extract (t : ByteArray) (a b : Nat) : (t.extract a b).data.toList = (t.data.toList.take b).drop a := by
  simp [ByteArray.data_extract, List.drop_take]
set_option maxHeartbeats 2000000 in
theorem slcut_any (t : ByteArray) (ht : t.size ≤ 1048576) (w : World) : Calls Tryd.prog 64 #[.string t, .string ⟨#[59]⟩] w fun e w' => e = .returned (.tuple #[.string (bs (cutA t.data.toList)), .string (bs (cutB t.data.toList)), .bool (cutF t.data.toList)]) ∧ Below w.heap.size w w' := by
  have HI := Tryd.stringslite_Index_one t 59 w
  have hge := Lib.indexByte_ge t.data.toList 59
  by_cases h : Lib.indexByte t.data.toList 59 < 0
  · have e1 : bs (cutA t.data.toList) = t := by unfold cutA; rw [if_pos h]; rfl
    have e2 : bs (cutB t.data.toList) = ⟨#[]⟩ := by unfold cutB; rw [if_pos h]; rfl
    have e3 : cutF t.data.toList = false := by unfold cutF; exact decide_eq_false (by omega)
    rw [e1, e2, e3]
    clear e1 e2 e3
    generalize Lib.indexByte t.data.toList 59 = k at *
    have h1 : ¬ (0 ≤ k) := by omega
    go_enter Tryd.func64, Tryd.ntmps64
    go_wp2_with fail
    refine HI.mono ?_
    rintro e w' ⟨rfl, rfl⟩
    go_wp2_with fail
    go_ret3
    exact ⟨rfl, Below.refl _ _⟩
  · obtain ⟨k, hk⟩ : ∃ k : Nat, Lib.indexByte t.data.toList 59 = (k : Int) := ⟨(Lib.indexByte t.data.toList 59).toNat, by omega⟩
    have hs := (Lib.indexByte_some hk).1
    have hlt : k < t.size := by
      have := (List.getElem?_eq_some_iff.1 hs).1
      rw [Array.length_toList] at this
      exact this
    have e1 : bs (cutA t.data.toList) = t.extract 0 k := by
      unfold cutA
      rw [if_neg h, hk]
      apply ByteArray.ext
      apply Array.toList_inj.1
      rw [toL_extract]
      simp [bs]
    have e2 : bs (cutB t.data.toList) = t.extract (k + 1) t.size := by
      unfold cutB
      rw [if_neg h, hk]
      apply ByteArray.ext
      apply Array.toList_inj.1
      rw [toL_extract, List.take_of_length_le (by rw [Array.length_toList]; exact Nat.le_refl _)]
      simp [bs]
    have e3 : cutF t.data.toList = true := by unfold cutF; rw [hk]; exact decide_eq_true (by omega)
    rw [e1, e2, e3]
    rw [hk] at HI
    clear e1 e2 e3 hk hs h hge
    have a1 : k ≤ t.size := by omega
    have a2 : k + 1 ≤ t.size := by omega
    have a3 : (k : Int) + 1 ≤ 9223372036854775807 := by omega
    have a4 : wrap64 ((k : Int) + 1) = (k : Int) + 1 := by
      unfold wrap64
      omega
    go_enter Tryd.func64, Tryd.ntmps64
    go_wp2_with fail
    refine HI.mono ?_
    rintro e w' ⟨rfl, rfl⟩
    go_wp2_with fail
    go_region
    go_wp2_with fail
    go_ret3
    exact ⟨rfl, (Below.refl _ _).drew⟩
set_option maxHeartbeats 2000000 in
theorem cut_any (t : ByteArray) (ht : t.size ≤ 1048576) (w : World) : Calls Tryd.prog 53 #[.string t, .string ⟨#[59]⟩] w fun e w' => e = .returned (.tuple #[.string (bs (cutA t.data.toList)), .string (bs (cutB t.data.toList)), .bool (cutF t.data.toList)]) ∧ Below w.heap.size w w' := by
  have HI := slcut_any t ht w
  go_enter Tryd.func53, Tryd.ntmps53
  go_wp2_with fail
  refine HI.mono ?_
  rintro e w' ⟨rfl, hb⟩
  go_wp2_with fail
  go_ret3
  exact ⟨rfl, hb⟩
end Kys
end Go.Proofs.YtplceodnllcimaaDoor

/- Package keys: a key's letter or number, with numbers ahead of it. -/
namespace Go.Proofs.YtplceodnllcimaaDoor
open Go.ChangeShapes Go.WideShapes Go.ChangeAt Go.RowKit
namespace Kys
open Txt (wd bs dec)
/-- A key that may be none. -/
def kOr : Option Ky → Ky
  | some k => k
  | none => zk
theorem bs_list (l : List UInt8) : (bs l).data.toList = l := by simp [bs]
theorem bs_sz (l : List UInt8) : (bs l).size = l.length := by simp [bs, ByteArray.size]
theorem cutA_len (l : List UInt8) : (cutA l).length ≤ l.length := by
  unfold cutA
  split
  · exact Nat.le_refl _
  · rw [List.length_take]; omega
theorem cutB_len (l : List UInt8) : (cutB l).length ≤ l.length := by
  unfold cutB
  split
  · exact Nat.zero_le _
  · rw [List.length_drop]; omega
theorem zErrs {w : World} (hE : Errs w) : Errs (w.alloc (.cells #[.int .i64 0, .int .i32 0, .int .i64 0, .int .i64 0] 31)) := hE.below (kb_z w)
set_option maxHeartbeats 4000000 in
theorem withLetter_any (kind : Int) (s : ByteArray) (hs : s.size ≤ 1048576) (w : World) (hE : Errs w) : Calls Tryd.prog 43 #[.int .i64 kind, .string s] w fun e w' => e = .returned (.tuple #[kyv (kOr (withLetterL kind s.data.toList)), .bool (withLetterL kind s.data.toList).isSome]) ∧ Below w.heap.size w w' := by
  have kb := kb_z w
  have Z := hz w
  have hsz : s.data.toList.length = s.size := Array.length_toList
  by_cases h0 : s.data.toList = []
  · have e : withLetterL kind s.data.toList = some ⟨kind, 0, 0, 0⟩ := by unfold withLetterL; rw [if_pos h0]
    rw [e]
    clear e hE
    have hb : (s.toList == []) = true := by rw [beq_iff_eq, Lib.toList_data]; exact h0
    clear h0 hsz
    go_enter Tryd.func43, Tryd.ntmps43
    go_wp2_with (refine wpList_store_row rfl 31 (.tmp 4) (.tmp 16) rfl w.heap.size #[.int .i64 kind, .int .i32 0, .int .i64 0, .int .i64 0] rfl rfl _ _ Z (by kernel_rfl) rfl (one4 _ _ _ _) ?_)
    (try simp only [Exit.inBlock, Exit.then])
    refine bodyPost_ret (v := .tuple #[.agg #[.int .i64 kind, .int .i32 0, .int .i64 0, .int .i64 0], .bool true]) ?_ rfl ⟨rfl, below_setRow kb (Nat.le_refl _) _⟩
    exact results_key_tmp rfl _ _ w.heap.size _ _ _ _ rfl (setRow_heap _ _ _ _ _ _ Z) Tryd.underlying31 rfl (by kernel_rfl) _ rfl
  · have hb : (s.toList == []) = false := by rw [beq_eq_false_iff_ne, Lib.toList_data]; exact h0
    have HC := fun W => cut_any s hs W
    have HH := fun W (h : Errs W) => heldOf_any (bs (cutB s.data.toList)) (by rw [bs_sz]; have := cutB_len s.data.toList; omega) W h
    have hsA : (bs (cutA s.data.toList)).size ≤ 281474976710656 := by rw [bs_sz]; have := cutA_len s.data.toList; omega
    have HAo := fun W v h => atoi_ok (bs (cutA s.data.toList)) hsA W v h
    have HAn := fun W h1 h2 => atoi_no (bs (cutA s.data.toList)) hsA W h1 h2
    have hE1 := zErrs hE
    rw [bs_list] at HH
    rw [bs_list] at HAo HAn
    obtain ⟨res, hres⟩ : ∃ res, withLetterL kind s.data.toList = res := ⟨_, rfl⟩
    have HR : Hid ((if Lib.atoiAll (cutA s.data.toList) = .ok 1 then (heldN (cutB s.data.toList)).map fun h => (⟨kind, 0, 0, h⟩ : Ky) else none) = res) := by
      unfold Hid
      rw [← hres]
      unfold withLetterL
      rw [if_neg h0]
    rw [hres]
    clear hres h0 hsz hsA hE
    cases hk : okN (cutA s.data.toList) with
    | true =>
      obtain ⟨v, hv⟩ : ∃ v, Lib.atoiAll (cutA s.data.toList) = .ok v := by
        unfold okN at hk
        split at hk
        · exact ⟨_, by assumption⟩
        · cases hk
      have HA := fun W => HAo W v hv
      rw [hv] at HR
      clear HAo HAn hv hk
      generalize bs (cutA s.data.toList) = tA at *
      generalize bs (cutB s.data.toList) = tB at *
      generalize cutF s.data.toList = tF at *
      by_cases h1 : v = 1
      · subst h1
        cases hh : heldN (cutB s.data.toList) with
        | none =>
          rw [hh] at HH
          have e : res = none := by rw [← HR.out, if_pos rfl, hh]; rfl
          subst e
          clear HR hh
          simp only [Option.getD_none, Option.isSome_none] at HH
          go_enter Tryd.func43, Tryd.ntmps43
          go_wp2_with (first | (go_at_call 53; refine (HC _).mono ?_; rintro e W1 ⟨rfl, b1⟩; have z1 := held_block b1; have E1 := Errs.below hE1 b1; replace kb := kb.trans (b1.mono kb.size)) | (go_at_call 40; refine (HA _).mono ?_; rintro e W2 ⟨rfl, b2⟩; have z2 := by_block z1 b2; have E2 := Errs.below E1 b2; replace kb := kb.trans (b2.mono kb.size)) | (go_at_call 54; refine (HH _ E2).mono ?_; rintro e W3 ⟨rfl, b3⟩; have z3 := by_block z2 b3; replace kb := kb.trans (b3.mono kb.size)) | (refine wpList_store_row rfl 31 (.tmp 4) (.tmp 43) rfl w.heap.size #[.int .i64 0, .int .i32 0, .int .i64 0, .int .i64 0] rfl rfl _ _ z3 (by kernel_rfl) rfl (one4 _ _ _ _) ?_))
          (try simp only [Exit.inBlock, Exit.then])
          refine bodyPost_ret (v := .tuple #[.agg #[.int .i64 0, .int .i32 0, .int .i64 0, .int .i64 0], .bool false]) ?_ rfl ⟨rfl, below_setRow kb (Nat.le_refl _) _⟩
          exact results_key_tmp rfl _ _ w.heap.size _ _ _ _ rfl (setRow_heap _ _ _ _ _ _ z3) Tryd.underlying31 rfl (by kernel_rfl) _ rfl
        | some q =>
          rw [hh] at HH
          have e : res = some ⟨kind, 0, 0, q⟩ := by rw [← HR.out, if_pos rfl, hh]; rfl
          subst e
          clear HR hh
          simp only [Option.getD_some, Option.isSome_some] at HH
          go_enter Tryd.func43, Tryd.ntmps43
          go_wp2_with (first | (go_at_call 53; refine (HC _).mono ?_; rintro e W1 ⟨rfl, b1⟩; have z1 := held_block b1; have E1 := Errs.below hE1 b1; replace kb := kb.trans (b1.mono kb.size)) | (go_at_call 40; refine (HA _).mono ?_; rintro e W2 ⟨rfl, b2⟩; have z2 := by_block z1 b2; have E2 := Errs.below E1 b2; replace kb := kb.trans (b2.mono kb.size)) | (go_at_call 54; refine (HH _ E2).mono ?_; rintro e W3 ⟨rfl, b3⟩; have z3 := by_block z2 b3; replace kb := kb.trans (b3.mono kb.size)) | (refine wpList_store_row rfl 31 (.tmp 4) (.tmp 46) rfl w.heap.size #[.int .i64 kind, .int .i32 0, .int .i64 0, .int .i64 q] rfl rfl _ _ z3 (by kernel_rfl) rfl (one4 _ _ _ _) ?_))
          (try simp only [Exit.inBlock, Exit.then])
          refine bodyPost_ret (v := .tuple #[.agg #[.int .i64 kind, .int .i32 0, .int .i64 0, .int .i64 q], .bool true]) ?_ rfl ⟨rfl, below_setRow kb (Nat.le_refl _) _⟩
          exact results_key_tmp rfl _ _ w.heap.size _ _ _ _ rfl (setRow_heap _ _ _ _ _ _ z3) Tryd.underlying31 rfl (by kernel_rfl) _ rfl
      · have e : res = none := by rw [← HR.out, if_neg (fun h => h1 (by injection h))]
        subst e
        clear HR
        have i1 : (v != 1) = true := by rw [bne_iff_ne]; exact h1
        have i2 : (v == 1) = false := by rw [beq_eq_false_iff_ne]; exact h1
        generalize (heldN (cutB s.data.toList)).getD 0 = hq at *
        generalize (heldN (cutB s.data.toList)).isSome = ho at *
        go_enter Tryd.func43, Tryd.ntmps43
        go_wp2_with (first | (go_at_call 53; refine (HC _).mono ?_; rintro e W1 ⟨rfl, b1⟩; have z1 := held_block b1; have E1 := Errs.below hE1 b1; replace kb := kb.trans (b1.mono kb.size)) | (go_at_call 40; refine (HA _).mono ?_; rintro e W2 ⟨rfl, b2⟩; have z2 := by_block z1 b2; have E2 := Errs.below E1 b2; replace kb := kb.trans (b2.mono kb.size)) | (go_at_call 54; refine (HH _ E2).mono ?_; rintro e W3 ⟨rfl, b3⟩; have z3 := by_block z2 b3; replace kb := kb.trans (b3.mono kb.size)) | (refine wpList_store_row rfl 31 (.tmp 4) (.tmp 43) rfl w.heap.size #[.int .i64 0, .int .i32 0, .int .i64 0, .int .i64 0] rfl rfl _ _ z3 (by kernel_rfl) rfl (one4 _ _ _ _) ?_))
        (try simp only [Exit.inBlock, Exit.then])
        refine bodyPost_ret (v := .tuple #[.agg #[.int .i64 0, .int .i32 0, .int .i64 0, .int .i64 0], .bool false]) ?_ rfl ⟨rfl, below_setRow kb (Nat.le_refl _) _⟩
        exact results_key_tmp rfl _ _ w.heap.size _ _ _ _ rfl (setRow_heap _ _ _ _ _ _ z3) Tryd.underlying31 rfl (by kernel_rfl) _ rfl
    | false =>
      have e : res = none := by
        rw [← HR.out, if_neg]
        intro h
        unfold okN at hk
        rw [h] at hk
        cases hk
      subst e
      have HA := fun W h => HAn W h hk
      clear HR HAo HAn hk
      generalize bs (cutA s.data.toList) = tA at *
      generalize bs (cutB s.data.toList) = tB at *
      generalize cutF s.data.toList = tF at *
      generalize atoiN (cutA s.data.toList) = va at *
      generalize (heldN (cutB s.data.toList)).getD 0 = hq at *
      generalize (heldN (cutB s.data.toList)).isSome = ho at *
      go_enter Tryd.func43, Tryd.ntmps43
      go_wp2_with (first | (go_at_call 53; refine (HC _).mono ?_; rintro e W1 ⟨rfl, b1⟩; have z1 := held_block b1; have E1 := Errs.below hE1 b1; replace kb := kb.trans (b1.mono kb.size)) | (go_at_call 40; refine (HA _ E1).mono ?_; rintro e W2 ⟨NN, rfl, b2⟩; have z2 := by_block z1 b2; have E2 := Errs.below E1 b2; replace kb := kb.trans (b2.mono kb.size)) | (go_at_call 54; refine (HH _ E2).mono ?_; rintro e W3 ⟨rfl, b3⟩; have z3 := by_block z2 b3; replace kb := kb.trans (b3.mono kb.size)) | (refine wpList_store_row rfl 31 (.tmp 4) (.tmp 43) rfl w.heap.size #[.int .i64 0, .int .i32 0, .int .i64 0, .int .i64 0] rfl rfl _ _ z3 (by kernel_rfl) rfl (one4 _ _ _ _) ?_))
      (try simp only [Exit.inBlock, Exit.then])
      refine bodyPost_ret (v := .tuple #[.agg #[.int .i64 0, .int .i32 0, .int .i64 0, .int .i64 0], .bool false]) ?_ rfl ⟨rfl, below_setRow kb (Nat.le_refl _) _⟩
      exact results_key_tmp rfl _ _ w.heap.size _ _ _ _ rfl (setRow_heap _ _ _ _ _ _ z3) Tryd.underlying31 rfl (by kernel_rfl) _ rfl
end Kys
end Go.Proofs.YtplceodnllcimaaDoor
