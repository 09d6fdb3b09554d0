/- The walks of text.Next and of the law TextNext. -/
import Derived.Test.YtgbenpokncmfmaaDoorTextTab
namespace Go.Proofs.YtgbenpokncmfmaaDoor
open Go.ChangeShapes Go.WideShapes Go.ChangeAt Go.RowKit
namespace Txt
abbrev U8 (w : World) : Prop := Lib.Utf8Tabs 1 2 w
theorem lt_of_cell {w : World} {b o : Nat} {v : Value} (h : w.cell? ⟨b, o, none⟩ = some v) : b < w.heap.size := by
  by_cases hb : b < w.heap.size
  · exact hb
  · simp [World.cell?, show w.heap[b]? = none from Array.getElem?_eq_none (by omega)] at h
theorem U8.below {w w' : World} (h : U8 w) (hb : Below w.heap.size w w') : U8 w' := by
  refine ⟨fun c hc => ?_, fun i hi => ?_⟩
  · have := h.1 c hc
    rw [hb.cell (lt_of_cell this)]; exact this
  · have := h.2 i hi
    exact ⟨by rw [hb.cell (lt_of_cell this.1)]; exact this.1, by rw [hb.cell (lt_of_cell this.2)]; exact this.2⟩
set_option maxHeartbeats 400000 in
theorem next_empty (w : World) :
    Calls Tryd.prog 8 #[.string (bs [])] w fun e w' => e = .returned (.tuple #[.int .i32 0, .int .i64 0]) ∧ Below w.heap.size w w' := by
  have he : ((bs []).toList == []) = true := by decide +kernel
  go_enter Tryd.func8, Tryd.ntmps8
  go_wp2
  go_ret2
  exact ⟨rfl, Below.refl _ _⟩
set_option maxHeartbeats 400000 in
theorem next_any (s : ByteArray) (w : World) (hU : U8 w) (hs : (s.toList == []) = false) :
    Calls Tryd.prog 8 #[.string s] w fun e w' => e = .returned (.tuple #[.int .i32 (Lib.decodeGo s).1, .int .i64 (Lib.decodeGo s).2]) ∧ Below w.heap.size w w' := by
  have HU : Hid (U8 w) := hU
  clear hU
  go_enter Tryd.func8, Tryd.ntmps8
  go_wp2_with (go_at_call 10; refine (Tryd.utf8_DecodeRuneInString _ _ HU.out).mono ?_; rintro e W1 ⟨rfl, b1⟩)
  go_ret2
  exact ⟨rfl, b1⟩
set_option maxHeartbeats 1000000 in
theorem textNext_empty (w : World) (hT : Tab w) :
    Calls Tryd.prog 3 #[.string (bs [])] w fun e w' => e = .returned (.bool true) ∧ Below w.heap.size w w' := by
  have hpos := hT.pos
  have HT : Hid (Tab w) := hT
  clear hT
  have he : ((bs []).toList == []) = true := by decide +kernel
  go_enter Tryd.func3, Tryd.ntmps3
  go_wp2_with fail
  refine (next_empty _).mono ?_
  rintro e W1 ⟨rfl, b1⟩
  go_wp2_with fail
  refine (written_yes _ (HT.out.below b1 hpos)).mono ?_
  rintro e W2 ⟨rfl, b2⟩
  have b12 := b1.trans (b2.mono b1.size)
  clear b1 b2
  go_wp2_with fail
  refine (written_yes _ (HT.out.below b12 hpos)).mono ?_
  rintro e W3 ⟨rfl, b3⟩
  go_wp2
  go_ret
  exact ⟨rfl, b12.trans (b3.mono b12.size)⟩
set_option maxHeartbeats 1000000 in
theorem textNext_any (s : ByteArray) (w : World) (hT : Tab w) (hU : U8 w) (he : (s.toList == []) = false) :
    Calls Tryd.prog 3 #[.string s] w fun e w' => e = .returned (.bool true) ∧ Below w.heap.size w w' := by
  have hpos := hT.pos
  have HT : Hid (Tab w) := hT
  have HU : Hid (U8 w) := hU
  clear hT hU
  go_enter Tryd.func3, Tryd.ntmps3
  go_wp2_with fail
  refine (next_any _ _ HU.out he).mono ?_
  rintro e W1 ⟨rfl, b1⟩
  go_wp2_with fail
  refine (written_yes _ (HT.out.below b1 hpos)).mono ?_
  rintro e W2 ⟨rfl, b2⟩
  have b12 := b1.trans (b2.mono b1.size)
  clear b1 b2
  go_wp2_with fail
  refine (Tryd.utf8_DecodeRuneInString _ _ (U8.below HU.out b12)).mono ?_
  rintro e W3 ⟨rfl, b3⟩
  go_wp2
  go_ret
  exact ⟨rfl, b12.trans (b3.mono b12.size)⟩
theorem textNext_walk (s : ByteArray) (w : World) (hT : Tab w) (hU : U8 w) :
    Calls Tryd.prog 3 #[.string s] w fun e w' => e = .returned (.bool true) ∧ Below w.heap.size w w' := by
  cases h : (s.toList == [])
  · exact textNext_any s w hT hU h
  · have : s = bs [] := by
      have := eq_of_beq h
      rw [← bs_self s]
      congr 1
      rw [← this, Lib.toList_data]
    rw [this]; exact textNext_empty w hT
theorem u8x : U8Extra Tryd.prog Tryd.lays260_ren := { n3 := by kernel_rfl, n4 := by kernel_rfl, y3 := by kernel_rfl, y4 := by kernel_rfl, c5 := by kernel_rfl, c119 := by kernel_rfl, c138 := by kernel_rfl }
theorem first_eq : Lib.firstData = Rows.laid_unicode_utf8_first := by kernel_rfl
theorem accept_eq : Lib.acceptData = Rows.laid_unicode_utf8_acceptRanges := by kernel_rfl
def firstCells : Array Value := (Go.Pinned.utf8FirstZ.map fun (z : Nat) => Value.int .u8 (z : Int)).toArray
def acceptCells : Array Value := ((List.range 16).flatMap fun i => [Value.int .u8 (Lib.accLo i : Int), Value.int .u8 (Lib.accHi i : Int)]).toArray
end Txt
end Go.Proofs.YtgbenpokncmfmaaDoor
