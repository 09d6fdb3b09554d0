/- The walk of grid.Lines. -/
import Derived.Test.YtinhmklpnkikgabDoorGridWrite2
import Derived.Test.YtinhmklpnkikgabDoorShelfRune
import Derived.Lib.TrimByte
namespace Go.Proofs.YtinhmklpnkikgabDoor
open Go.ChangeShapes Go.WideShapes Go.ChangeAt Go.RowKit
namespace Grd
open Txt (wd)
open Sty (isSt)
/-- The bytes of a row's runes, and without blanks at the end. -/
def rowBytes (row : List C) : List UInt8 := row.flatMap fun c => if c.1 = 0 then [] else Lib.encodeRune c.1
def lineB (row : List C) : ByteArray := ⟨(Lib.trimRightB (rowBytes row) 32).toArray⟩
def linesL (n hh : Nat) (cs : List C) : List ByteArray := (List.range hh).map fun y => lineB (rowAt n cs y)
/-- A slice of the call's own, of texts. -/
def OwnS (w : World) (base : Nat) (v : Value) (ss : List ByteArray) : Prop := ∃ (g : Nat) (t : TypeId), v = .slice (some ⟨g, 0, none⟩) ss.length ss.length ∧ base ≤ g ∧ w.heap[g]? = some (.cells (ss.map Value.string).toArray t (0, 0))
theorem builder_below {T e : TypeId} {B b : Nat} {bs : List Value} {w w' : World} (h : Lib.IsBuilderF T e B b bs w) (hb : Below w.heap.size w w') : Lib.IsBuilderF T e B b bs w' := by
  have key : ∀ p, Lib.BuilderAtF T e B b p bs w → Lib.BuilderAtF T e B b p bs w' := by
    rintro p ⟨hB, v, hh, hown, hne⟩
    refine ⟨hB, v, by rw [hb.block b (Array.getElem?_eq_some_iff.1 hh).1]; exact hh, ⟨hown.1, ?_⟩, hne⟩
    rcases hown.2 with hn | ⟨g, cap, cur, fz, hv, hbg, hg, rest⟩
    · exact .inl hn
    · exact .inr ⟨g, cap, cur, fz, hv, hbg, by rw [hb.block g (Array.getElem?_eq_some_iff.1 hg).1]; exact hg, rest⟩
  exact h.elim (fun x => .inl (key _ x)) (fun x => .inr (key _ x))
theorem encode_len (r : Int) : (Lib.encodeRune r).length ≤ 4 := by
  rw [← Lib.runeCells_length]; exact (Lib.runeCells_le r).2
theorem und_strs : Tryd.prog.underlying 45 = some (.slice 9) := by kernel_rfl
theorem info_str : (Tryd.prog.info? 9).map (fun i => (i.zero, i.size, i.bytes)) = some (some (.string ByteArray.empty), 1, 16) := by kernel_rfl
theorem make_strs (N : Nat) (hN : N ≤ 1000000) (w : World) :
    (Instr.makeSlice 45 (.int .i64 (N : Int)) (.int .i64 (N : Int))).run Tryd.prog w = .ok (.slice (some ⟨w.heap.size, 0, none⟩) N N) (w.alloc (.cells (madeCells #[.string ByteArray.empty] (N * 1)) 9)) := by
  obtain ⟨i, hi, hzz⟩ := Option.map_eq_some_iff.1 info_str
  simp only [Prod.mk.injEq] at hzz
  obtain ⟨hz, hs, hb⟩ := hzz
  have hr := run_make (P := Tryd.prog) w 45 9 i _ und_strs hi hz .i64 .i64 N N (by omega) (Int.le_refl _) (by rw [hb]; omega) (by omega)
  simp only [Int.toNat_natCast, hs] at hr
  exact hr
set_option maxHeartbeats 1000000 in
theorem lines_bad (a h : Int) (v : Value) (cs : List C) (w : World) (hT : Txt.Tab w) (hS : SliceAt w v cs) (hok : gridErr a h cs ≠ 0) :
    Calls Tryd.prog 15 #[.agg #[.int .i64 a, .int .i64 h, v]] w fun e w' => e = .returned (.tuple #[.slice none 0 0, .int .i64 (gridErr a h cs)]) ∧ Below w.heap.size w w' := by
  have kk : Below w.heap.size w (w.alloc (.cells #[.int .i64 a, .int .i64 h, v] 24)) := (Below.refl _ _).alloc (Nat.le_refl _) _
  have HK := check_any a h v cs _ (Tab.next hT kk) (hS.below kk)
  generalize gridErr a h cs = er at *
  have HK' : Hid (Calls Tryd.prog 7 #[.agg #[.int .i64 a, .int .i64 h, v]] (w.alloc (.cells #[.int .i64 a, .int .i64 h, v] 24)) fun e w' => e = .returned (.int .i64 er) ∧ Below (w.alloc (.cells #[.int .i64 a, .int .i64 h, v] 24)).heap.size (w.alloc (.cells #[.int .i64 a, .int .i64 h, v] 24)) w') := HK
  have ne : (er != 0) = true := by simpa using hok
  clear HK hok
  go_enter Tryd.func15, Tryd.ntmps15
  go_wp2_with (go_at_call 7; refine HK'.out.mono ?_; rintro e W1 ⟨rfl, b1⟩)
  go_ret2
  exact ⟨rfl, kk.trans (b1.mono kk.size)⟩
theorem cellR_in (n hh : Nat) (cs : List C) (hok : gridErr n hh cs = 0) (y j : Nat) (hy : y < hh) (hj : j < n) : 0 ≤ ((rowAt n cs y).getD j z0).1 ∧ ((rowAt n cs y).getD j z0).1 ≤ 1114111 := by
  obtain ⟨_, hL, hr⟩ := (gridErr_zero n hh cs).1 hok
  have := ((hr y hy).1 j (by rw [row_len n hh cs y hL hy]; exact hj)).1
  generalize ((rowAt n cs y).getD j z0).1 = r at *
  by_cases h0 : r = 0
  · omega
  · have := this h0
    unfold Txt.wd at this
    by_cases hc : r < 0 ∨ 1114111 < r
    · rw [if_pos hc] at this; exact absurd rfl this
    · omega
theorem rowBytes_next (row : List C) (j : Nat) (hj : j < row.length) : rowBytes (row.take (j + 1)) = rowBytes (row.take j) ++ (if (row.getD j z0).1 = 0 then [] else Lib.encodeRune (row.getD j z0).1) := by
  unfold rowBytes
  rw [List.take_add_one, List.flatMap_append, List.getElem?_eq_getElem hj]
  have : row.getD j z0 = row[j] := by simp [List.getD, hj]
  rw [this]
  simp
end Grd
end Go.Proofs.YtinhmklpnkikgabDoor
