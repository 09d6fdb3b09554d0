/- The walk of the reference's Spots: each rune that takes a cell, with its column. -/
import Derived.Test.YtlodmffiengnaaaDoorTextCols
import Derived.Test.YtlodmffiengnaaaDoorTextWidthOf
namespace Go.Proofs.YtlodmffiengnaaaDoor
open Go.ChangeShapes Go.WideShapes Go.ChangeAt Go.RowKit Go.Maps
namespace Txt
def spotsL : List (Int × Nat) → Int → List (Int × Int)
  | [], _ => []
  | x :: t, c => if 0 < wd x.1 then (x.1, c) :: spotsL t (c + wd x.1) else spotsL t c
def spot2 (x : Int × Int) : List Value := [.int .i32 x.1, .int .i64 x.2]
theorem spots_cols : ∀ (l : List (Int × Nat)) (c : Int), (spotsL l c).map (·.2) = colsL l c
  | [], _ => rfl
  | x :: t, c => by
    unfold spotsL colsL
    split
    · simp [spots_cols t]
    · exact spots_cols t c
theorem info_spot : (Tryd.prog.info? 42).map (fun i => (i.zero, i.size, i.bytes)) = some (some (.agg #[.int .i32 0, .int .i64 0]), 2, 16) := by kernel_rfl

set_option maxHeartbeats 1000000 in
set_option maxRecDepth 100000 in
theorem spots_any (s : ByteArray) (w : World) (hs : s.size ≤ 8796093022208) :
    Calls Tryd.prog 14 #[.string s] w fun e w' => ∃ v, e = .returned v ∧ w'.ownsRow w.heap.size 42 2 v (spotsL (runes s) 0).length ((spotsL (runes s) 0).flatMap spot2) ∧ Below w.heap.size w w' := by
  obtain ⟨i0, hi, hz0, hz1, hz2⟩ := info_parts info_spot
  go_enter Tryd.func14, Tryd.ntmps14
  go_wp2
  go_loopw [3, 4] (fun v a wr => ∃ (pos f : Nat) (c : Int) (done : List (Int × Int)), wr.heap[w.heap.size]? = some (.stringIter s pos) ∧ Below w.heap.size w wr ∧ a = .int .i64 c ∧ wr.ownsRow (w.heap.size + 1) 42 2 v done.length (done.flatMap spot2) ∧ done ++ spotsL (rs s f pos) c = spotsL (runes s) 0 ∧ s.size ≤ pos + f ∧ 0 ≤ c ∧ c ≤ 2 * pos ∧ pos ≤ s.size ∧ done.length ≤ pos) (fun _ _ wr => s.size - wr.iterPos w.heap.size)
  case atStart =>
    exact ⟨0, s.size, 0, [], World.iter_heap w s 0, (Below.refl _ w).alloc (Nat.le_refl _) _, rfl, World.ownsRow_nil _ _ _ _, by simp [runes], by omega, by omega, by omega, by omega, by simp⟩
  case round =>
    obtain ⟨pos, f, c, done, hit, hbw, rfl, hown, hc, hf, hc0, hc1, hps, hdl⟩ := hrel
    have HC : Hid (done ++ spotsL (rs s f pos) c = spotsL (runes s) 0) := hc
    clear hc
    have hsz : w.heap.size < wr.heap.size := (Array.getElem?_eq_some_iff.1 hit).1
    by_cases hp : pos < s.size
    · have hnx : ∀ ty, (Instr.next (.pointer (some ⟨w.heap.size, 0, none⟩)) true ty).run Tryd.prog wr = _ := fun ty => Lib.run_next_any_at wr w.heap.size s pos ty hit hp
      have hwd := width_pos s pos hp
      have hfit := decode_fits s pos hp
      obtain ⟨f, rfl⟩ : ∃ g, f = g + 1 := ⟨f - 1, by omega⟩
      have HR : Hid (rs s (f + 1) pos = (((Utf8.decode s pos).1 : Int), (Utf8.decode s pos).2) :: rs s f (pos + (Utf8.decode s pos).2)) := rs_step s f pos hp
      have hw := wd_range (Utf8.decode s pos).1
      have hit2 := Lib.iterAt_heap wr w.heap.size s pos (pos + (Utf8.decode s pos).2) hit
      have hbw2 := Lib.below_iterAt hbw (k := w.heap.size) (Nat.le_refl _) s (pos + (Utf8.decode s pos).2)
      have hown2 := own_iter hown (k := w.heap.size) (by omega) s (pos + (Utf8.decode s pos).2)
      have hsz2 : w.heap.size < (wr.iterAt w.heap.size s (pos + (Utf8.decode s pos).2)).heap.size := by rw [Lib.iterAt_size]; exact hsz
      have HI : Hid (wr.iterPos w.heap.size = pos) := by simp only [Hid, World.iterPos, hit]
      clear hit hown
      generalize Utf8.decode s pos = d at *
      by_cases hpos : 0 < wd d.1
      · go_wp2_with (first
          | (go_at_call 15; refine (widthOf_any _ _).mono ?_; rintro e W1 ⟨rfl, b1⟩)
          | (at_builtin; refine wpList_append_own _ rfl _ _ 39 rfl (w.heap.size + 1) 42 i0 (.agg #[.int .i32 0, .int .i64 0]) 2 16 Tryd.underlying39 hi hz0 hz1 hz2 rfl (by decide) _ _ _ rfl ((own_below hown2 b1).alloc _) ⟨W1.heap.size, 0, none⟩ 1 1 [.int .i32 d.1, .int .i64 c] rfl rfl (cell_two_new _ _ _ _) (by intro u hu; simp at hu; rcases hu with rfl | rfl <;> rfl) (by unfold maxLen; omega) (by omega) (by have := b1.size; simp; omega) ?_; intro v' w2 hown' hgrow hnil))
        have hlt := (own_below hown2 b1).lt
        have hs1 := b1.size
        have hit3 : w2.heap[w.heap.size]? = some (.stringIter s (pos + d.2)) := (hgrow.block w.heap.size (by simp; omega) (fun e => by have := (hlt _ e.symm).1; omega)).trans ((Below.heap_alloc _ _ _ (by omega)).trans ((b1.block _ hsz2).trans hit2))
        go_roundw
        case rel =>
          refine ⟨pos + d.2, f, c + wd d.1, done ++ [((d.1 : Int), c)], hit3, ?_, rfl, by simpa [List.flatMap_append, spot2] using hown', ?_, by omega, by omega, by omega, by omega, by simp; omega⟩
          · exact ((hbw2.trans (b1.mono (by omega))).alloc (by omega) _).grown hgrow (by simp; omega) (fun k hk => by have := (hlt k hk).1; omega)
          · rw [← HC.out, HR.out]; simp [spotsL, hpos]
        case measure =>
          rw [HI.out]
          simp only [World.iterPos, hit3]
          omega
      · have hz : wd d.1 = 0 := by omega
        have HZ : Hid (wd d.1 = 0) := hz
        clear hz
        have hpos : ¬ 0 < wd d.1 := hpos
        go_wp2_with (go_at_call 15; refine (widthOf_any _ _).mono ?_; rintro e W1 ⟨rfl, b1⟩)
        go_roundw
        case rel =>
          refine ⟨pos + d.2, f, c, done, (b1.block _ hsz2).trans hit2, hbw2.trans (b1.mono (by omega)), rfl, own_below hown2 b1, ?_, by omega, by omega, by omega, by omega, by omega⟩
          rw [← HC.out, HR.out]; simp [spotsL, HZ.out]
        case measure =>
          rw [HI.out]
          simp only [World.iterPos, (b1.block _ hsz2).trans hit2]
          omega
    · have hnx : ∀ ty, (Instr.next (.pointer (some ⟨w.heap.size, 0, none⟩)) true ty).run Tryd.prog wr = _ := fun ty => Lib.run_next_end_at wr w.heap.size s pos ty hit hp
      go_wp2
      go_ret
      have := HC.out
      rw [rs_end s f pos hp, spotsL, List.append_nil] at this
      subst this
      exact ⟨_, rfl, ⟨hown.1, hown.2.imp id (fun ⟨g, cap, cur, h1, h2, h3⟩ => ⟨g, cap, cur, h1, by omega, h3⟩)⟩, hbw⟩
end Txt
end Go.Proofs.YtlodmffiengnaaaDoor
