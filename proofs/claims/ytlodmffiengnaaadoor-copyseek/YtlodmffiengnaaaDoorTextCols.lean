/- The walk of text.Columns: where the runes of a text stand. -/
import Derived.Test.YtlodmffiengnaaaDoorTextTab
import Derived.WalkSmall
import Derived.Maps.AppendAt
namespace Go.Proofs.YtlodmffiengnaaaDoor
open Go.ChangeShapes Go.WideShapes Go.ChangeAt Go.RowKit Go.Maps
namespace Txt
def colsL : List (Int × Nat) → Int → List Int
  | [], _ => []
  | x :: t, c => if 0 < wd x.1 then c :: colsL t (c + wd x.1) else colsL t c
def colsB (l : List UInt8) : List Int := colsL (rn l) 0
theorem colsL_length : ∀ (l : List (Int × Nat)) (c : Int), (colsL l c).length ≤ l.length
  | [], _ => by simp [colsL]
  | x :: t, c => by
    unfold colsL
    split
    · have := colsL_length t (c + wd x.1); simp; omega
    · have := colsL_length t c; simp; omega
theorem own_below {w w' : World} {base : Nat} {e : TypeId} {size : Nat} {v : Value} {n : Nat} {xs : List Value} (h : w.ownsRow base e size v n xs) (hb : Below w.heap.size w w') : w'.ownsRow base e size v n xs := by
  refine ⟨h.1, ?_⟩
  rcases h.2 with h2 | ⟨g, cap, cur, hv, hg, hh, r⟩
  · exact .inl h2
  · exact .inr ⟨g, cap, cur, hv, hg, by rw [hb.block g (Array.getElem?_eq_some_iff.1 hh).1]; exact hh, r⟩
theorem own_iter {w : World} {base : Nat} {e : TypeId} {size : Nat} {v : Value} {n : Nat} {xs : List Value} (h : w.ownsRow base e size v n xs) {k : Nat} (hk : k < base) (s : ByteArray) (p : Nat) : (w.iterAt k s p).ownsRow base e size v n xs := ownsRow_iterAt h hk s p
theorem info_int : (Tryd.prog.info? 3).map (fun i => (i.zero, i.size, i.bytes)) = some (some (.int .i64 0), 1, 8) := by kernel_rfl

set_option maxHeartbeats 1000000 in
set_option maxRecDepth 100000 in
theorem columns_any (s : ByteArray) (w : World) (hT : Tab w) (hs : s.size ≤ 17592186044416) :
    Calls Tryd.prog 55 #[.string s] w fun e w' => ∃ v, e = .returned v ∧ w'.ownsRow w.heap.size 3 1 v (colsL (runes s) 0).length ((colsL (runes s) 0).map (Value.int .i64)) ∧ Below w.heap.size w w' := by
  have HP : Hid (0 < w.heap.size) := hT.pos
  have HT : Hid (Tab w) := hT
  clear hT
  obtain ⟨i0, hi, hz0, hz1, hz2⟩ := info_parts info_int
  go_enter Tryd.func55, Tryd.ntmps55
  go_wp2
  go_loopw [3, 4] (fun v a wr => ∃ (pos f : Nat) (c : Int) (done : List Int), wr.heap[w.heap.size]? = some (.stringIter s pos) ∧ Below w.heap.size w wr ∧ a = .int .i64 c ∧ wr.ownsRow (w.heap.size + 1) 3 1 v done.length (done.map (Value.int .i64)) ∧ done ++ colsL (rs s f pos) c = colsL (runes s) 0 ∧ s.size ≤ pos + f ∧ 0 ≤ c ∧ c ≤ 2 * pos ∧ pos ≤ s.size ∧ done.length ≤ pos) (fun _ _ wr => s.size - wr.iterPos w.heap.size)
  case atStart =>
    exact ⟨0, s.size, 0, [], World.iter_heap w s 0, (Below.refl _ w).alloc (Nat.le_refl _) _, rfl, World.ownsRow_nil _ _ _ _, by simp [runes], by omega, by omega, by omega, by omega, by simp⟩
  case round =>
    obtain ⟨pos, f, c, done, hit, hbw, rfl, hown, hc, hf, hc0, hc1, hps, hdl⟩ := hrel
    have HC : Hid (done ++ colsL (rs s f pos) c = colsL (runes s) 0) := hc
    clear hc
    have hsz : w.heap.size < wr.heap.size := (Array.getElem?_eq_some_iff.1 hit).1
    by_cases hp : pos < s.size
    · have hnx : ∀ ty, (Instr.next (.pointer (some ⟨w.heap.size, 0, none⟩)) true ty).run Tryd.prog wr = _ := fun ty => Lib.run_next_any_at wr w.heap.size s pos ty hit hp
      have hwd := width_pos s pos hp
      have hfit := decode_fits s pos hp
      obtain ⟨f, rfl⟩ : ∃ g, f = g + 1 := ⟨f - 1, by omega⟩
      have HR : Hid (rs s (f + 1) pos = (((Utf8.decode s pos).1 : Int), (Utf8.decode s pos).2) :: rs s f (pos + (Utf8.decode s pos).2)) := rs_step s f pos hp
      have hw := wd_range (Utf8.decode s pos).1
      have hit2 := Lib.iterAt_heap wr w.heap.size s pos (pos + (Utf8.decode s pos).2) hit
      have hbw2 := Lib.below_iterAt hbw (k := w.heap.size) (Nat.le_refl _) s (pos + (Utf8.decode s pos).2)
      have hown2 := own_iter hown (k := w.heap.size) (by omega) s (pos + (Utf8.decode s pos).2)
      have hsz2 : w.heap.size < (wr.iterAt w.heap.size s (pos + (Utf8.decode s pos).2)).heap.size := by rw [Lib.iterAt_size]; exact hsz
      have HI : Hid (wr.iterPos w.heap.size = pos) := by simp only [Hid, World.iterPos, hit]
      clear hit hown
      generalize Utf8.decode s pos = d at *
      by_cases hpos : 0 < wd d.1
      · go_wp2_with (first
          | (go_at_call 52; refine (width_any _ _ (HT.out.below hbw2 (by have := HP.out; omega))).mono ?_; rintro e W1 ⟨rfl, b1⟩)
          | (at_builtin; refine wpList_append_own _ rfl _ _ 80 rfl (w.heap.size + 1) 3 i0 (.int .i64 0) 1 8 Tryd.underlying80 hi hz0 hz1 hz2 rfl (by decide) _ _ _ rfl ((own_below hown2 b1).alloc _) ⟨W1.heap.size, 0, none⟩ 1 1 [.int .i64 c] rfl rfl (cell_one_new _ _ _) (ints_oneCell .i64 [c]) (by unfold maxLen; omega) (by omega) (by have := b1.size; simp; omega) ?_; intro v' w2 hown' hgrow hnil))
        have hlt := (own_below hown2 b1).lt
        have hs1 := b1.size
        have hit3 : w2.heap[w.heap.size]? = some (.stringIter s (pos + d.2)) := (hgrow.block w.heap.size (by simp; omega) (fun e => by have := (hlt _ e.symm).1; omega)).trans ((Below.heap_alloc _ _ _ (by omega)).trans ((b1.block _ hsz2).trans hit2))
        go_roundw
        case rel =>
          refine ⟨pos + d.2, f, c + wd d.1, done ++ [c], ?_, ?_, rfl, by simpa using hown', ?_, by omega, by omega, by omega, by omega, by simp; omega⟩
          · exact hit3
          · exact ((hbw2.trans (b1.mono (by omega))).alloc (by omega) _).grown hgrow (by simp; omega) (fun k hk => by have := (hlt k hk).1; omega)
          · rw [← HC.out, HR.out]; simp [colsL, hpos]
        case measure =>
          rw [HI.out]
          simp only [World.iterPos, hit3]
          omega
      · have hz : wd d.1 = 0 := by omega
        have HZ : Hid (wd d.1 = 0) := hz
        clear hz
        have hpos : ¬ 0 < wd d.1 := hpos
        go_wp2_with (go_at_call 52; refine (width_any _ _ (HT.out.below hbw2 (by have := HP.out; omega))).mono ?_; rintro e W1 ⟨rfl, b1⟩)
        go_roundw
        case rel =>
          refine ⟨pos + d.2, f, c, done, (b1.block _ hsz2).trans hit2, hbw2.trans (b1.mono (by omega)), rfl, own_below hown2 b1, ?_, by omega, by omega, by omega, by omega, by omega⟩
          rw [← HC.out, HR.out]; simp [colsL, HZ.out]
        case measure =>
          rw [HI.out]
          simp only [World.iterPos, (b1.block _ hsz2).trans hit2]
          omega
    · have hnx : ∀ ty, (Instr.next (.pointer (some ⟨w.heap.size, 0, none⟩)) true ty).run Tryd.prog wr = _ := fun ty => Lib.run_next_end_at wr w.heap.size s pos ty hit hp
      go_wp2
      go_ret
      have := HC.out
      rw [rs_end s f pos hp, colsL, List.append_nil] at this
      subst this
      exact ⟨_, rfl, ⟨hown.1, hown.2.imp id (fun ⟨g, cap, cur, h1, h2, h3⟩ => ⟨g, cap, cur, h1, by omega, h3⟩)⟩, hbw⟩
end Txt
end Go.Proofs.YtlodmffiengnaaaDoor
