/- The walk of text.Columns: where the runes of a text stand. -/
import Derived.Test.YtlodmffiengnaaaDoorPartD
import Derived.WalkSmall
import Derived.Maps.AppendAt
import Derived.Great.Walk
import Derived.Shelf.Strings.BuilderRune
import Derived.Lib.RuneBytes
import Derived.Laws.Cover4
import Derived.Laws.IdiomStrings
import Derived.Laws.CopyOwn
import Derived.Lib.IndexMore
import Derived.Lib.RuneCount
import Derived.Deep.RegionWith
import Derived.Deep.CutRange
import Derived.Deep.DeepCutAuto
import Derived.Deep.MidRow
import Derived.BigQuiet
import Derived.Lib.QuietBelow
import Derived.Lib.LaidU8
import Derived.Deep.Strs
import Derived.Deep.Slices
import Derived.SliceStrings
import Derived.SizedLaws
import Derived.Shelf.Vars
import Derived.Lib.Join
namespace Go.Proofs.YtlodmffiengnaaaDoor
open Go.ChangeShapes Go.WideShapes Go.ChangeAt Go.RowKit Go.Maps
namespace Txt
def colsL : List (Int × Nat) → Int → List Int
  | [], _ => []
  | x :: t, c => if 0 < wd x.1 then c :: colsL t (c + wd x.1) else colsL t c
def colsB (l : List UInt8) : List Int := colsL (rn l) 0
theorem colsL_length : ∀ (l : List (Int × Nat)) (c : Int), (colsL l c).length ≤ l.length
  | [], _ => by simp [colsL]
  | x :: t, c => by
    unfold colsL
    split
    · have := colsL_length t (c + wd x.1); simp; omega
    · have := colsL_length t c; simp; omega
theorem own_below {w w' : World} {base : Nat} {e : TypeId} {size : Nat} {v : Value} {n : Nat} {xs : List Value} (h : w.ownsRow base e size v n xs) (hb : Below w.heap.size w w') : w'.ownsRow base e size v n xs := by
  refine ⟨h.1, ?_⟩
  rcases h.2 with h2 | ⟨g, cap, cur, hv, hg, hh, r⟩
  · exact .inl h2
  · exact .inr ⟨g, cap, cur, hv, hg, by rw [hb.block g (Array.getElem?_eq_some_iff.1 hh).1]; exact hh, r⟩
theorem own_iter {w : World} {base : Nat} {e : TypeId} {size : Nat} {v : Value} {n : Nat} {xs : List Value} (h : w.ownsRow base e size v n xs) {k : Nat} (hk : k < base) (s : ByteArray) (p : Nat) : (w.iterAt k s p).ownsRow base e size v n xs := ownsRow_iterAt h hk s p
theorem info_int : (Tryd.prog.info? 3).map (fun i => (i.zero, i.size, i.bytes)) = some (some (.int .i64 0), 1, 8) := by kernel_rfl

set_option maxHeartbeats 1000000 in
set_option maxRecDepth 100000 in
theorem columns_any (s : ByteArray) (w : World) (hT : Tab w) (hs : s.size ≤ 17592186044416) :
    Calls Tryd.prog 55 #[.string s] w fun e w' => ∃ v, e = .returned v ∧ w'.ownsRow w.heap.size 3 1 v (colsL (runes s) 0).length ((colsL (runes s) 0).map (Value.int .i64)) ∧ Below w.heap.size w w' := by
  have HP : Hid (0 < w.heap.size) := hT.pos
  have HT : Hid (Tab w) := hT
  clear hT
  obtain ⟨i0, hi, hz0, hz1, hz2⟩ := info_parts info_int
  go_enter Tryd.func55, Tryd.ntmps55
  go_wp2
  go_loopw [3, 4] (fun v a wr => ∃ (pos f : Nat) (c : Int) (done : List Int), wr.heap[w.heap.size]? = some (.stringIter s pos) ∧ Below w.heap.size w wr ∧ a = .int .i64 c ∧ wr.ownsRow (w.heap.size + 1) 3 1 v done.length (done.map (Value.int .i64)) ∧ done ++ colsL (rs s f pos) c = colsL (runes s) 0 ∧ s.size ≤ pos + f ∧ 0 ≤ c ∧ c ≤ 2 * pos ∧ pos ≤ s.size ∧ done.length ≤ pos) (fun _ _ wr => s.size - wr.iterPos w.heap.size)
  case atStart =>
    exact ⟨0, s.size, 0, [], World.iter_heap w s 0, (Below.refl _ w).alloc (Nat.le_refl _) _, rfl, World.ownsRow_nil _ _ _ _, by simp [runes], by omega, by omega, by omega, by omega, by simp⟩
  case round =>
    obtain ⟨pos, f, c, done, hit, hbw, rfl, hown, hc, hf, hc0, hc1, hps, hdl⟩ := hrel
    have HC : Hid (done ++ colsL (rs s f pos) c = colsL (runes s) 0) := hc
    clear hc
    have hsz : w.heap.size < wr.heap.size := (Array.getElem?_eq_some_iff.1 hit).1
    by_cases hp : pos < s.size
    · have hnx : ∀ ty, (Instr.next (.pointer (some ⟨w.heap.size, 0, none⟩)) true ty).run Tryd.prog wr = _ := fun ty => Lib.run_next_any_at wr w.heap.size s pos ty hit hp
      have hwd := width_pos s pos hp
      have hfit := decode_fits s pos hp
      obtain ⟨f, rfl⟩ : ∃ g, f = g + 1 := ⟨f - 1, by omega⟩
      have HR : Hid (rs s (f + 1) pos = (((Utf8.decode s pos).1 : Int), (Utf8.decode s pos).2) :: rs s f (pos + (Utf8.decode s pos).2)) := rs_step s f pos hp
      have hw := wd_range (Utf8.decode s pos).1
      have hit2 := Lib.iterAt_heap wr w.heap.size s pos (pos + (Utf8.decode s pos).2) hit
      have hbw2 := Lib.below_iterAt hbw (k := w.heap.size) (Nat.le_refl _) s (pos + (Utf8.decode s pos).2)
      have hown2 := own_iter hown (k := w.heap.size) (by omega) s (pos + (Utf8.decode s pos).2)
      have hsz2 : w.heap.size < (wr.iterAt w.heap.size s (pos + (Utf8.decode s pos).2)).heap.size := by rw [Lib.iterAt_size]; exact hsz
      have HI : Hid (wr.iterPos w.heap.size = pos) := by simp only [Hid, World.iterPos, hit]
      clear hit hown
      generalize Utf8.decode s pos = d at *
      by_cases hpos : 0 < wd d.1
      · go_wp2_with (first
          | (go_at_call 52; refine (width_any _ _ (HT.out.below hbw2 (by have := HP.out; omega))).mono ?_; rintro e W1 ⟨rfl, b1⟩)
          | (at_builtin; refine wpList_append_own _ rfl _ _ 80 rfl (w.heap.size + 1) 3 i0 (.int .i64 0) 1 8 Tryd.underlying80 hi hz0 hz1 hz2 rfl (by decide) _ _ _ rfl ((own_below hown2 b1).alloc _) ⟨W1.heap.size, 0, none⟩ 1 1 [.int .i64 c] rfl rfl (cell_one_new _ _ _) (ints_oneCell .i64 [c]) (by unfold maxLen; omega) (by omega) (by have := b1.size; simp; omega) ?_; intro v' w2 hown' hgrow hnil))
        have hlt := (own_below hown2 b1).lt
        have hs1 := b1.size
        have hit3 : w2.heap[w.heap.size]? = some (.stringIter s (pos + d.2)) := (hgrow.block w.heap.size (by simp; omega) (fun e => by have := (hlt _ e.symm).1; omega)).trans ((Below.heap_alloc _ _ _ (by omega)).trans ((b1.block _ hsz2).trans hit2))
        go_roundw
        case rel =>
          refine ⟨pos + d.2, f, c + wd d.1, done ++ [c], ?_, ?_, rfl, by simpa using hown', ?_, by omega, by omega, by omega, by omega, by simp; omega⟩
          · exact hit3
          · exact ((hbw2.trans (b1.mono (by omega))).alloc (by omega) _).grown hgrow (by simp; omega) (fun k hk => by have := (hlt k hk).1; omega)
          · rw [← HC.out, HR.out]; simp [colsL, hpos]
        case measure =>
          rw [HI.out]
          simp only [World.iterPos, hit3]
          omega
      · have hz : wd d.1 = 0 := by omega
        have HZ : Hid (wd d.1 = 0) := hz
        clear hz
        have hpos : ¬ 0 < wd d.1 := hpos
        go_wp2_with (go_at_call 52; refine (width_any _ _ (HT.out.below hbw2 (by have := HP.out; omega))).mono ?_; rintro e W1 ⟨rfl, b1⟩)
        go_roundw
        case rel =>
          refine ⟨pos + d.2, f, c, done, (b1.block _ hsz2).trans hit2, hbw2.trans (b1.mono (by omega)), rfl, own_below hown2 b1, ?_, by omega, by omega, by omega, by omega, by omega⟩
          rw [← HC.out, HR.out]; simp [colsL, HZ.out]
        case measure =>
          rw [HI.out]
          simp only [World.iterPos, (b1.block _ hsz2).trans hit2]
          omega
    · have hnx : ∀ ty, (Instr.next (.pointer (some ⟨w.heap.size, 0, none⟩)) true ty).run Tryd.prog wr = _ := fun ty => Lib.run_next_end_at wr w.heap.size s pos ty hit hp
      go_wp2
      go_ret
      have := HC.out
      rw [rs_end s f pos hp, colsL, List.append_nil] at this
      subst this
      exact ⟨_, rfl, ⟨hown.1, hown.2.imp id (fun ⟨g, cap, cur, h1, h2, h3⟩ => ⟨g, cap, cur, h1, by omega, h3⟩)⟩, hbw⟩
end Txt
end Go.Proofs.YtlodmffiengnaaaDoor

/- The walk of the reference's WidthOf: it tells Txt.wd, for every int32. -/
namespace Go.Proofs.YtlodmffiengnaaaDoor
open Go.ChangeShapes Go.WideShapes Go.ChangeAt Go.RowKit
namespace Txt

def cell2 (x : Int × Int) : List Value := [.int .i32 x.1, .int .i64 x.2]
def edgeCells : Array Value := (edges.flatMap cell2).toArray
theorem flat2 : ∀ (l : List (Int × Int)) (k : Nat) (x : Int × Int), l[k]? = some x → (l.flatMap cell2)[k * 2]? = some (.int .i32 x.1) ∧ (l.flatMap cell2)[k * 2 + 1]? = some (.int .i64 x.2)
  | [], k, x, h => by simp at h
  | y :: t, 0, x, h => by
    obtain rfl := Option.some.inj h
    exact ⟨rfl, rfl⟩
  | y :: t, k + 1, x, h => by
    have := flat2 t k x (by simpa using h)
    rw [show (k + 1) * 2 = k * 2 + 1 + 1 from by omega]
    simpa [List.flatMap_cons, cell2] using this
theorem edges_at (k : Nat) (hk : k < 41) : ∃ a c : Int, edges.drop k = (a, c) :: edges.drop (k + 1) ∧ edgeCells[k * 2]? = some (.int .i32 a) ∧ edgeCells[k * 2 + 1]? = some (.int .i64 c) := by
  match h : edges.drop k with
  | [] => have := congrArg List.length h; simp [edges] at this; omega
  | (a, c) :: t =>
    have hx : edges[k]? = some (a, c) := by
      have := congrArg (fun l => l[0]?) h
      simpa using this
    have hf := flat2 edges k (a, c) hx
    refine ⟨a, c, ?_, by simpa [edgeCells] using hf.1, by simpa [edgeCells] using hf.2⟩
    rw [← List.drop_drop, h]; rfl

set_option maxHeartbeats 4000000 in
theorem widthOf_any (r : Int) (w : World) :
    Calls Tryd.prog 15 #[.int .i32 r] w fun e w' => e = .returned (.int .i64 (wd r)) ∧ Below w.heap.size w w' := by
  by_cases h0 : r < 0
  · have hw : wd r = 0 := by unfold wd; rw [if_pos (Or.inl h0)]
    rw [hw]
    clear hw
    go_enter Tryd.func15, Tryd.ntmps15
    go_wp2
    go_ret
    exact ⟨rfl, Below.refl _ _⟩
  · by_cases h1 : 1114111 < r
    · have hw : wd r = 0 := by unfold wd; rw [if_pos (Or.inr h1)]
      rw [hw]
      clear hw
      go_enter Tryd.func15, Tryd.ntmps15
      go_wp2
      go_ret
      exact ⟨rfl, Below.refl _ _⟩
    · rw [wd_edge r (by omega) (by omega)]
      go_enter Tryd.func15, Tryd.ntmps15
      go_wp2_with (refine Great.wpList_buildSliceTo rfl 68 67 41 _ rfl _ rfl (some 53) rfl Tryd.underlying68 edgeCells (by kernel_rfl) ?_)
      have hb0 : Below (w.heap.size + 1) (w.alloc (.cells edgeCells 67)) (w.alloc (.cells edgeCells 67)) := Below.refl _ _
      have HB : Hid (Below w.heap.size w (w.alloc (.cells edgeCells 67))) := (Below.refl _ _).alloc (Nat.le_refl _) _
      have HE : Hid ((w.alloc (.cells edgeCells 67)).heap[w.heap.size]? = some (.cells edgeCells 67)) := heap_alloc_new _ _
      have hS : w.heap.size + 1 ≤ (w.alloc (.cells edgeCells 67)).heap.size := by simp
      generalize w.alloc (.cells edgeCells 67) = W at *
      generalize hB : w.heap.size = B at *
      have HQ : Hid (w.heap.size = B) := hB
      clear hB
      go_loopg [3, 55] 41 (fun g acc s wr => ∃ (k : Nat) (c : Int), k ≤ 41 ∧ 41 - k ≤ g ∧ s = .int .i64 k ∧ acc = .int .i64 c ∧ Below (B + 1) W wr ∧ edge r (edges.drop k) c = edge r edges 0)
      case atStart => exact ⟨0, 0, Nat.zero_le _, by omega, rfl, rfl, hb0, rfl⟩
      case round =>
        obtain ⟨k, c, hk, hg, rfl, rfl, hb, hl⟩ := hrel
        have HL : Hid (edge r (edges.drop k) c = edge r edges 0) := hl
        clear hl
        by_cases hlt : k < 41
        · obtain ⟨a, c2, hd, hc1, hc2⟩ := edges_at k hlt
          have g1 : wr.cell? ⟨B, k * 2, none⟩ = some (.int .i32 a) := by rw [hb.cell (by show B < B + 1; omega), cell_of_row _ _ _ _ _ _ HE.out]; exact hc1
          have g2 : wr.cell? ⟨B, k * 2 + 1, none⟩ = some (.int .i64 c2) := by rw [hb.cell (by show B < B + 1; omega), cell_of_row _ _ _ _ _ _ HE.out]; exact hc2
          clear hc1 hc2
          have HD : Hid (edges.drop k = (a, c2) :: edges.drop (k + 1)) := hd
          clear hd
          have hsz := hb.size
          go_wp2_with fail
          · rename_i hra
            go_roundg (41 - (k + 1))
            case measure => omega
            case rel => exact ⟨k + 1, c2, by omega, by omega, by go_num, rfl, hb.alloc (by omega) _, by rw [← HL.out, HD.out]; simp only [edge]; rw [if_pos hra]⟩
          · rename_i hra
            go_roundg (41 - (k + 1))
            case measure => omega
            case rel => exact ⟨k + 1, c, by omega, by omega, by go_num, rfl, hb.alloc (by omega) _, by rw [← HL.out, HD.out]; simp only [edge]; rw [if_neg (by omega)]⟩
        · have : k = 41 := by omega
          subst this
          go_wp2_with fail
          go_ret
          exact ⟨ret_int (by rw [← HL.out]; rfl), by rw [HQ.out]; exact HB.out.trans (hb.mono (by omega))⟩
end Txt
end Go.Proofs.YtlodmffiengnaaaDoor

/- The walk of the reference's Spots: each rune that takes a cell, with its column. -/
namespace Go.Proofs.YtlodmffiengnaaaDoor
open Go.ChangeShapes Go.WideShapes Go.ChangeAt Go.RowKit Go.Maps
namespace Txt
def spotsL : List (Int × Nat) → Int → List (Int × Int)
  | [], _ => []
  | x :: t, c => if 0 < wd x.1 then (x.1, c) :: spotsL t (c + wd x.1) else spotsL t c
def spot2 (x : Int × Int) : List Value := [.int .i32 x.1, .int .i64 x.2]
theorem spots_cols : ∀ (l : List (Int × Nat)) (c : Int), (spotsL l c).map (·.2) = colsL l c
  | [], _ => rfl
  | x :: t, c => by
    unfold spotsL colsL
    split
    · simp [spots_cols t]
    · exact spots_cols t c
theorem info_spot : (Tryd.prog.info? 42).map (fun i => (i.zero, i.size, i.bytes)) = some (some (.agg #[.int .i32 0, .int .i64 0]), 2, 16) := by kernel_rfl

set_option maxHeartbeats 1000000 in
set_option maxRecDepth 100000 in
theorem spots_any (s : ByteArray) (w : World) (hs : s.size ≤ 8796093022208) :
    Calls Tryd.prog 14 #[.string s] w fun e w' => ∃ v, e = .returned v ∧ w'.ownsRow w.heap.size 42 2 v (spotsL (runes s) 0).length ((spotsL (runes s) 0).flatMap spot2) ∧ Below w.heap.size w w' := by
  obtain ⟨i0, hi, hz0, hz1, hz2⟩ := info_parts info_spot
  go_enter Tryd.func14, Tryd.ntmps14
  go_wp2
  go_loopw [3, 4] (fun v a wr => ∃ (pos f : Nat) (c : Int) (done : List (Int × Int)), wr.heap[w.heap.size]? = some (.stringIter s pos) ∧ Below w.heap.size w wr ∧ a = .int .i64 c ∧ wr.ownsRow (w.heap.size + 1) 42 2 v done.length (done.flatMap spot2) ∧ done ++ spotsL (rs s f pos) c = spotsL (runes s) 0 ∧ s.size ≤ pos + f ∧ 0 ≤ c ∧ c ≤ 2 * pos ∧ pos ≤ s.size ∧ done.length ≤ pos) (fun _ _ wr => s.size - wr.iterPos w.heap.size)
  case atStart =>
    exact ⟨0, s.size, 0, [], World.iter_heap w s 0, (Below.refl _ w).alloc (Nat.le_refl _) _, rfl, World.ownsRow_nil _ _ _ _, by simp [runes], by omega, by omega, by omega, by omega, by simp⟩
  case round =>
    obtain ⟨pos, f, c, done, hit, hbw, rfl, hown, hc, hf, hc0, hc1, hps, hdl⟩ := hrel
    have HC : Hid (done ++ spotsL (rs s f pos) c = spotsL (runes s) 0) := hc
    clear hc
    have hsz : w.heap.size < wr.heap.size := (Array.getElem?_eq_some_iff.1 hit).1
    by_cases hp : pos < s.size
    · have hnx : ∀ ty, (Instr.next (.pointer (some ⟨w.heap.size, 0, none⟩)) true ty).run Tryd.prog wr = _ := fun ty => Lib.run_next_any_at wr w.heap.size s pos ty hit hp
      have hwd := width_pos s pos hp
      have hfit := decode_fits s pos hp
      obtain ⟨f, rfl⟩ : ∃ g, f = g + 1 := ⟨f - 1, by omega⟩
      have HR : Hid (rs s (f + 1) pos = (((Utf8.decode s pos).1 : Int), (Utf8.decode s pos).2) :: rs s f (pos + (Utf8.decode s pos).2)) := rs_step s f pos hp
      have hw := wd_range (Utf8.decode s pos).1
      have hit2 := Lib.iterAt_heap wr w.heap.size s pos (pos + (Utf8.decode s pos).2) hit
      have hbw2 := Lib.below_iterAt hbw (k := w.heap.size) (Nat.le_refl _) s (pos + (Utf8.decode s pos).2)
      have hown2 := own_iter hown (k := w.heap.size) (by omega) s (pos + (Utf8.decode s pos).2)
      have hsz2 : w.heap.size < (wr.iterAt w.heap.size s (pos + (Utf8.decode s pos).2)).heap.size := by rw [Lib.iterAt_size]; exact hsz
      have HI : Hid (wr.iterPos w.heap.size = pos) := by simp only [Hid, World.iterPos, hit]
      clear hit hown
      generalize Utf8.decode s pos = d at *
      by_cases hpos : 0 < wd d.1
      · go_wp2_with (first
          | (go_at_call 15; refine (widthOf_any _ _).mono ?_; rintro e W1 ⟨rfl, b1⟩)
          | (at_builtin; refine wpList_append_own _ rfl _ _ 39 rfl (w.heap.size + 1) 42 i0 (.agg #[.int .i32 0, .int .i64 0]) 2 16 Tryd.underlying39 hi hz0 hz1 hz2 rfl (by decide) _ _ _ rfl ((own_below hown2 b1).alloc _) ⟨W1.heap.size, 0, none⟩ 1 1 [.int .i32 d.1, .int .i64 c] rfl rfl (cell_two_new _ _ _ _) (by intro u hu; simp at hu; rcases hu with rfl | rfl <;> rfl) (by unfold maxLen; omega) (by omega) (by have := b1.size; simp; omega) ?_; intro v' w2 hown' hgrow hnil))
        have hlt := (own_below hown2 b1).lt
        have hs1 := b1.size
        have hit3 : w2.heap[w.heap.size]? = some (.stringIter s (pos + d.2)) := (hgrow.block w.heap.size (by simp; omega) (fun e => by have := (hlt _ e.symm).1; omega)).trans ((Below.heap_alloc _ _ _ (by omega)).trans ((b1.block _ hsz2).trans hit2))
        go_roundw
        case rel =>
          refine ⟨pos + d.2, f, c + wd d.1, done ++ [((d.1 : Int), c)], hit3, ?_, rfl, by simpa [List.flatMap_append, spot2] using hown', ?_, by omega, by omega, by omega, by omega, by simp; omega⟩
          · exact ((hbw2.trans (b1.mono (by omega))).alloc (by omega) _).grown hgrow (by simp; omega) (fun k hk => by have := (hlt k hk).1; omega)
          · rw [← HC.out, HR.out]; simp [spotsL, hpos]
        case measure =>
          rw [HI.out]
          simp only [World.iterPos, hit3]
          omega
      · have hz : wd d.1 = 0 := by omega
        have HZ : Hid (wd d.1 = 0) := hz
        clear hz
        have hpos : ¬ 0 < wd d.1 := hpos
        go_wp2_with (go_at_call 15; refine (widthOf_any _ _).mono ?_; rintro e W1 ⟨rfl, b1⟩)
        go_roundw
        case rel =>
          refine ⟨pos + d.2, f, c, done, (b1.block _ hsz2).trans hit2, hbw2.trans (b1.mono (by omega)), rfl, own_below hown2 b1, ?_, by omega, by omega, by omega, by omega, by omega⟩
          rw [← HC.out, HR.out]; simp [spotsL, HZ.out]
        case measure =>
          rw [HI.out]
          simp only [World.iterPos, (b1.block _ hsz2).trans hit2]
          omega
    · have hnx : ∀ ty, (Instr.next (.pointer (some ⟨w.heap.size, 0, none⟩)) true ty).run Tryd.prog wr = _ := fun ty => Lib.run_next_end_at wr w.heap.size s pos ty hit hp
      go_wp2
      go_ret
      have := HC.out
      rw [rs_end s f pos hp, spotsL, List.append_nil] at this
      subst this
      exact ⟨_, rfl, ⟨hown.1, hown.2.imp id (fun ⟨g, cap, cur, h1, h2, h3⟩ => ⟨g, cap, cur, h1, by omega, h3⟩)⟩, hbw⟩
end Txt
end Go.Proofs.YtlodmffiengnaaaDoor

/- The shelf's contract for (*strings.Builder).WriteRune, laid at this program by hand. -/
namespace Go.Proofs
open Go.Shelf
def Tryd.lays168_ren : Go.Shelf.Ren := ⟨fun | 168 => 53 | 240 => 50 | 242 => 59 | 276 => 57 | 278 => 64 | n => n, fun | 0 => 0 | 3 => 3 | 4 => 4 | 5 => 5 | 9 => 9 | 20 => 20 | 21 => 21 | 37 => 70 | 46 => 95 | 51 => 105 | 70 => 69 | 72 => 72 | 75 => 75 | 80 => 78 | 164 => 96 | n => n, fun | n => n⟩
theorem Tryd.lays168 : Go.Proofs.Lays.n168 Tryd.prog Tryd.lays168_ren := {
  mixed := by kernel_rfl
  f168 := Tryd.func53.trans (congrArg some (by kernel_rfl))
  f240 := Tryd.func50.trans (congrArg some (by kernel_rfl))
  f242 := Tryd.func59.trans (congrArg some (by kernel_rfl))
  f276 := Tryd.func57.trans (congrArg some (by kernel_rfl))
  f278 := Tryd.func64.trans (congrArg some (by kernel_rfl))
  t0 := Tryd.underlying0
  a0 := Tryd.isAgg0
  z0 := Tryd.sizeOf0
  v0 := Tryd.zeroValue0
  t3 := Tryd.underlying3
  a3 := Tryd.isAgg3
  z3 := Tryd.sizeOf3
  v3 := Tryd.zeroValue3
  t4 := Tryd.underlying4
  a4 := Tryd.isAgg4
  z4 := Tryd.sizeOf4
  v4 := Tryd.zeroValue4
  t5 := Tryd.underlying5
  a5 := Tryd.isAgg5
  z5 := Tryd.sizeOf5
  v5 := Tryd.zeroValue5
  t9 := Tryd.underlying9
  a9 := Tryd.isAgg9
  z9 := Tryd.sizeOf9
  v9 := Tryd.zeroValue9
  t20 := Tryd.underlying20
  a20 := Tryd.isAgg20
  z20 := Tryd.sizeOf20
  v20 := Tryd.zeroValue20
  t21 := Tryd.underlying21
  a21 := Tryd.isAgg21
  z21 := Tryd.sizeOf21
  v21 := Tryd.zeroValue21
  t37 := Tryd.underlying70
  a37 := Tryd.isAgg70
  z37 := Tryd.sizeOf70
  v37 := Tryd.zeroValue70
  t46 := Tryd.underlying95
  a46 := Tryd.isAgg95
  z46 := Tryd.sizeOf95
  v46 := Tryd.zeroValue95
  t51 := Tryd.underlying105
  a51 := Tryd.isAgg105
  z51 := Tryd.sizeOf105
  v51 := Tryd.zeroValue105
  t70 := Tryd.underlying69
  a70 := Tryd.isAgg69
  z70 := Tryd.sizeOf69
  v70 := Tryd.zeroValue69
  t72 := Tryd.underlying72
  a72 := Tryd.isAgg72
  z72 := Tryd.sizeOf72
  v72 := Tryd.zeroValue72
  t75 := Tryd.underlying75
  a75 := Tryd.isAgg75
  z75 := Tryd.sizeOf75
  v75 := Tryd.zeroValue75
  t164 := Tryd.underlying96
  a164 := Tryd.isAgg96
  z164 := Tryd.sizeOf96
  v164 := Tryd.zeroValue96
}
theorem Tryd.Builder_Extra_168 : Builder.Extra Tryd.prog Tryd.lays168_ren := {
  sizeBuilder := by kernel_rfl
  liesBuilder := by kernel_rfl
  t5 := Tryd.underlying5
  a5 := Tryd.isAgg5
  z5 := Tryd.sizeOf5
  v5 := Tryd.zeroValue5
  infoByte := by kernel_rfl
  cellsByte := by kernel_rfl
  sizeByte := by kernel_rfl
  neB5 := by decide }
open Go.RowKit in
theorem Tryd.Builder_WriteRune_k (B b : Nat) (bs : List Value) (r : Int) (hr0 : -2147483648 ≤ r) (hr1 : r ≤ 2147483647) (w : World) (h : Lib.IsBuilderF 72 5 B b bs w) (hlen : bs.length + 4 ≤ 140737488355328) (hBw : B ≤ w.heap.size) :
    Calls Tryd.prog 53 #[.pointer (some ⟨b, 0, none⟩), .int .i32 r] w fun e w' => e = .returned (.tuple #[.int .i64 (Lib.runeCells r).length, .nilIface]) ∧ (Lib.BuilderAtF 72 5 B b (.pointer (some ⟨b, 0, none⟩)) (bs ++ Lib.runeCells r) w' ∧ Below B w w' ∧ Lib.OthersKept 5 (some b) w w') := Any.Builder_WriteRune_k Tryd.lays168 Tryd.Builder_Extra_168 B b bs r hr0 hr1 w h hlen hBw
end Go.Proofs

/- The walk of text.Clean. -/
namespace Go.Proofs.YtlodmffiengnaaaDoor
open Go.ChangeShapes Go.WideShapes Go.ChangeAt Go.RowKit Go.Maps
namespace Txt
def cleanL : List (Int × Nat) → List UInt8
  | [] => []
  | x :: t => (if 0 < wd x.1 then Lib.encodeRune x.1 else []) ++ cleanL t
def cleanB (l : List UInt8) : List UInt8 := cleanL (rn l)
theorem encodeRune_length (r : Int) : 1 ≤ (Lib.encodeRune r).length ∧ (Lib.encodeRune r).length ≤ 4 := by
  rw [← Lib.runeCells_length]; exact Lib.runeCells_le r
theorem encode_eq (r : Int) : Utf8.encode r = bs (Lib.encodeRune r) := by
  by_cases h1 : 0 ≤ r ∧ r ≤ 127
  · have hv : Utf8.valid r = true := by simp [Utf8.valid]; omega
    simp only [Utf8.encode, hv, if_true]
    rw [if_pos (by omega)]
    unfold Lib.encodeRune
    rw [Lib.encodeRuneZ_one h1.1 h1.2]
    rfl
  · by_cases h2 : 128 ≤ r ∧ r ≤ 2047
    · have hv : Utf8.valid r = true := by simp [Utf8.valid]; omega
      simp only [Utf8.encode, hv, if_true]
      rw [if_neg (by omega), if_pos (by omega)]
      unfold Lib.encodeRune
      rw [Lib.encodeRuneZ_two h2.1 h2.2, show 0xC0 + r.toNat / 64 = (192 + r / 64).toNat by omega, show 0x80 + r.toNat % 64 = (128 + r % 64).toNat by omega]
      rfl
    · by_cases h3 : (2048 ≤ r ∧ r < 55296) ∨ (57343 < r ∧ r ≤ 65535)
      · have hv : Utf8.valid r = true := by simp [Utf8.valid]; omega
        simp only [Utf8.encode, hv, if_true]
        rw [if_neg (by omega), if_neg (by omega), if_pos (by omega)]
        unfold Lib.encodeRune
        rw [Lib.encodeRuneZ_three h3, show 0xE0 + r.toNat / 4096 = (224 + r / 4096).toNat by omega, show 0x80 + r.toNat / 64 % 64 = (128 + r / 64 % 64).toNat by omega, show 0x80 + r.toNat % 64 = (128 + r % 64).toNat by omega]
        rfl
      · by_cases h4 : 65536 ≤ r ∧ r ≤ 1114111
        · have hv : Utf8.valid r = true := by simp [Utf8.valid]; omega
          simp only [Utf8.encode, hv, if_true]
          rw [if_neg (by omega), if_neg (by omega), if_neg (by omega)]
          unfold Lib.encodeRune
          rw [Lib.encodeRuneZ_four h4.1 h4.2, show 0xF0 + r.toNat / 262144 = (240 + r / 262144).toNat by omega, show 0x80 + r.toNat / 4096 % 64 = (128 + r / 4096 % 64).toNat by omega, show 0x80 + r.toNat / 64 % 64 = (128 + r / 64 % 64).toNat by omega, show 0x80 + r.toNat % 64 = (128 + r % 64).toNat by omega]
          rfl
        · have hv : Utf8.valid r = false := by simp [Utf8.valid]; omega
          unfold Lib.encodeRune
          rw [Lib.encodeRuneZ_bad (by omega)]
          simp only [Utf8.encode, hv, Utf8.runeError, Bool.false_eq_true, if_false]
          decide
theorem builder_below {T e : TypeId} {B b : Nat} {bs : List Value} {w w' : World} (h : Lib.IsBuilderF T e B b bs w) (hb : Below w.heap.size w w') : Lib.IsBuilderF T e B b bs w' := by
  have key : ∀ p, Lib.BuilderAtF T e B b p bs w → Lib.BuilderAtF T e B b p bs w' := by
    rintro p ⟨hB, v, hh, hown, hne⟩
    refine ⟨hB, v, by rw [hb.block b (Array.getElem?_eq_some_iff.1 hh).1]; exact hh, ⟨hown.1, ?_⟩, hne⟩
    rcases hown.2 with hn | ⟨g, cap, cur, fz, hv, hbg, hg, rest⟩
    · exact .inl hn
    · exact .inr ⟨g, cap, cur, fz, hv, hbg, by rw [hb.block g (Array.getElem?_eq_some_iff.1 hg).1]; exact hg, rest⟩
  exact h.elim (fun x => .inl (key _ x)) (fun x => .inr (key _ x))
set_option maxHeartbeats 4000000 in
set_option maxRecDepth 1000000 in
theorem clean_any (s : ByteArray) (w : World) (hT : Tab w) (hs : s.size ≤ 17592186044416) :
    Calls Tryd.prog 40 #[.string s] w fun e w' => e = .returned (.string (bs (cleanL (runes s)))) ∧ Below w.heap.size w w' := by
  have HP : Hid (0 < w.heap.size) := hT.pos
  have HT : Hid (Tab w) := hT
  clear hT
  go_enter Tryd.func40, Tryd.ntmps40
  go_wp2
  go_loopw [] (fun wr => ∃ (pos f : Nat) (acc : List UInt8), Lib.IsBuilderF 72 5 w.heap.size w.heap.size (Lib.byteCells acc) wr ∧ wr.heap[w.heap.size + 1]? = some (.stringIter s pos) ∧ Below w.heap.size w wr ∧ acc ++ cleanL (rs s f pos) = cleanL (runes s) ∧ s.size ≤ pos + f ∧ acc.length ≤ 4 * pos ∧ pos ≤ s.size) (fun wr => s.size - wr.iterPos (w.heap.size + 1))
  case atStart =>
    refine ⟨0, s.size, [], (Lib.IsBuilderF.of (Lib.fresh_isBuilder 72 5 w)).alloc _, ?_, ((Below.refl _ w).alloc (Nat.le_refl _) _).alloc (by simp) _, by simp [runes], by omega, by simp, by omega⟩
    have := World.iter_heap (w.alloc (.cells #[.pointer none, .slice none 0 0] 72)) s 0
    simpa using this
  case round =>
    obtain ⟨pos, f, acc, hI, hit, hbw, hacc, hf, hal, hps⟩ := hrel
    have HC : Hid (acc ++ cleanL (rs s f pos) = cleanL (runes s)) := hacc
    clear hacc
    have hsz : w.heap.size + 1 < wr.heap.size := (Array.getElem?_eq_some_iff.1 hit).1
    by_cases hp : pos < s.size
    · have hnx : ∀ ty, (Instr.next (.pointer (some ⟨w.heap.size + 1, 0, none⟩)) true ty).run Tryd.prog wr = _ := fun ty => Lib.run_next_any_at wr (w.heap.size + 1) s pos ty hit hp
      have hwd := width_pos s pos hp
      have hfit := decode_fits s pos hp
      have hd1 := decode_le s pos
      obtain ⟨f, rfl⟩ : ∃ g, f = g + 1 := ⟨f - 1, by omega⟩
      have HR : Hid (rs s (f + 1) pos = (((Utf8.decode s pos).1 : Int), (Utf8.decode s pos).2) :: rs s f (pos + (Utf8.decode s pos).2)) := rs_step s f pos hp
      have hw := wd_range (Utf8.decode s pos).1
      have hI2 := hI.iterAt hit (pos + (Utf8.decode s pos).2)
      have hit2 := Lib.iterAt_heap wr (w.heap.size + 1) s pos (pos + (Utf8.decode s pos).2) hit
      have hbw2 := Lib.below_iterAt hbw (k := w.heap.size + 1) (by omega) s (pos + (Utf8.decode s pos).2)
      have hsz2 : w.heap.size + 1 < (wr.iterAt (w.heap.size + 1) s (pos + (Utf8.decode s pos).2)).heap.size := by rw [Lib.iterAt_size]; exact hsz
      have HI : Hid (wr.iterPos (w.heap.size + 1) = pos) := by simp only [Hid, World.iterPos, hit]
      clear hit hI
      generalize Utf8.decode s pos = d at *
      by_cases hpos : 0 < wd d.1
      · go_wp2_with (first
          | (go_at_call 52; refine (width_any _ _ (HT.out.below hbw2 (by have := HP.out; omega))).mono ?_; rintro e W1 ⟨rfl, b1⟩)
          | (go_at_call 53; refine (Tryd.Builder_WriteRune_k w.heap.size w.heap.size _ _ (by omega) (by omega) _ (builder_below hI2 b1) (by rw [Lib.byteCells_length]; omega) (by have := b1.size; omega)).mono ?_; rintro e W2 ⟨rfl, h2, b2, k2⟩))
        have hit3 := k2.iter ((b1.block _ hsz2).trans hit2) (by omega)
        have hl4 := encodeRune_length d.1
        go_roundw
        case rel =>
          refine ⟨pos + d.2, f, acc ++ Lib.encodeRune d.1, ?_, hit3, (hbw2.trans (b1.mono (by omega))).trans b2, ?_, by omega, by simp; omega, by omega⟩
          · rw [Lib.byteCells_append, Lib.byteCells_encodeRune]; exact Or.inr h2
          · rw [← HC.out, HR.out]; simp [cleanL, hpos]
        case measure =>
          rw [HI.out]
          simp only [World.iterPos, hit3]
          omega
      · have hz : ¬ 0 < wd d.1 := hpos
        go_wp2_with (go_at_call 52; refine (width_any _ _ (HT.out.below hbw2 (by have := HP.out; omega))).mono ?_; rintro e W1 ⟨rfl, b1⟩)
        go_roundw
        case rel =>
          refine ⟨pos + d.2, f, acc, builder_below hI2 b1, (b1.block _ hsz2).trans hit2, hbw2.trans (b1.mono (by omega)), ?_, by omega, by omega, by omega⟩
          rw [← HC.out, HR.out]; simp only [cleanL]; rw [if_neg (by omega)]; rfl
        case measure =>
          rw [HI.out]
          simp only [World.iterPos, (b1.block _ hsz2).trans hit2]
          omega
    · have hnx : ∀ ty, (Instr.next (.pointer (some ⟨w.heap.size + 1, 0, none⟩)) true ty).run Tryd.prog wr = _ := fun ty => Lib.run_next_end_at wr (w.heap.size + 1) s pos ty hit hp
      go_wp2_with (go_at_call 38; refine (Tryd.Builder_String_any_k w.heap.size w.heap.size acc _ hI (by omega)).mono ?_; rintro e W1 ⟨rfl, _, b1, _⟩)
      go_ret
      have := HC.out
      rw [rs_end s f pos hp, cleanL, List.append_nil] at this
      subst this
      exact ⟨rfl, hbw.trans b1⟩

end Txt
end Go.Proofs.YtlodmffiengnaaaDoor

/- Plain mathematics: what is clean stays so. Encoding a rune and decoding it again gives the rune. No program is named. -/
namespace Go.Proofs.YtlodmffiengnaaaDoor
namespace Txt
/-- A rune that can be encoded. -/
def okRune (r : Int) : Prop := (0 ≤ r ∧ r < 55296) ∨ (57343 < r ∧ r ≤ 1114111)
theorem decN_ok (n b0 b1 b2 b3 : Nat) : okRune (Lib.decodeN n b0 b1 b2 b3).1 := by
  unfold okRune Lib.decodeN
  repeat' split
  all_goals simp
  all_goals omega
theorem dec_ok (l : List UInt8) : okRune (dec l).1 := decN_ok _ _ _ _ _
theorem decN_two (n c b2 b3 : Nat) (hn : 2 ≤ n) (h0 : 128 ≤ c) (h1 : c ≤ 2047) : Lib.decodeN n (192 + c / 64) (128 + c % 64) b2 b3 = (c, 2) := by
  unfold Lib.decodeN
  rw [if_neg (by omega), if_pos ⟨by omega, by omega, by omega⟩, if_pos (by omega)]
  congr 1; omega
theorem decN_three (n c b3 : Nat) (hn : 3 ≤ n) (h : (2048 ≤ c ∧ c < 55296) ∨ (57343 < c ∧ c ≤ 65535)) : Lib.decodeN n (224 + c / 4096) (128 + c / 64 % 64) (128 + c % 64) b3 = (c, 3) := by
  unfold Lib.decodeN
  have e : (224 + c / 4096) % 16 * 4096 + (128 + c / 64 % 64) % 64 * 64 + (128 + c % 64) % 64 = c := by omega
  rw [if_neg (by omega), if_neg (by omega), if_pos ⟨by omega, ⟨by omega, by omega⟩, by omega, by omega⟩, e, if_pos (by omega)]
theorem decN_four (n c : Nat) (hn : 4 ≤ n) (h0 : 65536 ≤ c) (h1 : c ≤ 1114111) : Lib.decodeN n (240 + c / 262144) (128 + c / 4096 % 64) (128 + c / 64 % 64) (128 + c % 64) = (c, 4) := by
  unfold Lib.decodeN
  have e : (240 + c / 262144) % 8 * 262144 + (128 + c / 4096 % 64) % 64 * 4096 + (128 + c / 64 % 64) % 64 * 64 + (128 + c % 64) % 64 = c := by omega
  rw [if_neg (by omega), if_neg (by omega), if_neg (by omega), if_pos ⟨by omega, ⟨by omega, by omega⟩, ⟨by omega, by omega⟩, by omega, by omega⟩, e, if_pos (by omega)]
theorem byte_toNat (n : Nat) (h : n < 256) : (n.toUInt8).toNat = n := by
  rw [Nat.toUInt8, UInt8.toNat_ofNat']; omega
/-- Encoding, then decoding. -/
theorem dec_encode (r : Int) (h : okRune r) (b : List UInt8) : dec (Lib.encodeRune r ++ b) = (r.toNat, (Lib.encodeRune r).length) := by
  obtain ⟨c, rfl⟩ := Int.eq_ofNat_of_zero_le (show 0 ≤ r by unfold okRune at h; omega)
  unfold okRune at h
  unfold Lib.encodeRune
  by_cases h1 : c ≤ 127
  · rw [Lib.encodeRuneZ_one (by omega) (by omega)]
    simp only [List.map_cons, List.map_nil, List.cons_append, List.nil_append, dec, List.getD_cons_zero, Int.toNat_natCast, byte_toNat c (by omega)]
    rw [decN_ascii _ _ _ _ _ (by omega)]
    rfl
  · by_cases h2 : c ≤ 2047
    · rw [Lib.encodeRuneZ_two (by omega) (by omega)]
      simp only [List.map_cons, List.map_nil, List.cons_append, List.nil_append, dec, List.getD_cons_zero, List.getD_cons_succ, Int.toNat_natCast]
      rw [show (192 + (c : Int) / 64).toNat = 192 + c / 64 by omega, show (128 + (c : Int) % 64).toNat = 128 + c % 64 by omega, byte_toNat _ (by omega), byte_toNat _ (by omega)]
      exact decN_two _ c _ _ (by simp) (by omega) (by omega)
    · by_cases h3 : c ≤ 65535
      · rw [Lib.encodeRuneZ_three (by omega)]
        simp only [List.map_cons, List.map_nil, List.cons_append, List.nil_append, dec, List.getD_cons_zero, List.getD_cons_succ, Int.toNat_natCast]
        rw [show (224 + (c : Int) / 4096).toNat = 224 + c / 4096 by omega, show (128 + (c : Int) / 64 % 64).toNat = 128 + c / 64 % 64 by omega, show (128 + (c : Int) % 64).toNat = 128 + c % 64 by omega, byte_toNat _ (by omega), byte_toNat _ (by omega), byte_toNat _ (by omega)]
        exact decN_three _ c _ (by simp) (by omega)
      · rw [Lib.encodeRuneZ_four (by omega) (by omega)]
        simp only [List.map_cons, List.map_nil, List.cons_append, List.nil_append, dec, List.getD_cons_zero, List.getD_cons_succ, Int.toNat_natCast]
        rw [show (240 + (c : Int) / 262144).toNat = 240 + c / 262144 by omega, show (128 + (c : Int) / 4096 % 64).toNat = 128 + c / 4096 % 64 by omega, show (128 + (c : Int) / 64 % 64).toNat = 128 + c / 64 % 64 by omega, show (128 + (c : Int) % 64).toNat = 128 + c % 64 by omega, byte_toNat _ (by omega), byte_toNat _ (by omega), byte_toNat _ (by omega), byte_toNat _ (by omega)]
        exact decN_four _ c (by simp) (by omega) (by omega)
theorem encode_ne (r : Int) : Lib.encodeRune r ≠ [] := by
  intro e
  have := Lib.encodeRuneZ_length r
  have h := congrArg List.length e
  simp only [Lib.encodeRune, List.length_map, List.length_nil] at h
  omega
theorem rn_encode (r : Int) (h : okRune r) (b : List UInt8) : rn (Lib.encodeRune r ++ b) = (r, (Lib.encodeRune r).length) :: rn b := by
  rw [rn_cons _ (by simp [encode_ne]), dec_encode r h b]
  have h0 : 0 ≤ r := by unfold okRune at h; omega
  simp only [List.drop_left, Int.toNat_of_nonneg h0]
/-- The runes of a list of bytes can all be encoded. -/
theorem rl_ok : ∀ (f : Nat) (l : List UInt8), ∀ x ∈ rl f l, okRune x.1
  | 0, _, x, hx => by simp [rl] at hx
  | f + 1, l, x, hx => by
    by_cases hl : l = []
    · subst hl; rw [rl_nil] at hx; cases hx
    · rw [rl_cons f l hl] at hx
      rcases List.mem_cons.1 hx with rfl | hx
      · exact dec_ok l
      · exact rl_ok f _ x hx
end Txt
end Go.Proofs.YtlodmffiengnaaaDoor

/- Package copying: what is pure: the runes of a line that take a cell, and their columns. -/
namespace Go.Proofs.YtlodmffiengnaaaDoor
open Go.ChangeShapes Go.WideShapes Go.ChangeAt Go.RowKit Go.Maps
namespace Cpy
open Txt (runes rn wd spotsL colsL cleanL bs okRune)
/-- The runes of a line that take a cell, each with its column. -/
def sp (s : ByteArray) : List (Int × Int) := spotsL (runes s) 0
/-- The runes of a text. -/
def zs (s : ByteArray) : List Int := (runes s).map (·.1)
theorem rn_clean : ∀ (L : List (Int × Nat)) (c : Int), (∀ x ∈ L, okRune x.1) → (rn (cleanL L)).map (·.1) = (spotsL L c).map (·.1)
  | [], _, _ => rfl
  | x :: t, c, h => by
    unfold cleanL spotsL
    have ht : ∀ y ∈ t, okRune y.1 := fun y hy => h y (List.mem_cons_of_mem _ hy)
    by_cases hw : 0 < wd x.1
    · rw [if_pos hw, if_pos hw, Txt.rn_encode x.1 (h x (List.mem_cons_self ..)), List.map_cons, List.map_cons, rn_clean t (c + wd x.1) ht]
    · rw [if_neg hw, if_neg hw, List.nil_append, rn_clean t c ht]
theorem bs_data (l : List UInt8) : (bs l).data.toList = l := by simp [bs]
theorem runes_ok (s : ByteArray) : ∀ x ∈ runes s, okRune x.1 := by
  rw [Txt.runes_rn]
  exact Txt.rl_ok _ _
theorem zs_clean (s : ByteArray) : zs (bs (cleanL (runes s))) = (sp s).map (·.1) := by
  unfold zs sp
  rw [Txt.runes_rn (bs _), bs_data]
  exact rn_clean _ 0 (runes_ok s)
theorem spots_low : ∀ (L : List (Int × Nat)) (c : Int), (∀ x ∈ spotsL L c, c ≤ x.2)
  | [], _, x, hx => by simp [spotsL] at hx
  | y :: t, c, x, hx => by
    unfold spotsL at hx
    by_cases hw : 0 < wd y.1
    · rw [if_pos hw] at hx
      rcases List.mem_cons.1 hx with rfl | hx
      · exact Int.le_refl _
      · have := spots_low t _ x hx
        omega
    · rw [if_neg hw] at hx
      exact spots_low t c x hx
theorem spots_lt : ∀ (L : List (Int × Nat)) (c : Int), ((spotsL L c).map (·.2)).Pairwise (· < ·)
  | [], _ => by simp [spotsL]
  | y :: t, c => by
    unfold spotsL
    by_cases hw : 0 < wd y.1
    · rw [if_pos hw, List.map_cons, List.pairwise_cons]
      refine ⟨fun a ha => ?_, spots_lt t _⟩
      obtain ⟨x, hx, rfl⟩ := List.mem_map.1 ha
      have := spots_low t _ x hx
      simp only []
      omega
    · rw [if_neg hw]
      exact spots_lt t c
theorem sp_lt (s : ByteArray) : ((sp s).map (·.2)).Pairwise (· < ·) := spots_lt _ _
theorem sp_pos (s : ByteArray) : ∀ x ∈ sp s, 0 ≤ x.2 := spots_low _ _
/-- The rune at a column: its number; -1, if there is none. -/
def atI (cs : List Int) (x : Int) : Int := (cs.countP (· ≤ x) : Nat) - 1
theorem count_le : ∀ (cs : List Int) (x : Int), cs.Pairwise (· < ·) → cs.countP (· ≤ x) = cs.countP (· < x) + (if cs.contains x then 1 else 0)
  | [], _, _ => rfl
  | c :: t, x, h => by
    rw [List.pairwise_cons] at h
    rw [List.countP_cons, List.countP_cons, count_le t x h.2, List.contains_cons]
    by_cases h1 : c < x
    · have h2 : (x == c) = false := by rw [beq_eq_false_iff_ne]; omega
      have h3 : c ≤ x := by omega
      simp only [h1, h2, h3, decide_true, if_true, Bool.false_or]
      omega
    · by_cases h2 : c = x
      · subst h2
        have h4 : ¬ c ∈ t := by
          intro hm
          have := h.1 _ hm
          omega
        have h5 : t.countP (fun y => decide (y < c)) = 0 := by
          rw [List.countP_eq_zero]
          intro a ha
          have := h.1 _ ha
          simp
          omega
        simp [h4, h5]
      · have h3 : ¬ c ≤ x := by omega
        have h4 : (x == c) = false := by rw [beq_eq_false_iff_ne]; omega
        simp only [h1, h3, h4, decide_false, Bool.false_or]
        simp
theorem atI_ge (cs : List Int) (x : Int) : -1 ≤ atI cs x := by unfold atI; omega
theorem atI_lt (cs : List Int) (x : Int) : atI cs x < cs.length := by
  have := List.countP_le_length (p := fun y => decide (y ≤ x)) (l := cs)
  unfold atI
  omega
/-- The column of the last rune; 0 of none. -/
def endI (cs : List Int) : Int := cs.getLastD 0
theorem endI_get (cs : List Int) (h : 0 < cs.length) : endI cs = cs[cs.length - 1] := by
  unfold endI
  rw [List.getLastD_eq_getLast?, List.getLast?_eq_getElem?, List.getElem?_eq_getElem (by omega)]
  rfl
end Cpy
end Go.Proofs.YtlodmffiengnaaaDoor

/- Package copying: a line: lineOf, at, end. -/
namespace Go.Proofs.YtlodmffiengnaaaDoor
open Go.ChangeShapes Go.WideShapes Go.ChangeAt Go.RowKit Go.Maps
namespace Cpy
open Txt (runes rn wd spotsL colsL cleanL bs okRune Tab)
/-- A line in memory: its runes and its columns. -/
def LnAt (w : World) (rv cv : Value) (S : List (Int × Int)) : Prop :=
  (∃ b o c, rv = .slice (some ⟨b, o, none⟩) S.length c ∧ S.length ≤ c ∧ ∀ j r, (S.map (·.1))[j]? = some r → w.cell? ⟨b, o + j, none⟩ = some (.int .i32 r)) ∧
  (∃ a c, cv = .slice a S.length c ∧ (S = [] ∨ ∃ b o, a = some ⟨b, o, none⟩ ∧ ∀ j x, (S.map (·.2))[j]? = some x → w.cell? ⟨b, o + j, none⟩ = some (.int .i64 x)))
theorem LnAt.ck {w w' : World} {rv cv : Value} {S : List (Int × Int)} (h : LnAt w rv cv S) (hb : CK w w') : LnAt w' rv cv S := by
  obtain ⟨⟨b, o, c, h1, h2, h3⟩, a, d, h4, h5⟩ := h
  refine ⟨⟨b, o, c, h1, h2, fun j r hj => hb _ _ _ (h3 j r hj)⟩, a, d, h4, h5.imp id ?_⟩
  rintro ⟨b', o', ha, hc⟩
  exact ⟨b', o', ha, fun j x hx => hb _ _ _ (hc j x hx)⟩
theorem LnAt.below {w w' : World} {rv cv : Value} {S : List (Int × Int)} (h : LnAt w rv cv S) (hb : Below w.heap.size w w') : LnAt w' rv cv S := h.ck (CK.below hb)
/-- What is written into a row leaves the cells that hold what no cell of that row held. -/
theorem cell_setRow {w : World} {g : Nat} {cs old : Array Value} {t : TypeId} {fr : Nat × Nat} (hg : w.heap[g]? = some (.cells old t fr)) {b o : Nat} {v : Value} (h : w.cell? ⟨b, o, none⟩ = some v) (hne : ∀ i : Nat, old[i]? ≠ some v) : (w.setRow g cs).cell? ⟨b, o, none⟩ = some v := by
  by_cases hb : b = g
  · subst hb
    unfold World.cell? at h
    rw [hg] at h
    exact absurd h (hne o)
  · unfold World.cell? at h ⊢
    rw [setRow_other w g b cs hb]
    exact h
theorem LnAt.setRow {w : World} {rv cv : Value} {S : List (Int × Int)} (h : LnAt w rv cv S) {g : Nat} {cs old : Array Value} {t : TypeId} {fr : Nat × Nat} (hg : w.heap[g]? = some (.cells old t fr)) (hne : ∀ (i : Nat) (k : IntKind) (x : Int), old[i]? ≠ some (.int k x)) : LnAt (w.setRow g cs) rv cv S := by
  obtain ⟨⟨b, o, c, h1, h2, h3⟩, a, d, h4, h5⟩ := h
  refine ⟨⟨b, o, c, h1, h2, fun j r hj => cell_setRow hg (h3 j r hj) (fun i => hne i _ _)⟩, a, d, h4, h5.imp id ?_⟩
  rintro ⟨b', o', ha, hc⟩
  exact ⟨b', o', ha, fun j x hx => cell_setRow hg (hc j x hx) (fun i => hne i _ _)⟩
theorem two_slices (p q : Value) (hp : ∀ k x, p ≠ .int k x) (hq : ∀ k x, q ≠ .int k x) (i : Nat) (k : IntKind) (x : Int) : (#[p, q] : Array Value)[i]? ≠ some (.int k x) := by
  match i with
  | 0 => intro h; exact hp k x (by simpa using h)
  | 1 => intro h; exact hq k x (by simpa using h)
  | n + 2 => simp
theorem runesFrom_rs (s : ByteArray) : ∀ (f i : Nat) (acc : Array Value), Conv.runesFrom s f i acc = acc ++ ((Txt.rs s f i).map (fun x => Value.int .i32 x.1)).toArray
  | 0, _, acc => by simp [Conv.runesFrom, Txt.rs]
  | f + 1, i, acc => by
    unfold Conv.runesFrom Txt.rs
    by_cases h : i < s.size
    · rw [if_pos h, if_pos h]
      simp only []
      rw [runesFrom_rs s f]
      simp
    · rw [if_neg h, if_neg h]
      simp
theorem runes_zs (t : ByteArray) : Conv.runesFrom t t.size 0 #[] = ((zs t).map (Value.int .i32)).toArray := by
  rw [runesFrom_rs]
  unfold zs Txt.runes
  simp
theorem rs_len (s : ByteArray) : ∀ (f i : Nat), (Txt.rs s f i).length ≤ f
  | 0, _ => by simp [Txt.rs]
  | f + 1, i => by
    unfold Txt.rs
    split
    · have := rs_len s f (i + (Utf8.decode s i).2)
      simp
      exact this
    · simp
theorem zs_len (t : ByteArray) : (zs t).length ≤ t.size := by
  unfold zs Txt.runes
  rw [List.length_map]
  exact rs_len t _ _
theorem clean_length : ∀ L : List (Int × Nat), (Txt.cleanL L).length ≤ 4 * L.length
  | [] => by simp [Txt.cleanL]
  | x :: t => by
    have h1 := clean_length t
    have h2 := (Txt.encodeRune_length x.1).2
    unfold Txt.cleanL
    rw [List.length_append, List.length_cons]
    split
    · omega
    · simp
      omega
theorem sp_len (s : ByteArray) : (sp s).length ≤ s.size := by
  have h := Txt.colsL_length (runes s) 0
  rw [← Txt.spots_cols, List.length_map] at h
  have h2 := rs_len s s.size 0
  unfold sp
  unfold Txt.runes at h ⊢
  omega
/-- The world behind a text that became runes. -/
def runesV (W : World) (l : List Int) : World := W.drew.alloc (.cells ((l.map (Value.int .i32)).toArray ++ Array.replicate (grownCap W l.length 0 21 - l.length) (.int .i32 0)) 21)
theorem runesV_conv (t : ByteArray) (ht : t.size ≤ 70368744177664) (W : World) : (convert 9 48 (.string t)).run Tryd.prog W = .ok (.slice (some ⟨W.heap.size, 0, none⟩) (zs t).length (grownCap W (zs t).length 0 21)) (runesV W (zs t)) := by
  have hz := zs_len t
  have hs : (Conv.runesFrom t t.size 0 #[]).size = (zs t).length := by rw [runes_zs]; simp
  have h := run_runes_of_string (P := Tryd.prog) W 9 48 21 t (by kernel_rfl) (by kernel_rfl) (by kernel_rfl) (by omega)
  rw [h, hs, runes_zs]
  rfl
theorem below_runesV (W : World) (l : List Int) : Below W.heap.size W (runesV W l) := ((Below.refl _ W).drew).alloc (Nat.le_refl _) _
theorem runesV_cell (W : World) (l : List Int) (j : Nat) (r : Int) (hj : l[j]? = some r) : (runesV W l).cell? ⟨W.heap.size, 0 + j, none⟩ = some (.int .i32 r) := by
  have h := heap_alloc_new W.drew (.cells ((l.map (Value.int .i32)).toArray ++ Array.replicate (grownCap W l.length 0 21 - l.length) (.int .i32 0)) 21)
  have h2 : (runesV W l).heap[W.heap.size]? = some (.cells ((l.map (Value.int .i32)).toArray ++ Array.replicate (grownCap W l.length 0 21 - l.length) (.int .i32 0)) 21 (0, 0)) := h
  obtain ⟨hl0, _⟩ := List.getElem?_eq_some_iff.1 hj
  rw [Nat.zero_add]
  unfold World.cell?
  rw [h2]
  have hl : j < (l.map (Value.int .i32)).toArray.size := by simpa using hl0
  simp only []
  rw [Array.getElem?_append_left hl]
  simp [hj]
theorem own_cells {w : World} {base : Nat} {v : Value} {l : List Int} (h : w.ownsRow base 3 1 v l.length (l.map (Value.int .i64))) :
    ∃ a c, v = .slice a l.length c ∧ (l = [] ∨ ∃ b o, a = some ⟨b, o, none⟩ ∧ ∀ j x, l[j]? = some x → w.cell? ⟨b, o + j, none⟩ = some (.int .i64 x)) := by
  rcases h.2 with ⟨hv, hn⟩ | ⟨g, cap, cur, hv, hg, hh, r⟩
  · have : l = [] := List.length_eq_zero_iff.1 (by simpa using hn)
    subst this
    exact ⟨none, 0, hv, .inl rfl⟩
  · refine ⟨_, _, hv, .inr ⟨g, 0, rfl, fun j x hx => ?_⟩⟩
    obtain ⟨_, _, _, ht⟩ := r
    rw [Nat.mul_one] at ht
    obtain ⟨hj, _⟩ := List.getElem?_eq_some_iff.1 hx
    have h1 : (cur.toList.take l.length)[j]? = some (.int .i64 x) := by rw [ht, List.getElem?_map, hx]; rfl
    rw [List.getElem?_take_of_lt hj, Array.getElem?_toList] at h1
    unfold World.cell?
    rw [hh, Nat.zero_add]
    exact h1
theorem one2 (a b : Option Addr) (n m c d : Nat) : (#[.slice a n c, .slice b m d] : Array Value).all (·.oneCell') = true := by simp [Value.oneCell']
set_option maxHeartbeats 4000000 in
set_option maxRecDepth 100000 in
theorem lineOf_any (s : ByteArray) (w : World) (hT : Tab w) (hs : s.size ≤ 1000000) :
    Calls Tryd.prog 43 #[.string s] w fun e w' => ∃ rv cv, e = .returned (.agg #[rv, cv]) ∧ LnAt w' rv cv (sp s) ∧ Below w.heap.size w w' := by
  have HT : Hid (Tab w) := hT
  have HP : Hid (0 < w.heap.size) := hT.pos
  have HC := fun W (h : Below w.heap.size w W) => Txt.clean_any s W (HT.out.below h HP.out) (by omega)
  have HK := fun W (h : Below w.heap.size w W) => Txt.columns_any s W (HT.out.below h HP.out) (by omega)
  have hu : (bs (cleanL (runes s))).size ≤ 70368744177664 := by
    have h1 := clean_length (runes s)
    have h2 := rs_len s s.size 0
    show (cleanL (runes s)).toArray.size ≤ _
    rw [List.size_toArray]
    unfold Txt.runes at h1 ⊢
    omega
  have HZ := zs_clean s
  generalize bs (cleanL (runes s)) = u at *
  have HCV := runesV_conv u hu
  rw [HZ, List.length_map] at HCV
  have hcols : colsL (runes s) 0 = (sp s).map (·.2) := (Txt.spots_cols _ _).symm
  rw [hcols] at HK
  have HL : Hid (∀ (W : World) (l : List Int), Below W.heap.size W (runesV W l)) := below_runesV
  have HCELL : Hid (∀ (W : World) (l : List Int) (j : Nat) (r : Int), l[j]? = some r → (runesV W l).cell? ⟨W.heap.size, 0 + j, none⟩ = some (.int .i32 r)) := runesV_cell
  have HG : Hid (∀ (W : World) (l : List Int), l.length ≤ grownCap W l.length 0 21) := fun W l => grownCap_ge W l.length 0 21
  have kb : Below w.heap.size w (w.alloc (.cells #[.slice none 0 0, .slice none 0 0] 82)) := (Below.refl _ _).alloc (Nat.le_refl _) _
  clear hT hs hu HZ hcols
  go_enter Tryd.func43, Tryd.ntmps43
  go_wp2_with fail
  refine (HC _ kb).mono ?_
  rintro e W1 ⟨rfl, b1⟩
  have k1 := kb.trans (b1.mono kb.size)
  have e1 := (b1.block _ (by rw [World.size_alloc]; omega)).trans (heap_alloc_new w (.cells #[.slice none 0 0, .slice none 0 0] 82))
  clear HC kb b1
  go_wp2_with fail
  have kr := HL.out W1 ((sp s).map (·.1))
  have k2 := k1.trans (kr.mono k1.size)
  have e2 := (kr.block _ (Array.getElem?_eq_some_iff.1 e1).1).trans e1
  have hcr := HCELL.out W1 ((sp s).map (·.1))
  have hgr := HG.out W1 ((sp s).map (·.1))
  rw [List.length_map] at hgr
  generalize grownCap W1 (sp s).length 0 21 = gc at *
  generalize runesV W1 ((sp s).map (·.1)) = W2 at *
  refine (HK _ k2).mono ?_
  rintro e W3 ⟨v, rfl, hown, b3⟩
  have k3 := k2.trans (b3.mono k2.size)
  have e3 := (b3.block _ (Array.getElem?_eq_some_iff.1 e2).1).trans e2
  obtain ⟨a, c, rfl, hcol⟩ := own_cells hown
  rw [List.length_map] at *
  have hcr3 := fun j r hj => CK.below b3 _ _ _ (hcr j r hj)
  have hln : LnAt W3 (.slice (some ⟨W1.heap.size, 0, none⟩) (sp s).length gc) (.slice a (sp s).length c) (sp s) :=
    ⟨⟨_, _, _, rfl, hgr, hcr3⟩, _, _, rfl, hcol.imp (fun h => List.map_eq_nil_iff.1 h) id⟩
  have HLN : Hid (LnAt W3 (.slice (some ⟨W1.heap.size, 0, none⟩) (sp s).length gc) (.slice a (sp s).length c) (sp s)) := hln
  clear HK hown hcol hcr hcr3 hln e1 e2 k1 k2 kr hgr HCV
  go_wp2_with (refine wpList_store_row rfl 82 (.tmp 2) (.tmp 8) rfl w.heap.size #[.slice (some ⟨W1.heap.size, 0, none⟩) (sp s).length gc, .slice a (sp s).length c] rfl rfl _ _ e3 (by kernel_rfl) rfl (one2 _ _ _ _ _ _) ?_)
  (try simp only [Exit.inBlock, Exit.then])
  refine bodyPost_ret (v := .agg #[.slice (some ⟨W1.heap.size, 0, none⟩) (sp s).length gc, .slice a (sp s).length c]) ?_ rfl ⟨_, _, rfl, ?_, below_setRow k3 (Nat.le_refl _) _⟩
  · exact results_cell_row rfl _ _ w.heap.size _ _ _ _ rfl (setRow_heap _ _ _ _ _ _ e3) Tryd.underlying82 rfl (by kernel_rfl)
  · exact HLN.out.setRow e3 (two_slices _ _ (by intro k x h; cases h) (by intro k x h; cases h))
/-- A line's box. -/
theorem box2 (w : World) (p q : Value) (t : TypeId) : (w.alloc (.cells #[p, q] t)).cell? ⟨w.heap.size, 0, none⟩ = some p ∧ (w.alloc (.cells #[p, q] t)).cell? ⟨w.heap.size, 1, none⟩ = some q := by
  unfold World.cell?
  rw [heap_alloc_new]
  exact ⟨rfl, rfl⟩
set_option maxHeartbeats 4000000 in
set_option maxRecDepth 100000 in
theorem at_any (rv cv : Value) (S : List (Int × Int)) (x : Int) (w : World) (h : LnAt w rv cv S) (hS : (S.map (·.2)).Pairwise (· < ·)) (hn : S.length ≤ 1000000) :
    Calls Tryd.prog 44 #[.agg #[rv, cv], .int .i64 x] w fun e w' => e = .returned (.int .i64 (atI (S.map (·.2)) x)) ∧ Below w.heap.size w w' := by
  have kb : Below w.heap.size w (w.alloc (.cells #[rv, cv] 82)) := (Below.refl _ _).alloc (Nat.le_refl _) _
  obtain ⟨c0, c1⟩ := box2 w rv cv 82
  have h2 := (h.below kb).2
  obtain ⟨a, c, rfl, hc⟩ := h2
  obtain ⟨⟨b, o, d, rfl, _⟩, _⟩ := h
  have HB : ∃ q : Nat → World → World, Calls Tryd.prog 56 #[.slice a S.length c, .int .i64 x] (w.alloc (.cells #[.slice (some ⟨b, o, none⟩) S.length d, .slice a S.length c] 82)) fun e w' => e = .returned (.tuple #[.int .i64 ((S.map (·.2)).countP (· < x) : Nat), .bool ((S.map (·.2)).contains x)]) ∧ Below (w.alloc (.cells #[.slice (some ⟨b, o, none⟩) S.length d, .slice a S.length c] 82)).heap.size (w.alloc (.cells #[.slice (some ⟨b, o, none⟩) S.length d, .slice a S.length c] 82)) w' := by
    refine ⟨fun _ w => w, ?_⟩
    rcases hc with rfl | ⟨b', o', rfl, hc⟩
    · refine (Tryd.slices_BinarySearch_int_empty a c x _).mono ?_
      rintro e w' ⟨rfl, rfl⟩
      exact ⟨rfl, Below.refl _ _⟩
    · refine (Tryd.slices_BinarySearch_int b' o' S.length c (S.map (·.2)) x _ (by simp) (by omega) ?_ ?_).mono ?_
      · intro j hj
        refine (hc j _ (List.getElem?_eq_getElem hj)).trans ?_
        rw [List.getD_eq_getElem?_getD, List.getElem?_eq_getElem hj]
        rfl
      · rw [List.take_of_length_le (by simp)]
        exact hS.imp (fun h => by omega)
      · rintro e w' ⟨rfl, q, rfl⟩
        rw [List.take_of_length_le (by simp)]
        exact ⟨rfl, ⟨rfl, rfl, rfl, Nat.le_refl _, fun _ _ => rfl⟩⟩
  obtain ⟨_, HB⟩ := HB
  have hcl := count_le (S.map (·.2)) x hS
  have HR : Hid (atI (S.map (·.2)) x = ((S.map (·.2)).countP (· ≤ x) : Nat) - 1) := rfl
  have hle : (S.map (·.2)).countP (· < x) ≤ S.length := by have := List.countP_le_length (p := fun y => decide (y < x)) (l := S.map (·.2)); simpa using this
  generalize (S.map (·.2)).countP (· < x) = n at *
  generalize (S.map (·.2)).countP (· ≤ x) = m at *
  generalize atI (S.map (·.2)) x = R at *
  cases hk : (S.map (·.2)).contains x
  all_goals
    rw [hk] at HB hcl
    clear hc hS hk
    go_enter Tryd.func44, Tryd.ntmps44
    go_wp2_with fail
    refine HB.mono ?_
    rintro e W1 ⟨rfl, b1⟩
    have k1 := kb.trans (b1.mono kb.size)
    go_wp2_with fail
    go_ret
    refine ⟨ret_i ?_, k1⟩
    rw [HR.out]
    simp at hcl
    omega
set_option maxHeartbeats 4000000 in
set_option maxRecDepth 100000 in
theorem lineEnd_any (rv cv : Value) (S : List (Int × Int)) (w : World) (h : LnAt w rv cv S) (hn : S.length ≤ 1000000) :
    Calls Tryd.prog 45 #[.agg #[rv, cv]] w fun e w' => e = .returned (.int .i64 (endI (S.map (·.2)))) ∧ Below w.heap.size w w' := by
  have kb : Below w.heap.size w (w.alloc (.cells #[rv, cv] 82)) := (Below.refl _ _).alloc (Nat.le_refl _) _
  obtain ⟨c0, c1⟩ := box2 w rv cv 82
  have h2 := (h.below kb).2
  obtain ⟨a, c, rfl, hc⟩ := h2
  obtain ⟨⟨b, o, d, rfl, _⟩, _⟩ := h
  by_cases h0 : S.length = 0
  · have : S = [] := List.length_eq_zero_iff.1 h0
    subst this
    go_enter Tryd.func45, Tryd.ntmps45
    go_wp2_with fail
    go_ret
    exact ⟨rfl, kb⟩
  · obtain ⟨b', o', rfl, hc⟩ := hc.resolve_left (by rintro rfl; exact h0 rfl)
    have hl : S.length - 1 < (S.map (·.2)).length := by rw [List.length_map]; omega
    have q := hc (S.length - 1) _ (List.getElem?_eq_getElem hl)
    have hR := endI_get (S.map (·.2)) (by rw [List.length_map]; omega)
    simp only [List.length_map] at hR
    rw [hR]
    generalize (S.map (·.2))[S.length - 1] = R at *
    have i0 : ((S.length : Int) == 0) = false := by rw [beq_eq_false_iff_ne]; omega
    have hw : wrap64 ((S.length : Int) - 1) = ((S.length - 1 : Nat) : Int) := by unfold wrap64; omega
    have hlt : ((S.length - 1 : Nat) : Int) < (S.length : Int) := by omega
    clear hc h0 hl hR
    go_enter Tryd.func45, Tryd.ntmps45
    go_wp2_with fail
    go_ret
    exact ⟨rfl, kb⟩
end Cpy
end Go.Proofs.YtlodmffiengnaaaDoor

/- Package copying: bottom, end, left, right. -/
namespace Go.Proofs.YtlodmffiengnaaaDoor
open Go.ChangeShapes Go.WideShapes Go.ChangeAt Go.RowKit Go.Maps
namespace Cpy
open Txt (runes rn wd spotsL colsL cleanL bs okRune Tab)
/-- The columns of a line. -/
def cols (s : ByteArray) : List Int := (sp s).map (·.2)
theorem cols_len (s : ByteArray) : (cols s).length = (sp s).length := by unfold cols; simp
/-- The y-th line. -/
def ln (L : List ByteArray) (y : Nat) : ByteArray := L.getD y ByteArray.empty
theorem ln_get {L : List ByteArray} {y : Nat} (h : y < L.length) : L[y]? = some (ln L y) := by
  unfold ln
  rw [List.getD_eq_getElem?_getD, List.getElem?_eq_getElem h]
  rfl
theorem ln_size {L : List ByteArray} (h : ∀ s ∈ L, s.size ≤ 4000) (y : Nat) : (ln L y).size ≤ 4000 := by
  unfold ln
  rw [List.getD_eq_getElem?_getD]
  cases hy : L[y]? with
  | none => simp
  | some s => exact h s (List.mem_of_getElem? hy)
theorem LsAt.get {w : World} {v : Value} {L : List ByteArray} (h : LsAt w v L) {y : Nat} (hy : y < L.length) : ∃ b o c, v = .slice (some ⟨b, o, none⟩) L.length c ∧ w.cell? ⟨b, o + y, none⟩ = some (.string (ln L y)) := by
  obtain ⟨a, c, rfl, hc⟩ := h
  obtain ⟨b, o, rfl, hc2⟩ := hc.resolve_left (by intro h; rw [h] at hy; simp at hy)
  exact ⟨b, o, c, rfl, hc2 y _ (ln_get hy)⟩
theorem oneI2 (a b : Int) : (#[.int .i64 a, .int .i64 b] : Array Value).all (·.oneCell') = true := by simp [Value.oneCell']
theorem ret_m {a b c d : Int} (h : a = c) (g : b = d) : Ending.returned (.agg #[.int .i64 a, .int .i64 b]) = Ending.returned (.agg #[.int .i64 c, .int .i64 d]) := by rw [h, g]
set_option maxHeartbeats 4000000 in
set_option maxRecDepth 100000 in
theorem bottom_any (L : List ByteArray) (v : Value) (w : World) (h : LsAt w v L) (hn : L.length ≤ 1000000) :
    Calls Tryd.prog 25 #[v] w fun e w' => e = .returned (.agg #[.int .i64 0, .int .i64 ((L.length : Int) - 1)]) ∧ Below w.heap.size w w' := by
  have kb : Below w.heap.size w (w.alloc (.cells #[.int .i64 0, .int .i64 0] 24)) := (Below.refl _ _).alloc (Nat.le_refl _) _
  have Z := heap_alloc_new w (.cells #[.int .i64 0, .int .i64 0] 24)
  obtain ⟨a, c, rfl, _⟩ := h
  have hw : wrap64 ((L.length : Int) - 1) = (L.length : Int) - 1 := by unfold wrap64; omega
  go_enter Tryd.func25, Tryd.ntmps25
  go_wp2_with (refine wpList_store_row rfl 24 (.tmp 2) (.tmp 6) rfl w.heap.size #[.int .i64 0, .int .i64 ((L.length : Int) - 1)] rfl rfl _ _ Z (by kernel_rfl) rfl (oneI2 _ _) ?_)
  (try simp only [Exit.inBlock, Exit.then])
  refine bodyPost_ret (v := .agg #[.int .i64 0, .int .i64 ((L.length : Int) - 1)]) ?_ rfl ⟨rfl, below_setRow kb (Nat.le_refl _) _⟩
  exact results_cell_row rfl _ _ w.heap.size _ _ _ _ rfl (setRow_heap _ _ _ _ _ _ Z) Tryd.underlying24 rfl (by kernel_rfl)
set_option maxHeartbeats 4000000 in
set_option maxRecDepth 100000 in
theorem end_any (L : List ByteArray) (v : Value) (y : Nat) (w : World) (h : LsAt w v L) (hT : Tab w) (hy : y < L.length) (hL : ∀ s ∈ L, s.size ≤ 4000) :
    Calls Tryd.prog 24 #[v, .int .i64 y] w fun e w' => e = .returned (.agg #[.int .i64 (endI (cols (ln L y))), .int .i64 y]) ∧ Below w.heap.size w w' := by
  have kb : Below w.heap.size w (w.alloc (.cells #[.int .i64 0, .int .i64 0] 24)) := (Below.refl _ _).alloc (Nat.le_refl _) _
  have Z := heap_alloc_new w (.cells #[.int .i64 0, .int .i64 0] 24)
  obtain ⟨b, o, c, rfl, q⟩ := (h.below kb).get hy
  have hs := ln_size hL y
  have HL := fun W (hW : Below w.heap.size w W) => lineOf_any (ln L y) W (hT.below hW hT.pos) (by omega)
  have hsl := sp_len (ln L y)
  have HE := fun rv cv W (h : LnAt W rv cv (sp (ln L y))) => lineEnd_any rv cv (sp (ln L y)) W h (by omega)
  have HR : Hid (endI (cols (ln L y)) = endI ((sp (ln L y)).map (·.2))) := rfl
  have iy : (y : Int) < (L.length : Int) := by omega
  have iy0 : (0 : Int) ≤ (y : Int) := by omega
  rw [← HR.out] at HE
  generalize endI (cols (ln L y)) = R at *
  generalize ln L y = s at *
  clear HR h hT hL hy hsl hs
  go_enter Tryd.func24, Tryd.ntmps24
  go_wp2_with fail
  refine (HL _ kb).mono ?_
  rintro e W1 ⟨rv, cv, rfl, hln, b1⟩
  have k1 := kb.trans (b1.mono kb.size)
  have z1 := (b1.block _ (Array.getElem?_eq_some_iff.1 Z).1).trans Z
  clear HL q
  go_wp2_with fail
  refine (HE _ _ _ hln).mono ?_
  rintro e W2 ⟨rfl, b2⟩
  have k2 := k1.trans (b2.mono k1.size)
  have z2 := (b2.block _ (Array.getElem?_eq_some_iff.1 z1).1).trans z1
  clear HE b1 b2 z1 Z k1 kb hln
  go_wp2_with (refine wpList_store_row rfl 24 (.tmp 4) (.tmp 12) rfl w.heap.size #[.int .i64 R, .int .i64 y] rfl rfl _ _ z2 (by kernel_rfl) rfl (oneI2 _ _) ?_)
  (try simp only [Exit.inBlock, Exit.then])
  refine bodyPost_ret (v := .agg #[.int .i64 R, .int .i64 y]) ?_ rfl ⟨rfl, below_setRow k2 (Nat.le_refl _) _⟩
  exact results_cell_row rfl _ _ w.heap.size _ _ _ _ rfl (setRow_heap _ _ _ _ _ _ z2) Tryd.underlying24 rfl (by kernel_rfl)
/-- To the left. -/
def leftM (L : List ByteArray) (x : Int) (y : Nat) : Int × Int :=
  if 0 < atI (cols (ln L y)) x then ((cols (ln L y)).getD ((atI (cols (ln L y)) x).toNat - 1) 0, y)
  else if 0 < y then (endI (cols (ln L (y - 1))), (y : Int) - 1) else (x, y)
/-- To the right. -/
def rightM (L : List ByteArray) (x : Int) (y : Nat) : Int × Int :=
  if atI (cols (ln L y)) x + 1 < (cols (ln L y)).length then ((cols (ln L y)).getD (atI (cols (ln L y)) x + 1).toNat 0, y)
  else if y + 1 < L.length then (0, (y : Int) + 1) else (x, y)
theorem cells2 {w : World} {g : Nat} {a b : Value} {t : TypeId} (h : w.heap[g]? = some (.cells #[a, b] t (0, 0))) : w.cell? ⟨g, 0, none⟩ = some a ∧ w.cell? ⟨g, 1, none⟩ = some b := by
  unfold World.cell?
  rw [h]
  exact ⟨rfl, rfl⟩
theorem kept {w w' : World} {g : Nat} {ob : Obj} (h : w.heap[g]? = some ob) (b : Below w.heap.size w w') : w'.heap[g]? = some ob := (b.block _ (Array.getElem?_eq_some_iff.1 h).1).trans h
end Cpy
end Go.Proofs.YtlodmffiengnaaaDoor

/- Package copying: what is pure: in right UTF-8, bytes that are alike are runes that are. -/
namespace Go.Proofs.YtlodmffiengnaaaDoor
open Go.ChangeShapes Go.WideShapes Go.ChangeAt Go.RowKit Go.Maps
namespace Cpy
open Txt (runes rn wd spotsL colsL cleanL bs okRune dec)
/-- The bytes of runes. -/
def E (l : List Int) : List UInt8 := l.flatMap Lib.encodeRune
theorem E_cons (r : Int) (l : List Int) : E (r :: l) = Lib.encodeRune r ++ E l := rfl
theorem E_append (a b : List Int) : E (a ++ b) = E a ++ E b := by unfold E; exact List.flatMap_append
theorem E_ne {l : List Int} (h : l ≠ []) : E l ≠ [] := by
  cases l with
  | nil => exact absurd rfl h
  | cons r t => rw [E_cons]; simp [Txt.encode_ne]
theorem bytes_fold (l : List Int) : ∀ acc : ByteArray, (l.foldl (fun r n => r ++ Utf8.encode n) acc).data.toList = acc.data.toList ++ E l := by
  induction l with
  | nil => intro acc; simp [E]
  | cons r t ih =>
    intro acc
    rw [List.foldl_cons, ih, E_cons, ByteArray.data_append, Array.toList_append, Txt.encode_eq, bs_data, List.append_assoc]
theorem bytes_E (l : List Int) : (runesBytes l).data.toList = E l := by
  unfold runesBytes
  rw [bytes_fold]
  rfl
/-- A byte that begins a rune. -/
def lead (b : UInt8) : Bool := decide (b.toNat < 128) || decide (192 ≤ b.toNat)
theorem lead_z (x : Int) (h0 : 0 ≤ x) (h1 : x < 256) : lead (x.toNat.toUInt8) = (decide (x < 128) || decide (192 ≤ x)) := by
  unfold lead
  rw [Txt.byte_toNat _ (by omega)]
  congr 1 <;> rw [decide_eq_decide] <;> omega
theorem encode_shape (r : Int) : ∃ h t, Lib.encodeRune r = h :: t ∧ lead h = true ∧ ∀ b ∈ t, lead b = false := by
  unfold Lib.encodeRune Lib.encodeRuneZ
  split
  · exact ⟨_, _, rfl, by rw [lead_z _ (by omega) (by omega)]; simp; omega, by simp⟩
  split
  · refine ⟨_, _, rfl, by rw [lead_z _ (by omega) (by omega)]; simp; omega, ?_⟩
    intro b hb
    simp only [List.mem_map, List.mem_cons, List.not_mem_nil, or_false] at hb
    obtain ⟨z, rfl, rfl⟩ := hb
    rw [lead_z _ (by omega) (by omega)]; simp; omega
  split
  · refine ⟨_, _, rfl, by rw [lead_z _ (by omega) (by omega)]; simp; omega, ?_⟩
    intro b hb
    simp only [List.mem_map, List.mem_cons, List.not_mem_nil, or_false] at hb
    obtain ⟨z, rfl | rfl, rfl⟩ := hb <;> rw [lead_z _ (by omega) (by omega)] <;> simp <;> omega
  split
  · refine ⟨_, _, rfl, by rw [lead_z _ (by omega) (by omega)]; simp; omega, ?_⟩
    intro b hb
    simp only [List.mem_map, List.mem_cons, List.not_mem_nil, or_false] at hb
    obtain ⟨z, rfl | rfl | rfl, rfl⟩ := hb <;> rw [lead_z _ (by omega) (by omega)] <;> simp <;> omega
  · refine ⟨_, _, rfl, by decide, by decide⟩
/-- A byte that begins a rune stands where a rune begins. -/
theorem lead_at : ∀ (l : List Int) (i : Nat) (b : UInt8), (E l)[i]? = some b → lead b = true → ∃ k, k < l.length ∧ i = (E (l.take k)).length
  | [], i, b, h, _ => by simp [E] at h
  | r :: t, i, b, h, hb => by
    rw [E_cons] at h
    obtain ⟨x, y, he, _, hy⟩ := encode_shape r
    by_cases hi : i < (Lib.encodeRune r).length
    · rw [List.getElem?_append_left hi, he] at h
      cases i with
      | zero => exact ⟨0, by simp, by simp [E]⟩
      | succ i =>
        have : b ∈ y := List.mem_of_getElem? (by simpa using h)
        rw [hy b this] at hb
        cases hb
    · rw [List.getElem?_append_right (by omega)] at h
      obtain ⟨k, hk, hik⟩ := lead_at t _ b h hb
      refine ⟨k + 1, by simpa using hk, ?_⟩
      rw [List.take_succ_cons, E_cons, List.length_append]
      omega
theorem ok_nonneg {r : Int} (h : okRune r) : 0 ≤ r := by unfold okRune at h; omega
/-- What begins with the bytes of runes begins with these runes. -/
theorem prefix_E : ∀ (ws rs : List Int), (∀ r ∈ ws, okRune r) → (∀ r ∈ rs, okRune r) → (E ws <+: E rs ↔ ws <+: rs)
  | [], rs, _, _ => by simp [E]
  | w :: t, [], _, _ => by
    constructor
    · intro h
      have := List.prefix_nil.1 (show E (w :: t) <+: [] from h)
      exact absurd this (E_ne (by simp))
    · intro h
      simp at h
  | w :: t, r :: l, hw, hr => by
    have okw := hw w (List.mem_cons_self ..)
    have okr := hr r (List.mem_cons_self ..)
    have ih := prefix_E t l (fun x hx => hw x (List.mem_cons_of_mem _ hx)) (fun x hx => hr x (List.mem_cons_of_mem _ hx))
    rw [E_cons, E_cons]
    constructor
    · rintro ⟨z, hz⟩
      have d1 := Txt.dec_encode w okw (E t ++ z)
      have d2 := Txt.dec_encode r okr (E l)
      rw [← List.append_assoc, hz, d2] at d1
      have e0 : w = r := by
        have h1 := ok_nonneg okw
        have h2 := ok_nonneg okr
        injection d1 with d1
        omega
      subst e0
      rw [List.append_assoc] at hz
      have := List.append_cancel_left hz
      exact List.cons_prefix_cons.2 ⟨rfl, ih.1 ⟨z, this⟩⟩
    · intro h
      obtain ⟨rfl, h2⟩ := List.cons_prefix_cons.1 h
      obtain ⟨z, hz⟩ := ih.2 h2
      exact ⟨z, by rw [List.append_assoc, hz]⟩
/-- Where runes stand first. -/
def pos (ws : List Int) : List Int → Option Nat
  | [] => none
  | r :: t => if ws.isPrefixOf (r :: t) then some 0 else (pos ws t).map (· + 1)
theorem pos_some : ∀ (ws rs : List Int) (k : Nat), pos ws rs = some k → k < rs.length ∧ ws <+: rs.drop k ∧ ∀ j, j < k → ¬ ws <+: rs.drop j
  | ws, [], k, h => by cases h
  | ws, r :: t, k, h => by
    unfold pos at h
    by_cases hp : ws.isPrefixOf (r :: t) = true
    · rw [if_pos hp] at h
      obtain rfl : 0 = k := Option.some.inj h
      exact ⟨by simp, List.isPrefixOf_iff_prefix.1 hp, fun j hj => by omega⟩
    · rw [if_neg hp] at h
      obtain ⟨j, hj, rfl⟩ := Option.map_eq_some_iff.1 h
      obtain ⟨h1, h2, h3⟩ := pos_some ws t j hj
      refine ⟨by simpa using h1, h2, fun i hi => ?_⟩
      cases i with
      | zero => exact fun hq => hp (List.isPrefixOf_iff_prefix.2 hq)
      | succ i => exact h3 i (by omega)
theorem pos_none : ∀ (ws rs : List Int), pos ws rs = none → ∀ j, j < rs.length → ¬ ws <+: rs.drop j
  | ws, [], _, j, hj => by simp at hj
  | ws, r :: t, h, j, hj => by
    unfold pos at h
    by_cases hp : ws.isPrefixOf (r :: t) = true
    · rw [if_pos hp] at h; cases h
    · rw [if_neg hp] at h
      have h2 := Option.map_eq_none_iff.1 h
      cases j with
      | zero => exact fun hq => hp (List.isPrefixOf_iff_prefix.2 hq)
      | succ j => exact pos_none ws t h2 j (by simpa using hj)
theorem E_split (l : List Int) (k : Nat) : E l = E (l.take k) ++ E (l.drop k) := by rw [← E_append, List.take_append_drop]
theorem E_drop (l : List Int) (k : Nat) : (E l).drop (E (l.take k)).length = E (l.drop k) := by
  conv => lhs; rw [E_split l k]
  rw [List.drop_left]
theorem E_take (l : List Int) (k : Nat) : (E l).take (E (l.take k)).length = E (l.take k) := by
  conv => lhs; rw [E_split l k]
  rw [List.take_left]
theorem E_mono (l : List Int) {j k : Nat} (h : j < k) (hk : k ≤ l.length) : (E (l.take j)).length < (E (l.take k)).length := by
  have e1 : l.take j = (l.take k).take j := by rw [List.take_take, Nat.min_eq_left (by omega)]
  have e2 := congrArg List.length (E_split (l.take k) j)
  rw [List.length_append, ← e1] at e2
  have e3 : (l.take k).drop j ≠ [] := by
    intro e
    have := congrArg List.length e
    simp at this
    omega
  have := E_ne e3
  have : 0 < (E ((l.take k).drop j)).length := List.length_pos_iff.2 this
  omega
theorem occ_E (ws rs : List Int) (h1 : ∀ r ∈ ws, okRune r) (h2 : ∀ r ∈ rs, okRune r) (hw : ws ≠ []) (j : Nat) (h : Lib.occAt (E rs) (E ws) j = true) : ∃ k, k < rs.length ∧ j = (E (rs.take k)).length ∧ ws <+: rs.drop k := by
  unfold Lib.occAt at h
  have hp := List.isPrefixOf_iff_prefix.1 h
  cases ws with
  | nil => exact absurd rfl hw
  | cons w t =>
    obtain ⟨x, y, he, hl, _⟩ := encode_shape w
    have hx : (E rs)[j]? = some x := by
      obtain ⟨z, hz⟩ := hp
      have : ((E rs).drop j)[0]? = some x := by rw [← hz, E_cons, he]; rfl
      rwa [List.getElem?_drop, Nat.add_zero] at this
    obtain ⟨k, hk, rfl⟩ := lead_at rs j x hx hl
    rw [E_drop] at hp
    exact ⟨k, hk, rfl, (prefix_E _ _ h1 (fun r hr => h2 r (List.mem_of_mem_drop hr))).1 hp⟩
theorem index_E (ws rs : List Int) (h1 : ∀ r ∈ ws, okRune r) (h2 : ∀ r ∈ rs, okRune r) (hw : ws ≠ []) : Lib.index (E rs) (E ws) = match pos ws rs with | none => -1 | some k => ((E (rs.take k)).length : Int) := by
  cases hp : pos ws rs with
  | none =>
    refine Lib.index_none fun j _ => ?_
    cases ho : Lib.occAt (E rs) (E ws) j with
    | false => rfl
    | true =>
      obtain ⟨k, hk, _, hq⟩ := occ_E ws rs h1 h2 hw j ho
      exact absurd hq (pos_none ws rs hp k hk)
  | some k =>
    obtain ⟨p1, p2, p3⟩ := pos_some ws rs k hp
    refine Lib.index_first ?_ ?_ ?_
    · have := congrArg List.length (E_split rs k)
      rw [List.length_append] at this
      omega
    · unfold Lib.occAt
      rw [E_drop]
      exact List.isPrefixOf_iff_prefix.2 ((prefix_E _ _ h1 (fun r hr => h2 r (List.mem_of_mem_drop hr))).2 p2)
    · intro j hj
      cases ho : Lib.occAt (E rs) (E ws) j with
      | false => rfl
      | true =>
        obtain ⟨i, hi, rfl, hq⟩ := occ_E ws rs h1 h2 hw j ho
        by_cases hik : i < k
        · exact absurd hq (p3 i hik)
        · by_cases e : i = k
          · subst e; omega
          · have := E_mono rs (j := k) (k := i) (by omega) (by omega)
            omega
theorem count_rs (s : ByteArray) : ∀ f p : Nat, Lib.runeCountFrom s f p = (Txt.rs s f p).length
  | 0, _ => rfl
  | f + 1, p => by
    unfold Lib.runeCountFrom Txt.rs
    split
    · rw [count_rs s f, List.length_cons]; omega
    · rfl
theorem count_E (l : List Int) (h : ∀ r ∈ l, okRune r) (s : ByteArray) (hs : s.data.toList = E l) : Lib.runeCount s = l.length := by
  unfold Lib.runeCount
  rw [count_rs]
  show (runes s).length = _
  rw [Txt.runes_rn, hs]
  clear hs
  induction l with
  | nil => rfl
  | cons r t ih => rw [E_cons, Txt.rn_encode r (h r (List.mem_cons_self ..)), List.length_cons, List.length_cons, ih (fun x hx => h x (List.mem_cons_of_mem _ hx))]
end Cpy
end Go.Proofs.YtlodmffiengnaaaDoor

/- Package copying: find, in a line. -/
namespace Go.Proofs.YtlodmffiengnaaaDoor
open Go.ChangeShapes Go.WideShapes Go.ChangeAt Go.RowKit Go.Maps Go.Sort
namespace Cpy
open Txt (runes rn wd spotsL colsL cleanL bs okRune Tab)
/-- The library's variable that strings.Index reads. -/
def MaxAt (w : World) : Prop := ∃ m, w.cell? ⟨1, 0, none⟩ = some (.int .i64 m)
theorem MaxAt.ck {w w' : World} (h : MaxAt w) (b : CK w w') : MaxAt w' := by
  obtain ⟨m, hm⟩ := h
  exact ⟨m, b _ _ _ hm⟩
theorem MaxAt.below {w w' : World} (h : MaxAt w) (b : Below w.heap.size w w') : MaxAt w' := h.ck (CK.below b)
theorem index_ix (s sub : ByteArray) (w : World) (h : MaxAt w) (hs : s.size < 4294967281) :
    Calls Tryd.prog 60 #[.string s, .string sub] w fun e w' => e = .returned (.int .i64 (Lib.index s.data.toList sub.data.toList)) ∧ w' = w := by
  obtain ⟨m, hm⟩ := h
  exact Tryd.strings_Index s sub m w hs hm
theorem spots_ok : ∀ (l : List (Int × Nat)) (c : Int), (∀ x ∈ l, okRune x.1) → ∀ x ∈ spotsL l c, okRune x.1
  | [], _, _, x, hx => by simp [spotsL] at hx
  | y :: t, c, h, x, hx => by
    have ht : ∀ z ∈ t, okRune z.1 := fun z hz => h z (List.mem_cons_of_mem _ hz)
    unfold spotsL at hx
    split at hx
    · rcases List.mem_cons.1 hx with rfl | hx
      · exact h y (List.mem_cons_self ..)
      · exact spots_ok t _ ht x hx
    · exact spots_ok t _ ht x hx
theorem sp_ok (s : ByteArray) : ∀ x ∈ sp s, okRune x.1 := spots_ok _ _ (runes_ok s)
/-- The column where runes stand first, from the i-th rune on; -1: nowhere. -/
def findM (S : List (Int × Int)) (ws : List Int) (i : Nat) : Int :=
  match pos ws ((S.map (·.1)).drop i) with | none => -1 | some k => (S.map (·.2)).getD (i + k) 0
theorem w64_add {a b : Nat} (h : a + b ≤ 1000000) : wrap64 ((a : Int) + (b : Int)) = ((a + b : Nat) : Int) := by unfold wrap64; omega
theorem wrap_n {n : Nat} (h : n ≤ 1000000) : IntKind.i64.wrap (n : Int) = (n : Int) := by rw [IntWalk.i64_left, IntWalk.wrap64_in _ (by omega)]
theorem ne_of_ik {i k n d : Nat} (h : i + k < n) (hd : n ≤ d) : ¬ d = i := by omega
theorem ik_facts {i k n : Nat} (h : i + k < n) : (i : Int) + (k : Int) < (n : Int) ∧ (0 : Int) ≤ (i : Int) + (k : Int) := by omega
theorem ik_eq {i k n : Nat} (h : i + k = n) : (i : Int) + (k : Int) = (n : Int) := by omega
theorem below_iter (w : World) (s : ByteArray) (p : Nat) : Below w.heap.size w (w.iter s p) := (Below.refl _ w).alloc (Nat.le_refl _) _
set_option maxHeartbeats 8000000 in
set_option maxRecDepth 100000 in
theorem find_any (rv cv : Value) (S : List (Int × Int)) (sub : ByteArray) (ws : List Int) (i : Nat) (w : World) (h : LnAt w rv cv S) (hM : MaxAt w) (hn : S.length ≤ 1000000) (hi : i ≤ S.length)
    (hsub : sub.data.toList = E ws) (hws : ws ≠ []) (h1 : ∀ r ∈ ws, okRune r) (h2 : ∀ x ∈ S, okRune x.1) :
    Calls Tryd.prog 54 #[.agg #[rv, cv], .string sub, .int .i64 i] w fun e w' => e = .returned (.int .i64 (findM S ws i)) ∧ Below w.heap.size w w' := by
  have kb : Below w.heap.size w (w.alloc (.cells #[rv, cv] 82)) := (Below.refl _ _).alloc (Nat.le_refl _) _
  obtain ⟨c0, c1⟩ := box2 w rv cv 82
  have hl := h.below kb
  have hM2 := hM.below kb
  obtain ⟨⟨b, o, d, rfl, hd, hr⟩, a, c, rfl, hc⟩ := hl
  have ok2 : ∀ r ∈ (S.map (·.1)).drop i, okRune r := by
    intro r hr
    obtain ⟨x, hx, rfl⟩ := List.mem_map.1 (List.mem_of_mem_drop hr)
    exact h2 x hx
  have HIX := index_E ws ((S.map (·.1)).drop i) h1 ok2 hws
  have hsz : (runesBytes ((S.map (·.1)).drop i)).size < 4294967281 := by
    have := runesBytes_size_le ((S.map (·.1)).drop i)
    simp at this
    omega
  have HI := index_ix (runesBytes ((S.map (·.1)).drop i)) sub _ hM2 hsz
  rw [bytes_E, hsub, HIX] at HI
  have hcells : ∀ j, j < ((S.map (·.1)).drop i).length → (w.alloc (.cells #[.slice (some ⟨b, o, none⟩) S.length d, .slice a S.length c] 82)).cell? ((⟨b, o + i, none⟩ : Addr).add j) = some (.int .i32 (((S.map (·.1)).drop i).getD j 0)) := by
    intro j hj
    rw [Addr.add_mid, Nat.add_assoc]
    have hj2 : i + j < (S.map (·.1)).length := by simp at hj ⊢; omega
    refine (hr (i + j) _ (List.getElem?_eq_getElem hj2)).trans ?_
    rw [List.getD_eq_getElem?_getD, List.getElem?_drop, List.getElem?_eq_getElem hj2]
    rfl
  have HCV := fun cap => run_convert_runes (P := Tryd.prog) (w.alloc (.cells #[.slice (some ⟨b, o, none⟩) S.length d, .slice a S.length c] 82)) 48 9 21 ⟨b, o + i, none⟩ (S.length - i) cap ((S.map (·.1)).drop i) (by simp) (by kernel_rfl) (by kernel_rfl) (by kernel_rfl) hcells
  rw [List.take_of_length_le (by simp)] at HCV
  have HCV2 := fun (h0 : S.length - i = 0) => run_convert_runes (P := Tryd.prog) (w.alloc (.cells #[.slice (some ⟨b, o, none⟩) S.length d, .slice a S.length c] 82)) 48 9 21 ⟨b, o, none⟩ (S.length - i) 0 ((S.map (·.1)).drop i) (by simp) (by kernel_rfl) (by kernel_rfl) (by kernel_rfl) (by intro j hj; simp at hj; omega)
  rw [List.take_of_length_le (by simp)] at HCV2
  have hil : (i : Int) ≤ (S.length : Int) := by omega
  have hid : (i : Int) ≤ (d : Int) := by omega
  obtain ⟨R, hR⟩ : ∃ R, findM S ws i = R := ⟨_, rfl⟩
  rw [hR]
  unfold findM at hR
  have HRB : Hid ((runesBytes ((S.map (·.1)).drop i)).data.toList = E ((S.map (·.1)).drop i)) := bytes_E _
  have HOK : Hid (∀ r ∈ (S.map (·.1)).drop i, okRune r) := ok2
  generalize hrest : runesBytes ((S.map (·.1)).drop i) = rest at *
  cases hp : pos ws ((S.map (·.1)).drop i) with
  | none =>
    rw [hp] at hR HI
    simp only [] at hR HI
    subst hR
    clear HIX hcells hr hc hp hrest
    by_cases hdi : d = i
    · have hcv2 := HCV2 (by omega)
      rw [show S.length - i = 0 by omega] at hcv2
      subst hdi
      clear HCV2 HCV
      go_enter Tryd.func54, Tryd.ntmps54
      go_wp2_with fail
      refine HI.mono ?_
      rintro e W1 ⟨rfl, rfl⟩
      go_wp2_with fail
      go_ret
      exact ⟨rfl, kb⟩
    · clear HCV2
      go_enter Tryd.func54, Tryd.ntmps54
      go_wp2_with fail
      refine HI.mono ?_
      rintro e W1 ⟨rfl, rfl⟩
      go_wp2_with fail
      go_ret
      exact ⟨rfl, kb⟩
  | some k =>
    obtain ⟨p1, _, _⟩ := pos_some _ _ _ hp
    rw [hp] at hR HI
    simp only [] at hR HI
    have hne : S ≠ [] := by rintro rfl; simp at p1
    obtain ⟨cb, co, rfl, hc⟩ := hc.resolve_left hne
    have hik : i + k < (S.map (·.2)).length := by simp at p1 ⊢; omega
    have q := hc (i + k) _ (List.getElem?_eq_getElem hik)
    rw [List.getD_eq_getElem?_getD, List.getElem?_eq_getElem hik] at hR
    simp only [Option.getD_some] at hR
    rw [hR] at q
    have hlen2 : (E ((S.map (·.1)).drop i)).length = rest.size := by rw [← HRB.out]; exact (Array.length_toList)
    have hle : (E (((S.map (·.1)).drop i).take k)).length ≤ rest.size := by
      rw [← hlen2]
      have := congrArg List.length (E_split ((S.map (·.1)).drop i) k)
      rw [List.length_append] at this
      omega
    have HCN : ∀ W, Calls Tryd.prog 61 #[.string (rest.extract 0 (E (((S.map (·.1)).drop i).take k)).length)] W fun e w' => e = .returned (.int .i64 k) ∧ Below W.heap.size W w' := by
      intro W
      refine (Tryd.utf8_RuneCountInString _ W (by rw [ByteArray.size_extract]; omega)).mono ?_
      rintro e w' ⟨rfl, p, rfl⟩
      refine ⟨ret_i ?_, below_iter _ _ _⟩
      rw [count_E (((S.map (·.1)).drop i).take k) (fun r hr => HOK.out r (List.mem_of_mem_take hr))]
      · rw [List.length_take, Nat.min_eq_left (by omega)]
      · rw [ByteArray.data_extract, Array.toList_extract, List.extract_eq_take_drop, List.drop_zero, Nat.sub_zero, HRB.out, E_take]
    generalize (E (((S.map (·.1)).drop i).take k)).length = m at *
    have im0 : (0 : Int) ≤ (m : Int) := Int.natCast_nonneg _
    have im1 : ¬ (m : Int) < 0 := Int.not_lt.2 im0
    have im2 : (m : Int) ≤ (rest.size : Int) := Int.ofNat_le.2 hle
    have hikS : i + k < S.length := by rw [List.length_map] at hik; exact hik
    have hdi : ¬ d = i := ne_of_ik hikS hd
    have HR : Hid ((S.map (·.2))[i + k] = R) := hR
    clear hR
    have HK : Hid (i + k < S.length) := hikS
    have hw := w64_add (Nat.le_trans (Nat.le_of_lt hikS) hn)
    obtain ⟨ikl2, ik02⟩ := ik_facts hikS
    obtain ⟨n9, h9⟩ : ∃ n9, i + k = n9 := ⟨_, rfl⟩
    have ikn2 := ik_eq h9
    have ikl := Int.ofNat_lt.2 hikS
    have q9 := q
    rw [h9] at hw ikl q9
    clear q
    have HK9 : Hid (i + k = n9) := h9
    have hw9 := wrap_n (n := n9) (Nat.le_trans (Nat.le_of_lt (h9 ▸ hikS)) hn)
    clear h9 hikS
    clear HIX hcells hr hc hp hrest HR hik hlen2 p1 HRB HOK HCV2 hsz
    go_enter Tryd.func54, Tryd.ntmps54
    go_wp2_with fail
    refine HI.mono ?_
    rintro e W1 ⟨rfl, rfl⟩
    go_upto_region 5 with fail
    have g1 := fun d os => cell_regrown c1 d os
    have gq := fun d os => cell_regrown q9 d os
    have K1 : Hid (∀ dd os, Calls Tryd.prog 61 #[.string (rest.extract 0 m)] (grow (redrawn (w.alloc (.cells #[.slice (some ⟨b, o, none⟩) S.length d, .slice (some ⟨cb, co, none⟩) S.length c] 82)) dd) os) fun e w'' => e = .returned (.int .i64 k) ∧ ∃ p : Regrown, w'' = grow (redrawn (w.alloc (.cells #[.slice (some ⟨b, o, none⟩) S.length d, .slice (some ⟨cb, co, none⟩) S.length c] 82)) p.d) p.os) := fun dd os => Calls.regrown_of (HCN _)
    refine wp_region_quiet_below (by kernel_rfl) (by kernel_rfl) ?_
    repeat (quiet_step (first | (go_at_call 61; exact K1.out _ _)))
    refine wpQuiet_nil ?_
    intro _ hw'
    obtain ⟨⟨dq, os⟩, hw''⟩ := hw'
    subst hw''
    have kR := kb.trans ((below_regrown (w.alloc (.cells #[.slice (some ⟨b, o, none⟩) S.length d, .slice (some ⟨cb, co, none⟩) S.length c] 82)) dq os).mono kb.size)
    go_wp2_with fail
    go_ret
    exact ⟨rfl, kR⟩
end Cpy
end Go.Proofs.YtlodmffiengnaaaDoor

/- Package copying: lines and a place out of what the row reads. -/
namespace Go.Proofs.YtlodmffiengnaaaDoor
open Go.ChangeShapes Go.WideShapes Go.ChangeAt Go.RowKit
open Go.Shelf
namespace Cpy
variable {H : Type} {enc : TypeId × Value → H} {W w : World} {base : Nat} {spare : Nat → Bool} {held : Bool}
set_option maxRecDepth 100000 in
theorem open_mark {fuel : Nat} {vs : List Value} {y : DataW H × List MemPlace} (h : DataW.trod enc Tryd.prog W base spare held fuel 24 vs = some y) :
    ∃ a b : Int, vs = [.int .i64 a, .int .i64 b] := by
  obtain ⟨y0, y1, n, hy, hl, e0, e1⟩ := trod_struct2 Tryd.underlying24 h
  rw [show Tryd.prog.cellsOf 24 = 2 by kernel_rfl] at hl
  simp only [show Tryd.prog.cellsOf 3 = 1 by kernel_rfl] at e0 e1
  obtain ⟨f, k0, h0, w0⟩ := DataW.trod_int Tryd.underlying3 e0
  obtain ⟨b, k1, h1, w1⟩ := DataW.trod_int Tryd.underlying3 e1
  match vs, hl with
  | [a, b'], _ =>
    simp at k0 k1
    subst k0 k1
    exact ⟨f, b, rfl⟩
set_option maxRecDepth 100000 in
theorem open_place {r : Reach} {b0 : Nat} {v : Value} {d : DataW H} {p : List MemPlace} (hv : Value.okWide Tryd.prog W r b0 26 v) (h : DataW.Trod enc Tryd.prog W 0 (fun _ => true) true 26 v d p) :
    ∃ k : Cp, v = .agg k.cells := by
  obtain ⟨cs, rfl, hsz⟩ := okWide_struct Tryd.underlying26 hv
  obtain ⟨fuel, hf⟩ := h
  obtain ⟨y0, y1, y2, n, hy, hl, e0, e1, e2⟩ := Deep.trod_struct3 Tryd.underlying26 hf
  rw [show Tryd.prog.cellsOf 26 = 5 by kernel_rfl] at hl
  simp only [show Tryd.prog.cellsOf 24 = 2 by kernel_rfl] at e0 e1
  simp only [show Tryd.prog.cellsOf 4 = 1 by kernel_rfl] at e2
  obtain ⟨a, b, k0⟩ := open_mark e0
  obtain ⟨c, d', k1⟩ := open_mark e1
  obtain ⟨o, k2, _⟩ := DataW.trod_bool Tryd.underlying4 e2
  refine ⟨⟨a, b, c, d', o⟩, ?_⟩
  have hcs : cs.toList = [.int .i64 a, .int .i64 b, .int .i64 c, .int .i64 d', .bool o] := by
    simp only [Value.cells] at hl k0 k1 k2
    match hc : cs.toList, hl with
    | [v0, v1, v2, v3, v4], _ =>
      rw [hc] at k0 k1 k2
      simp at k0 k1 k2
      obtain ⟨rfl, rfl⟩ := k0
      obtain ⟨rfl, rfl⟩ := k1
      subst k2
      rfl
  rw [← Array.toArray_toList (xs := cs), hcs]
  rfl
set_option maxRecDepth 100000 in
theorem open_lines {b0 : Nat} {v : Value} {d : DataW H} {p : List MemPlace} (hval : Value.okWide Tryd.prog W .any b0 22 v) (h : DataW.Trod enc Tryd.prog W 0 (fun _ => true) true 22 v d p) :
    ∃ L : List ByteArray, LsAt W v L := by
  obtain ⟨a0, len, cap, rfl⟩ := okWide_slice Tryd.underlying22 hval
  obtain ⟨fuel, hf⟩ := h
  rcases open_strings Tryd.underlying22 Tryd.underlying9 (by kernel_rfl) hf with ⟨hcs, hx⟩ | ⟨a, len', cap', zs, hcs, _, hl, hm, hz, hx, hcell, hwz⟩
  · simp [Value.cells] at hcs
    obtain ⟨rfl, rfl, rfl⟩ := hcs
    exact ⟨[], _, _, rfl, .inl rfl⟩
  · simp [Value.cells] at hcs
    obtain ⟨rfl, rfl, rfl⟩ := hcs
    simp only [if_true] at hz
    have hlen : (zs.take len).length = len := by simp; omega
    refine ⟨zs.take len, some a, cap, by rw [hlen], ?_⟩
    by_cases h0 : len = 0
    · left
      exact List.length_eq_zero_iff.1 (by omega)
    · right
      obtain ⟨b, off, spot⟩ := a
      have hspot : spot = none := by simpa [Addr.add] using World.cell?_spot (hcell 0 (by omega))
      subst hspot
      refine ⟨b, off, rfl, fun j x hj => ?_⟩
      obtain ⟨hjl, _⟩ := List.getElem?_eq_some_iff.1 hj
      have := hcell j (by omega)
      rw [add_plain] at this
      rw [this, List.getD_eq_getElem?_getD]
      rw [List.getElem?_take_of_lt (by omega)] at hj
      rw [hj]
      rfl
/-- The library's variable, out of the model's shape of memory. -/
theorem max_of {w : World} (h : w.ShapedOpen Tryd.prog) : MaxAt w :=
  cell_of_shapedOpen_int (t := 3) (zero := #[.int .i64 0]) h (of_decide_eq_true (by kernel_rfl)) (by kernel_rfl) rfl (by kernel_rfl) (by kernel_rfl) (by kernel_rfl)
end Cpy
end Go.Proofs.YtlodmffiengnaaaDoor

/- Package copying: what is pure: what stands between two places. -/
namespace Go.Proofs.YtlodmffiengnaaaDoor
open Go.ChangeShapes Go.WideShapes Go.ChangeAt Go.RowKit Go.Maps
namespace Cpy
open Txt (runes rn wd spotsL colsL cleanL bs okRune wideL wideS)
theorem wideL_nonneg : ∀ l : List (Int × Nat), 0 ≤ wideL l
  | [] => by simp [wideL]
  | x :: t => by
    have := wideL_nonneg t
    have := Txt.wd_range x.1
    unfold wideL
    omega
theorem spots_wide : ∀ (l : List (Int × Nat)) (c : Int), ∀ x ∈ spotsL l c, x.2 < c + wideL l
  | [], _, x, hx => by simp [spotsL] at hx
  | y :: t, c, x, hx => by
    have h0 := wideL_nonneg t
    have hr := Txt.wd_range y.1
    unfold spotsL at hx
    unfold wideL
    by_cases hw : 0 < wd y.1
    · rw [if_pos hw] at hx
      rcases List.mem_cons.1 hx with rfl | hx
      · simp only []; omega
      · have := spots_wide t _ x hx
        omega
    · rw [if_neg hw] at hx
      have := spots_wide t c x hx
      omega
theorem spots_first : ∀ (l : List (Int × Nat)) (c : Int), 0 < wideL l → ∃ r t, spotsL l c = (r, c) :: t
  | [], _, h => by simp [wideL] at h
  | y :: t, c, h => by
    have hr := Txt.wd_range y.1
    unfold wideL at h
    unfold spotsL
    by_cases hw : 0 < wd y.1
    · rw [if_pos hw]; exact ⟨_, _, rfl⟩
    · rw [if_neg hw]; exact spots_first t c (by omega)
theorem atI_all (cs : List Int) (x : Int) (h : ∀ c ∈ cs, c ≤ x) : atI cs x = (cs.length : Int) - 1 := by
  unfold atI
  rw [List.countP_eq_length.2 (fun c hc => by simpa using h c hc)]
theorem atI_mono (cs : List Int) {x x' : Int} (h : x ≤ x') : atI cs x ≤ atI cs x' := by
  unfold atI
  have := List.countP_mono_left (l := cs) (p := fun c => decide (c ≤ x)) (q := fun c => decide (c ≤ x')) (fun c _ hc => by simp at hc ⊢; omega)
  omega
theorem atI_zero (s : ByteArray) (x : Int) (h : 0 < wideS s) (hx : 0 ≤ x) : 0 ≤ atI (cols s) x := by
  obtain ⟨r, t, he⟩ := spots_first (runes s) 0 h
  unfold atI cols sp
  rw [he, List.map_cons, List.countP_cons]
  simp [hx]
theorem atI_wide (s : ByteArray) (x : Int) (h : wideS s ≤ x) : atI (cols s) x = ((sp s).length : Int) - 1 := by
  rw [← cols_len]
  refine atI_all _ _ fun c hc => ?_
  obtain ⟨y, hy, rfl⟩ := List.mem_map.1 hc
  have := spots_wide (runes s) 0 y hy
  unfold wideS at h
  omega
/-- From which rune on, and up to which. -/
def frM (s : ByteArray) (first : Bool) (ax : Int) : Nat := if first then (if wideS s ≤ ax then (sp s).length else (atI (cols s) ax).toNat) else 0
def toM (s : ByteArray) (last : Bool) (bx : Int) : Nat := if last then (atI (cols s) bx + 1).toNat else (sp s).length
theorem toM_le (s : ByteArray) (last : Bool) (bx : Int) : toM s last bx ≤ (sp s).length := by
  unfold toM
  have := atI_lt (cols s) bx
  rw [cols_len] at this
  split <;> omega
theorem frM_le (s : ByteArray) (f l : Bool) (ax bx : Int) (h : f = true → l = true → ax ≤ bx) : frM s f ax ≤ toM s l bx := by
  unfold frM toM
  have h1 := atI_lt (cols s) ax
  have h2 := atI_ge (cols s) bx
  rw [cols_len] at h1
  cases f with
  | false => simp
  | true =>
    simp only [if_true]
    cases l with
    | false => simp only [Bool.false_eq_true, if_false]; split <;> omega
    | true =>
      have hm := atI_mono (cols s) (h rfl rfl)
      simp only [if_true]
      by_cases hw : wideS s ≤ ax
      · have := atI_wide s bx (by have := h rfl rfl; omega)
        rw [if_pos hw]
        omega
      · rw [if_neg hw]; omega
def partM (L : List ByteArray) (ax : Int) (ay : Nat) (bx : Int) (by' : Nat) (y : Nat) : List Int :=
  (((sp (ln L y)).map (·.1)).drop (frM (ln L y) (y == ay) ax)).take (toM (ln L y) (y == by') bx - frM (ln L y) (y == ay) ax)
def partsM (L : List ByteArray) (ax : Int) (ay : Nat) (bx : Int) (by' : Nat) (n : Nat) : List ByteArray :=
  (List.range n).map fun i => runesBytes (partM L ax ay bx by' (ay + i))
theorem partsM_len (L : List ByteArray) (ax : Int) (ay : Nat) (bx : Int) (by' : Nat) (n : Nat) : (partsM L ax ay bx by' n).length = n := by unfold partsM; simp
theorem partsM_succ (L : List ByteArray) (ax : Int) (ay : Nat) (bx : Int) (by' : Nat) (n : Nat) : partsM L ax ay bx by' (n + 1) = partsM L ax ay bx by' n ++ [runesBytes (partM L ax ay bx by' (ay + n))] := by
  unfold partsM
  rw [List.range_succ, List.map_append, List.map_singleton]
/-- What stands between. -/
def betM (L : List ByteArray) (ax : Int) (ay : Nat) (bx : Int) (by' : Nat) : ByteArray := bs (Lib.join ((partsM L ax ay bx by' (by' + 1 - ay)).map (·.data.toList)) [10])
end Cpy
end Go.Proofs.YtlodmffiengnaaaDoor
