/- The walk of the reference's WidthOf: it tells Txt.wd, for every int32. -/
import Derived.Test.YtdmooeoklcjplaaDoorPartD
import Derived.Great.Walk
import Derived.Test.YtdmooeoklcjplaaDoorPartI
import Derived.Test.YtdmooeoklcjplaaDoorPartH
import Derived.Test.YtdmooeoklcjplaaDoorPartF
import Derived.Lib.SmallJoins
import Derived.Lib.LaidTab
namespace Go.Proofs.YtdmooeoklcjplaaDoor
open Go.ChangeShapes Go.WideShapes Go.ChangeAt Go.RowKit
namespace Txt

def cell2 (x : Int × Int) : List Value := [.int .i32 x.1, .int .i64 x.2]
def edgeCells : Array Value := (edges.flatMap cell2).toArray
theorem flat2 : ∀ (l : List (Int × Int)) (k : Nat) (x : Int × Int), l[k]? = some x → (l.flatMap cell2)[k * 2]? = some (.int .i32 x.1) ∧ (l.flatMap cell2)[k * 2 + 1]? = some (.int .i64 x.2)
  | [], k, x, h => by simp at h
  | y :: t, 0, x, h => by
    obtain rfl := Option.some.inj h
    exact ⟨rfl, rfl⟩
  | y :: t, k + 1, x, h => by
    have := flat2 t k x (by simpa using h)
    rw [show (k + 1) * 2 = k * 2 + 1 + 1 from by omega]
    simpa [List.flatMap_cons, cell2] using this
theorem edges_at (k : Nat) (hk : k < 41) : ∃ a c : Int, edges.drop k = (a, c) :: edges.drop (k + 1) ∧ edgeCells[k * 2]? = some (.int .i32 a) ∧ edgeCells[k * 2 + 1]? = some (.int .i64 c) := by
  match h : edges.drop k with
  | [] => have := congrArg List.length h; simp [edges] at this; omega
  | (a, c) :: t =>
    have hx : edges[k]? = some (a, c) := by
      have := congrArg (fun l => l[0]?) h
      simpa using this
    have hf := flat2 edges k (a, c) hx
    refine ⟨a, c, ?_, by simpa [edgeCells] using hf.1, by simpa [edgeCells] using hf.2⟩
    rw [← List.drop_drop, h]; rfl

set_option maxHeartbeats 4000000 in
theorem widthOf_any (r : Int) (w : World) :
    Calls Tryd.prog 19 #[.int .i32 r] w fun e w' => e = .returned (.int .i64 (wd r)) ∧ Below w.heap.size w w' := by
  by_cases h0 : r < 0
  · have hw : wd r = 0 := by unfold wd; rw [if_pos (Or.inl h0)]
    rw [hw]
    clear hw
    go_enter Tryd.func19, Tryd.ntmps19
    go_wp2
    go_ret
    exact ⟨rfl, Below.refl _ _⟩
  · by_cases h1 : 1114111 < r
    · have hw : wd r = 0 := by unfold wd; rw [if_pos (Or.inr h1)]
      rw [hw]
      clear hw
      go_enter Tryd.func19, Tryd.ntmps19
      go_wp2
      go_ret
      exact ⟨rfl, Below.refl _ _⟩
    · rw [wd_edge r (by omega) (by omega)]
      go_enter Tryd.func19, Tryd.ntmps19
      go_wp2_with (refine Great.wpList_buildSliceTo rfl 65 64 41 _ rfl _ rfl (some 53) rfl Tryd.underlying65 edgeCells (by kernel_rfl) ?_)
      have hb0 : Below (w.heap.size + 1) (w.alloc (.cells edgeCells 64)) (w.alloc (.cells edgeCells 64)) := Below.refl _ _
      have HB : Hid (Below w.heap.size w (w.alloc (.cells edgeCells 64))) := (Below.refl _ _).alloc (Nat.le_refl _) _
      have HE : Hid ((w.alloc (.cells edgeCells 64)).heap[w.heap.size]? = some (.cells edgeCells 64)) := heap_alloc_new _ _
      have hS : w.heap.size + 1 ≤ (w.alloc (.cells edgeCells 64)).heap.size := by simp
      generalize w.alloc (.cells edgeCells 64) = W at *
      generalize hB : w.heap.size = B at *
      have HQ : Hid (w.heap.size = B) := hB
      clear hB
      go_loopg [3, 55] 41 (fun g acc s wr => ∃ (k : Nat) (c : Int), k ≤ 41 ∧ 41 - k ≤ g ∧ s = .int .i64 k ∧ acc = .int .i64 c ∧ Below (B + 1) W wr ∧ edge r (edges.drop k) c = edge r edges 0)
      case atStart => exact ⟨0, 0, Nat.zero_le _, by omega, rfl, rfl, hb0, rfl⟩
      case round =>
        obtain ⟨k, c, hk, hg, rfl, rfl, hb, hl⟩ := hrel
        have HL : Hid (edge r (edges.drop k) c = edge r edges 0) := hl
        clear hl
        by_cases hlt : k < 41
        · obtain ⟨a, c2, hd, hc1, hc2⟩ := edges_at k hlt
          have g1 : wr.cell? ⟨B, k * 2, none⟩ = some (.int .i32 a) := by rw [hb.cell (by show B < B + 1; omega), cell_of_row _ _ _ _ _ _ HE.out]; exact hc1
          have g2 : wr.cell? ⟨B, k * 2 + 1, none⟩ = some (.int .i64 c2) := by rw [hb.cell (by show B < B + 1; omega), cell_of_row _ _ _ _ _ _ HE.out]; exact hc2
          clear hc1 hc2
          have HD : Hid (edges.drop k = (a, c2) :: edges.drop (k + 1)) := hd
          clear hd
          have hsz := hb.size
          go_wp2_with fail
          · rename_i hra
            go_roundg (41 - (k + 1))
            case measure => omega
            case rel => exact ⟨k + 1, c2, by omega, by omega, by go_num, rfl, hb.alloc (by omega) _, by rw [← HL.out, HD.out]; simp only [edge]; rw [if_pos hra]⟩
          · rename_i hra
            go_roundg (41 - (k + 1))
            case measure => omega
            case rel => exact ⟨k + 1, c, by omega, by omega, by go_num, rfl, hb.alloc (by omega) _, by rw [← HL.out, HD.out]; simp only [edge]; rw [if_neg (by omega)]⟩
        · have : k = 41 := by omega
          subst this
          go_wp2_with fail
          go_ret
          exact ⟨ret_int (by rw [← HL.out]; rfl), by rw [HQ.out]; exact HB.out.trans (hb.mono (by omega))⟩
end Txt
end Go.Proofs.YtdmooeoklcjplaaDoor

/- The reference's IsKey. (Written by gen_keysrefi.py.) -/
namespace Go.Proofs.YtdmooeoklcjplaaDoor
open Go.ChangeShapes Go.WideShapes Go.ChangeAt Go.RowKit Go.Maps
namespace Kys
open Txt (wd bs)
theorem seqT_wf : ∀ p ∈ seqT, Wf p.1 := by decide +kernel
theorem sq_run {W : World} {b : Nat} (h : SeqAt W b seqT) (kind r n : Int) (hk : Wf ⟨kind, r, n, 0⟩) :
    (Instr.lookup 45 (.map (some b)) (.agg #[.int .i64 kind, .int .i32 r, .int .i64 n, .int .i64 0]) false).run Tryd.prog W = .ok (.string (bs (sq ⟨kind, r, n, 0⟩))) W := h.lookup seqT_wf ⟨kind, r, n, 0⟩ hk
theorem by_drew {W W' : World} {b : Nat} {o : Obj} (h : W.heap[b]? = some o) (hb : Below W.drew.heap.size W.drew W') : W'.heap[b]? = some o := by_block (W := W.drew) h hb
theorem below_drew {w W W' : World} (h : Below w.heap.size w W) (hb : Below W.drew.heap.size W.drew W') : Below w.heap.size w W' := h.drew.trans (hb.mono (show w.heap.size ≤ W.drew.heap.size from h.size))
theorem wf_bare {k : Ky} (h : Wf k) : Wf ⟨k.kind, k.r, k.n, 0⟩ := ⟨h.1, h.2.1, h.2.2.1, by show -9223372036854775808 ≤ (0 : Int) ∧ (0 : Int) ≤ 9223372036854775807; decide⟩
theorem bs_ne {l : List UInt8} (h : l ≠ []) : (bs l).toList.isEmpty = false := by
  rw [Lib.toList_data]
  cases l with
  | nil => exact absurd rfl h
  | cons a r => rfl
theorem him (r : Int) (h1 : 97 ≤ r) (h2 : r ≤ 122) : (decide (0 ≤ Lib.indexByte [104, 105, 109] r.toNat.toUInt8)) = decide (r = 104 ∨ r = 105 ∨ r = 109) := by
  have : ∀ i ∈ List.range 128, (decide (0 ≤ Lib.indexByte [104, 105, 109] i.toUInt8)) = decide ((i : Int) = 104 ∨ (i : Int) = 105 ∨ (i : Int) = 109) := by decide +kernel
  have := this r.toNat (List.mem_range.2 (by omega))
  rwa [show ((r.toNat : Nat) : Int) = r by omega] at this
/-- What lies in memory where the table is asked. -/
theorem two_blocks (w : World) (a b : Array Value) (t : TypeId) :
    Below w.heap.size w ((w.alloc (.cells a t)).alloc (.cells b t)) ∧ ((w.alloc (.cells a t)).alloc (.cells b t)).heap[w.heap.size]? = some (.cells a t (0, 0)) ∧ ((w.alloc (.cells a t)).alloc (.cells b t)).heap[w.heap.size + 1]? = some (.cells b t (0, 0)) := by
  refine ⟨((Below.refl _ _).alloc (Nat.le_refl _) _).alloc (by simp) _, by_block (heap_alloc_new w (.cells a t)) ((Below.refl _ _).alloc (Nat.le_refl _) _), ?_⟩
  rw [show w.heap.size + 1 = (w.alloc (.cells a t)).heap.size by simp]
  exact heap_alloc_new _ _
set_option maxHeartbeats 4000000 in
set_option maxRecDepth 100000 in
theorem isKey_low (kind r n held : Int) (w : World) (h : held < 0) :
    Calls Tryd.prog 7 #[kyv ⟨kind, r, n, held⟩] w fun e w' => e = .returned (.bool false) ∧ Below w.heap.size w w' := by
  unfold kyv
  go_enter Tryd.func7, Tryd.ntmps7
  go_wp2_with fail
  all_goals go_ret
  all_goals exact ⟨rfl, (Below.refl _ _).alloc (Nat.le_refl _) _⟩
set_option maxHeartbeats 4000000 in
set_option maxRecDepth 100000 in
theorem isKey_high (kind r n held : Int) (w : World) (h : 7 < held) :
    Calls Tryd.prog 7 #[kyv ⟨kind, r, n, held⟩] w fun e w' => e = .returned (.bool false) ∧ Below w.heap.size w w' := by
  have h0 : ¬ held < 0 := by omega
  unfold kyv
  go_enter Tryd.func7, Tryd.ntmps7
  go_wp2_with fail
  all_goals go_ret
  all_goals exact ⟨rfl, (Below.refl _ _).alloc (Nat.le_refl _) _⟩
set_option maxHeartbeats 4000000 in
set_option maxRecDepth 100000 in
theorem isKey_sq (kind r n held : Int) (w : World) (hk : Wf ⟨kind, r, n, held⟩) (h0 : 0 ≤ held) (h7 : held ≤ 7) (hs : isSq ⟨kind, r, n, held⟩) :
    Calls Tryd.prog 7 #[kyv ⟨kind, r, n, held⟩] w fun e w' => e = .returned (.bool true) ∧ Below w.heap.size w w' := by
  have hne := bs_ne (sq_ne ⟨kind, r, n, 0⟩ hs)
  have HL := fun (W : World) (b : Nat) (h : SeqAt W b seqT) => sq_run h kind r n (wf_bare hk)
  clear hk hs
  generalize bs (sq ⟨kind, r, n, 0⟩) = sb at *
  have hd0 : ¬ held < 0 := by omega
  have hd7 : ¬ 7 < held := by omega
  unfold kyv
  go_enter Tryd.func7, Tryd.ntmps7
  go_upto_region 5 with fail
  obtain ⟨kb0, z0, z1⟩ := two_blocks w #[.int .i64 kind, .int .i32 r, .int .i64 n, .int .i64 held] #[.int .i64 kind, .int .i32 r, .int .i64 n, .int .i64 0] 23
  generalize (w.alloc (.cells #[.int .i64 kind, .int .i32 r, .int .i64 n, .int .i64 held] 23)).alloc (.cells #[.int .i64 kind, .int .i32 r, .int .i64 n, .int .i64 0] 23) = W0 at *
  obtain ⟨⟨c0, c1, c2, c3⟩, _⟩ := four_cells z1
  go_region_with (go_at_call 18; refine (sequences_any _).mono ?_; rintro e W1 ⟨rfl, hS, hB, hlt⟩; have y0 := by_drew z1 hB; obtain ⟨⟨d0, d1, d2, d3⟩, _⟩ := four_cells y0; have hl := HL W1 W0.heap.size hS)
  all_goals have zz := by_drew z0 hB
  all_goals obtain ⟨⟨e0, e1, e2, e3⟩, _⟩ := four_cells zz
  all_goals have kb1 := below_drew kb0 hB
  all_goals clear c0 c1 c2 c3 d0 d1 d2 d3 hS hB hlt HL y0 z0 z1 hl kb0
  all_goals go_wp2_with fail
  all_goals go_ret
  all_goals exact ⟨rfl, kb1⟩
set_option maxHeartbeats 4000000 in
set_option maxRecDepth 100000 in
theorem isKey_n (kind r n held : Int) (w : World) (hk : Wf ⟨kind, r, n, held⟩) (h0 : 0 ≤ held) (h7 : held ≤ 7) (hs : ¬ isSq ⟨kind, r, n, held⟩) (hn : n ≠ 0) :
    Calls Tryd.prog 7 #[kyv ⟨kind, r, n, held⟩] w fun e w' => e = .returned (.bool false) ∧ Below w.heap.size w w' := by
  have HL := fun (W : World) (b : Nat) (h : SeqAt W b seqT) => sq_run h kind r n (wf_bare hk)
  rw [show sq ⟨kind, r, n, 0⟩ = [] from sq_no _ (fun h => hs h), show bs ([] : List UInt8) = ⟨#[]⟩ from rfl] at HL
  clear hk
  have hd0 : ¬ held < 0 := by omega
  have hd7 : ¬ 7 < held := by omega
  have hn1 : (n != 0) = true := by simpa using hn
  clear hs hn
  unfold kyv
  go_enter Tryd.func7, Tryd.ntmps7
  go_upto_region 5 with fail
  obtain ⟨kb0, z0, z1⟩ := two_blocks w #[.int .i64 kind, .int .i32 r, .int .i64 n, .int .i64 held] #[.int .i64 kind, .int .i32 r, .int .i64 n, .int .i64 0] 23
  generalize (w.alloc (.cells #[.int .i64 kind, .int .i32 r, .int .i64 n, .int .i64 held] 23)).alloc (.cells #[.int .i64 kind, .int .i32 r, .int .i64 n, .int .i64 0] 23) = W0 at *
  obtain ⟨⟨c0, c1, c2, c3⟩, _⟩ := four_cells z1
  go_region_with (go_at_call 18; refine (sequences_any _).mono ?_; rintro e W1 ⟨rfl, hS, hB, hlt⟩; have y0 := by_drew z1 hB; obtain ⟨⟨d0, d1, d2, d3⟩, _⟩ := four_cells y0; have hl := HL W1 W0.heap.size hS)
  all_goals have zz := by_drew z0 hB
  all_goals obtain ⟨⟨e0, e1, e2, e3⟩, _⟩ := four_cells zz
  all_goals have kb1 := below_drew kb0 hB
  all_goals clear c0 c1 c2 c3 d0 d1 d2 d3 hS hB hlt HL y0 z0 z1 hl kb0
  all_goals go_wp2_with fail
  all_goals go_ret
  all_goals exact ⟨rfl, kb1⟩
set_option maxHeartbeats 4000000 in
set_option maxRecDepth 100000 in
theorem isKey_r (kind r held : Int) (w : World) (hk : Wf ⟨kind, r, 0, held⟩) (h0 : 0 ≤ held) (h7 : held ≤ 7) (h1 : kind ≠ 1) (hr : r ≠ 0) :
    Calls Tryd.prog 7 #[kyv ⟨kind, r, 0, held⟩] w fun e w' => e = .returned (.bool false) ∧ Below w.heap.size w w' := by
  have HL := fun (W : World) (b : Nat) (h : SeqAt W b seqT) => sq_run h kind r 0 (wf_bare hk)
  rw [show sq ⟨kind, r, 0, 0⟩ = [] from sq_no _ (fun h => by unfold isSq at h; simp only at h; omega), show bs ([] : List UInt8) = ⟨#[]⟩ from rfl] at HL
  clear hk
  have hd0 : ¬ held < 0 := by omega
  have hd7 : ¬ 7 < held := by omega
  have hk1 : (kind != 1) = true := by simpa using h1
  have hr1 : (r != 0) = true := by simpa using hr
  clear h1 hr
  unfold kyv
  go_enter Tryd.func7, Tryd.ntmps7
  go_upto_region 5 with fail
  obtain ⟨kb0, z0, z1⟩ := two_blocks w #[.int .i64 kind, .int .i32 r, .int .i64 0, .int .i64 held] #[.int .i64 kind, .int .i32 r, .int .i64 0, .int .i64 0] 23
  generalize (w.alloc (.cells #[.int .i64 kind, .int .i32 r, .int .i64 0, .int .i64 held] 23)).alloc (.cells #[.int .i64 kind, .int .i32 r, .int .i64 0, .int .i64 0] 23) = W0 at *
  obtain ⟨⟨c0, c1, c2, c3⟩, _⟩ := four_cells z1
  go_region_with (go_at_call 18; refine (sequences_any _).mono ?_; rintro e W1 ⟨rfl, hS, hB, hlt⟩; have y0 := by_drew z1 hB; obtain ⟨⟨d0, d1, d2, d3⟩, _⟩ := four_cells y0; have hl := HL W1 W0.heap.size hS)
  all_goals have zz := by_drew z0 hB
  all_goals obtain ⟨⟨e0, e1, e2, e3⟩, _⟩ := four_cells zz
  all_goals have kb1 := below_drew kb0 hB
  all_goals clear c0 c1 c2 c3 d0 d1 d2 d3 hS hB hlt HL y0 z0 z1 hl kb0
  all_goals go_wp2_with fail
  all_goals go_ret
  all_goals exact ⟨rfl, kb1⟩
end Kys
end Go.Proofs.YtdmooeoklcjplaaDoor

/- The reference's KeyName. (Written by gen_keysnameref.py.) -/
namespace Go.Proofs.YtdmooeoklcjplaaDoor
open Go.ChangeShapes Go.WideShapes Go.ChangeAt Go.RowKit Go.Maps
namespace Kys
open Txt (wd bs)
/-- The library's table of blanks lies there. -/
def SpTab (w : World) : Prop := Lib.TabIs Tryd.prog w "strings.asciiSpace" .u8 Lib.asciiSpaceTab
theorem SpTab.below {w w' : World} (h : SpTab w) (hb : Below w.heap.size w w') : SpTab w' := Joins.tab_stays (g := 2) (by kernel_rfl) h hb (Nat.le_refl _)
theorem dig_dec (j : Nat) (h : j < 100) : Lib.decDigits j = digB j := by
  unfold digB
  by_cases h1 : j < 10
  · rw [if_pos h1, Lib.decDigits_one h1]
  · rw [if_neg h1, Lib.decDigits_two h1 h]
def fieldsC : ByteArray := ⟨#[69, 110, 116, 101, 114, 32, 84, 97, 98, 32, 66, 83, 112, 97, 99, 101, 32, 69, 115, 99, 97, 112, 101, 32, 85, 112, 32, 68, 111, 119, 110, 32, 82, 105, 103, 104, 116, 32, 76, 101, 102, 116, 32, 72, 111, 109, 101, 32, 69, 110, 100, 32, 80, 97, 103, 101, 85, 112, 32, 80, 97, 103, 101, 68, 111, 119, 110, 32, 68, 101, 108, 101, 116, 101]⟩
theorem fields_is : Lib.fields fieldsC.data.toList = namesL.drop 2 := by decide +kernel
theorem fields_any (w : World) (h : SpTab w) : Calls Tryd.prog 30 #[.string fieldsC] w fun e w' => e = .returned (.slice (some ⟨w.heap.size, 0, none⟩) 13 13) ∧ w' = w.alloc (.cells (((namesL.drop 2).map fun l => Value.string ⟨l.toArray⟩).toArray) 9) := by
  have c := Tryd.strings_Fields fieldsC w (by decide) (by
    have : ∀ b ∈ fieldsC.data.toList, b.toNat < 128 := by decide +kernel
    exact fun j b hb => this b (List.mem_of_getElem? hb)) h
  rw [fields_is] at c
  exact c
theorem field_cell (W : World) (i : Nat) (hi : i < 13) : (W.alloc (.cells (((namesL.drop 2).map fun l => Value.string ⟨l.toArray⟩).toArray) 9)).cell? ⟨W.heap.size, i, none⟩ = some (.string (bs (namesL.getD (i + 2) []))) := by
  refine cell_of (heap_alloc_new W _) ?_
  have : ∀ i ∈ List.range 13, ((((namesL.drop 2).map fun l => Value.string ⟨l.toArray⟩).toArray)[i]? : Option Value) = some (.string (bs (namesL.getD (i + 2) []))) := by
    intro i hi
    have hi := List.mem_range.1 hi
    match i, hi with
    | 0, _ | 1, _ | 2, _ | 3, _ | 4, _ | 5, _ | 6, _ | 7, _ | 8, _ | 9, _ | 10, _ | 11, _ | 12, _ => rfl
  exact this i (List.mem_range.2 hi)
theorem name_len (i : Nat) (hi : i < 13) : (bs (namesL.getD (i + 2) [])).size ≤ 8 := by
  rw [bs_size]
  have : ∀ i ∈ List.range 13, (namesL.getD (i + 2) []).length ≤ 8 := by decide
  exact this i (List.mem_range.2 hi)
set_option maxHeartbeats 4000000 in
set_option maxRecDepth 100000 in
theorem kn_space_0 (n : Int) (w : World) :
    Calls Tryd.prog 16 #[kyv ⟨1, 32, n, 0⟩] w fun e w' => e = .returned (.string ((⟨#[]⟩ : ByteArray) ++ ⟨#[83, 112, 97, 99, 101]⟩)) ∧ Below w.heap.size w w' := by
  have kb : Below w.heap.size w (w.alloc (.cells #[.int .i64 1, .int .i32 32, .int .i64 n, .int .i64 0] 23)) := (Below.refl _ _).alloc (Nat.le_refl _) _
  have hb4 : bits BinOp.and IntKind.i64 0 4 = 0 := by kernel_rfl
  have hb2 : bits BinOp.and IntKind.i64 0 2 = 0 := by kernel_rfl
  have hb1 : bits BinOp.and IntKind.i64 0 1 = 0 := by kernel_rfl
  unfold kyv
  go_enter Tryd.func16, Tryd.ntmps16
  go_wp2_with fail
  go_ret
  exact ⟨rfl, kb⟩
set_option maxHeartbeats 4000000 in
set_option maxRecDepth 100000 in
theorem kn_space_2 (n : Int) (w : World) :
    Calls Tryd.prog 16 #[kyv ⟨1, 32, n, 2⟩] w fun e w' => e = .returned (.string (((⟨#[]⟩ : ByteArray) ++ ⟨#[77, 45]⟩) ++ ⟨#[83, 112, 97, 99, 101]⟩)) ∧ Below w.heap.size w w' := by
  have kb : Below w.heap.size w (w.alloc (.cells #[.int .i64 1, .int .i32 32, .int .i64 n, .int .i64 2] 23)) := (Below.refl _ _).alloc (Nat.le_refl _) _
  have hb4 : bits BinOp.and IntKind.i64 2 4 = 0 := by kernel_rfl
  have hb2 : bits BinOp.and IntKind.i64 2 2 = 2 := by kernel_rfl
  have hb1 : bits BinOp.and IntKind.i64 2 1 = 0 := by kernel_rfl
  unfold kyv
  go_enter Tryd.func16, Tryd.ntmps16
  go_wp2_with fail
  go_ret
  exact ⟨rfl, kb⟩
set_option maxHeartbeats 4000000 in
set_option maxRecDepth 100000 in
theorem kn_rune_0 (r n : Int) (w : World) (hr : r ≠ 32) :
    Calls Tryd.prog 16 #[kyv ⟨1, r, n, 0⟩] w fun e w' => e = .returned (.string ((⟨#[]⟩ : ByteArray) ++ Utf8.encode r)) ∧ Below w.heap.size w w' := by
  have kb : Below w.heap.size w (w.alloc (.cells #[.int .i64 1, .int .i32 r, .int .i64 n, .int .i64 0] 23)) := (Below.refl _ _).alloc (Nat.le_refl _) _
  have hb4 : bits BinOp.and IntKind.i64 0 4 = 0 := by kernel_rfl
  have hb2 : bits BinOp.and IntKind.i64 0 2 = 0 := by kernel_rfl
  have hb1 : bits BinOp.and IntKind.i64 0 1 = 0 := by kernel_rfl
  have hr1 : (r == 32) = false := by simpa using hr
  have hen : (Utf8.encode r).size ≤ 4 := by rw [encode_eq, bs_size]; have := Lib.encodeRuneZ_length r; simp only [Lib.encodeRune, List.length_map]; omega
  have hs1 : ¬ 9223372036854775807 < 0 + (Utf8.encode r).size := by omega
  clear hr
  unfold kyv
  go_enter Tryd.func16, Tryd.ntmps16
  go_wp2_with fail
  go_ret
  exact ⟨rfl, kb⟩
set_option maxHeartbeats 4000000 in
set_option maxRecDepth 100000 in
theorem kn_rune_2 (r n : Int) (w : World) (hr : r ≠ 32) :
    Calls Tryd.prog 16 #[kyv ⟨1, r, n, 2⟩] w fun e w' => e = .returned (.string (((⟨#[]⟩ : ByteArray) ++ ⟨#[77, 45]⟩) ++ Utf8.encode r)) ∧ Below w.heap.size w w' := by
  have kb : Below w.heap.size w (w.alloc (.cells #[.int .i64 1, .int .i32 r, .int .i64 n, .int .i64 2] 23)) := (Below.refl _ _).alloc (Nat.le_refl _) _
  have hb4 : bits BinOp.and IntKind.i64 2 4 = 0 := by kernel_rfl
  have hb2 : bits BinOp.and IntKind.i64 2 2 = 2 := by kernel_rfl
  have hb1 : bits BinOp.and IntKind.i64 2 1 = 0 := by kernel_rfl
  have hr1 : (r == 32) = false := by simpa using hr
  have hen : (Utf8.encode r).size ≤ 4 := by rw [encode_eq, bs_size]; have := Lib.encodeRuneZ_length r; simp only [Lib.encodeRune, List.length_map]; omega
  have hs1 : ¬ 9223372036854775807 < 2 + (Utf8.encode r).size := by omega
  clear hr
  unfold kyv
  go_enter Tryd.func16, Tryd.ntmps16
  go_wp2_with fail
  go_ret
  exact ⟨rfl, kb⟩
set_option maxHeartbeats 4000000 in
set_option maxRecDepth 100000 in
theorem kn_rune_4 (r n : Int) (w : World) (hr : r ≠ 32) :
    Calls Tryd.prog 16 #[kyv ⟨1, r, n, 4⟩] w fun e w' => e = .returned (.string (((⟨#[]⟩ : ByteArray) ++ ⟨#[67, 45]⟩) ++ Utf8.encode r)) ∧ Below w.heap.size w w' := by
  have kb : Below w.heap.size w (w.alloc (.cells #[.int .i64 1, .int .i32 r, .int .i64 n, .int .i64 4] 23)) := (Below.refl _ _).alloc (Nat.le_refl _) _
  have hb4 : bits BinOp.and IntKind.i64 4 4 = 4 := by kernel_rfl
  have hb2 : bits BinOp.and IntKind.i64 4 2 = 0 := by kernel_rfl
  have hb1 : bits BinOp.and IntKind.i64 4 1 = 0 := by kernel_rfl
  have hr1 : (r == 32) = false := by simpa using hr
  have hen : (Utf8.encode r).size ≤ 4 := by rw [encode_eq, bs_size]; have := Lib.encodeRuneZ_length r; simp only [Lib.encodeRune, List.length_map]; omega
  have hs1 : ¬ 9223372036854775807 < 2 + (Utf8.encode r).size := by omega
  clear hr
  unfold kyv
  go_enter Tryd.func16, Tryd.ntmps16
  go_wp2_with fail
  go_ret
  exact ⟨rfl, kb⟩
set_option maxHeartbeats 4000000 in
set_option maxRecDepth 100000 in
theorem kn_rune_6 (r n : Int) (w : World) (hr : r ≠ 32) :
    Calls Tryd.prog 16 #[kyv ⟨1, r, n, 6⟩] w fun e w' => e = .returned (.string ((((⟨#[]⟩ : ByteArray) ++ ⟨#[67, 45]⟩) ++ ⟨#[77, 45]⟩) ++ Utf8.encode r)) ∧ Below w.heap.size w w' := by
  have kb : Below w.heap.size w (w.alloc (.cells #[.int .i64 1, .int .i32 r, .int .i64 n, .int .i64 6] 23)) := (Below.refl _ _).alloc (Nat.le_refl _) _
  have hb4 : bits BinOp.and IntKind.i64 6 4 = 4 := by kernel_rfl
  have hb2 : bits BinOp.and IntKind.i64 6 2 = 2 := by kernel_rfl
  have hb1 : bits BinOp.and IntKind.i64 6 1 = 0 := by kernel_rfl
  have hr1 : (r == 32) = false := by simpa using hr
  have hen : (Utf8.encode r).size ≤ 4 := by rw [encode_eq, bs_size]; have := Lib.encodeRuneZ_length r; simp only [Lib.encodeRune, List.length_map]; omega
  have hs1 : ¬ 9223372036854775807 < 4 + (Utf8.encode r).size := by omega
  clear hr
  unfold kyv
  go_enter Tryd.func16, Tryd.ntmps16
  go_wp2_with fail
  go_ret
  exact ⟨rfl, kb⟩
set_option maxHeartbeats 4000000 in
set_option maxRecDepth 100000 in
theorem kn_func_0 (r : Int) (w : World) (j : Nat) (h1 : 1 ≤ j) (h2 : j ≤ 12) :
    Calls Tryd.prog 16 #[kyv ⟨15, r, (j : Int), 0⟩] w fun e w' => e = .returned (.string ((⟨#[]⟩ : ByteArray) ++ ⟨#[70]⟩ ++ bs (digB j))) ∧ Below w.heap.size w w' := by
  have kb : Below w.heap.size w (w.alloc (.cells #[.int .i64 15, .int .i32 r, .int .i64 (j : Int), .int .i64 0] 23)) := (Below.refl _ _).alloc (Nat.le_refl _) _
  have hb4 : bits BinOp.and IntKind.i64 0 4 = 0 := by kernel_rfl
  have hb2 : bits BinOp.and IntKind.i64 0 2 = 0 := by kernel_rfl
  have hb1 : bits BinOp.and IntKind.i64 0 1 = 0 := by kernel_rfl
  have HI := fun W => Tryd.strconv_Itoa_small j (by omega) W
  rw [dig_dec j (by omega), show (⟨(digB j).toArray⟩ : ByteArray) = bs (digB j) from rfl] at HI
  have hsz : (bs (digB j)).size ≤ 2 := by rw [bs_size]; unfold digB; split <;> simp
  generalize bs (digB j) = tj at *
  have hs1 : ¬ 9223372036854775807 < 1 + tj.size := by omega
  unfold kyv
  go_enter Tryd.func16, Tryd.ntmps16
  go_wp2_with (go_at_call 23; refine (HI _).mono ?_; rintro e W2 ⟨rfl, hW⟩; subst hW)
  go_ret
  exact ⟨rfl, kb⟩
set_option maxHeartbeats 4000000 in
set_option maxRecDepth 100000 in
theorem kn_func_1 (r : Int) (w : World) (j : Nat) (h1 : 1 ≤ j) (h2 : j ≤ 12) :
    Calls Tryd.prog 16 #[kyv ⟨15, r, (j : Int), 1⟩] w fun e w' => e = .returned (.string (((⟨#[]⟩ : ByteArray) ++ ⟨#[83, 45]⟩) ++ ⟨#[70]⟩ ++ bs (digB j))) ∧ Below w.heap.size w w' := by
  have kb : Below w.heap.size w (w.alloc (.cells #[.int .i64 15, .int .i32 r, .int .i64 (j : Int), .int .i64 1] 23)) := (Below.refl _ _).alloc (Nat.le_refl _) _
  have hb4 : bits BinOp.and IntKind.i64 1 4 = 0 := by kernel_rfl
  have hb2 : bits BinOp.and IntKind.i64 1 2 = 0 := by kernel_rfl
  have hb1 : bits BinOp.and IntKind.i64 1 1 = 1 := by kernel_rfl
  have HI := fun W => Tryd.strconv_Itoa_small j (by omega) W
  rw [dig_dec j (by omega), show (⟨(digB j).toArray⟩ : ByteArray) = bs (digB j) from rfl] at HI
  have hsz : (bs (digB j)).size ≤ 2 := by rw [bs_size]; unfold digB; split <;> simp
  generalize bs (digB j) = tj at *
  have hs1 : ¬ 9223372036854775807 < 3 + tj.size := by omega
  unfold kyv
  go_enter Tryd.func16, Tryd.ntmps16
  go_wp2_with (go_at_call 23; refine (HI _).mono ?_; rintro e W2 ⟨rfl, hW⟩; subst hW)
  go_ret
  exact ⟨rfl, kb⟩
set_option maxHeartbeats 4000000 in
set_option maxRecDepth 100000 in
theorem kn_func_2 (r : Int) (w : World) (j : Nat) (h1 : 1 ≤ j) (h2 : j ≤ 12) :
    Calls Tryd.prog 16 #[kyv ⟨15, r, (j : Int), 2⟩] w fun e w' => e = .returned (.string (((⟨#[]⟩ : ByteArray) ++ ⟨#[77, 45]⟩) ++ ⟨#[70]⟩ ++ bs (digB j))) ∧ Below w.heap.size w w' := by
  have kb : Below w.heap.size w (w.alloc (.cells #[.int .i64 15, .int .i32 r, .int .i64 (j : Int), .int .i64 2] 23)) := (Below.refl _ _).alloc (Nat.le_refl _) _
  have hb4 : bits BinOp.and IntKind.i64 2 4 = 0 := by kernel_rfl
  have hb2 : bits BinOp.and IntKind.i64 2 2 = 2 := by kernel_rfl
  have hb1 : bits BinOp.and IntKind.i64 2 1 = 0 := by kernel_rfl
  have HI := fun W => Tryd.strconv_Itoa_small j (by omega) W
  rw [dig_dec j (by omega), show (⟨(digB j).toArray⟩ : ByteArray) = bs (digB j) from rfl] at HI
  have hsz : (bs (digB j)).size ≤ 2 := by rw [bs_size]; unfold digB; split <;> simp
  generalize bs (digB j) = tj at *
  have hs1 : ¬ 9223372036854775807 < 3 + tj.size := by omega
  unfold kyv
  go_enter Tryd.func16, Tryd.ntmps16
  go_wp2_with (go_at_call 23; refine (HI _).mono ?_; rintro e W2 ⟨rfl, hW⟩; subst hW)
  go_ret
  exact ⟨rfl, kb⟩
set_option maxHeartbeats 4000000 in
set_option maxRecDepth 100000 in
theorem kn_func_3 (r : Int) (w : World) (j : Nat) (h1 : 1 ≤ j) (h2 : j ≤ 12) :
    Calls Tryd.prog 16 #[kyv ⟨15, r, (j : Int), 3⟩] w fun e w' => e = .returned (.string ((((⟨#[]⟩ : ByteArray) ++ ⟨#[77, 45]⟩) ++ ⟨#[83, 45]⟩) ++ ⟨#[70]⟩ ++ bs (digB j))) ∧ Below w.heap.size w w' := by
  have kb : Below w.heap.size w (w.alloc (.cells #[.int .i64 15, .int .i32 r, .int .i64 (j : Int), .int .i64 3] 23)) := (Below.refl _ _).alloc (Nat.le_refl _) _
  have hb4 : bits BinOp.and IntKind.i64 3 4 = 0 := by kernel_rfl
  have hb2 : bits BinOp.and IntKind.i64 3 2 = 2 := by kernel_rfl
  have hb1 : bits BinOp.and IntKind.i64 3 1 = 1 := by kernel_rfl
  have HI := fun W => Tryd.strconv_Itoa_small j (by omega) W
  rw [dig_dec j (by omega), show (⟨(digB j).toArray⟩ : ByteArray) = bs (digB j) from rfl] at HI
  have hsz : (bs (digB j)).size ≤ 2 := by rw [bs_size]; unfold digB; split <;> simp
  generalize bs (digB j) = tj at *
  have hs1 : ¬ 9223372036854775807 < 5 + tj.size := by omega
  unfold kyv
  go_enter Tryd.func16, Tryd.ntmps16
  go_wp2_with (go_at_call 23; refine (HI _).mono ?_; rintro e W2 ⟨rfl, hW⟩; subst hW)
  go_ret
  exact ⟨rfl, kb⟩
set_option maxHeartbeats 4000000 in
set_option maxRecDepth 100000 in
theorem kn_func_4 (r : Int) (w : World) (j : Nat) (h1 : 1 ≤ j) (h2 : j ≤ 12) :
    Calls Tryd.prog 16 #[kyv ⟨15, r, (j : Int), 4⟩] w fun e w' => e = .returned (.string (((⟨#[]⟩ : ByteArray) ++ ⟨#[67, 45]⟩) ++ ⟨#[70]⟩ ++ bs (digB j))) ∧ Below w.heap.size w w' := by
  have kb : Below w.heap.size w (w.alloc (.cells #[.int .i64 15, .int .i32 r, .int .i64 (j : Int), .int .i64 4] 23)) := (Below.refl _ _).alloc (Nat.le_refl _) _
  have hb4 : bits BinOp.and IntKind.i64 4 4 = 4 := by kernel_rfl
  have hb2 : bits BinOp.and IntKind.i64 4 2 = 0 := by kernel_rfl
  have hb1 : bits BinOp.and IntKind.i64 4 1 = 0 := by kernel_rfl
  have HI := fun W => Tryd.strconv_Itoa_small j (by omega) W
  rw [dig_dec j (by omega), show (⟨(digB j).toArray⟩ : ByteArray) = bs (digB j) from rfl] at HI
  have hsz : (bs (digB j)).size ≤ 2 := by rw [bs_size]; unfold digB; split <;> simp
  generalize bs (digB j) = tj at *
  have hs1 : ¬ 9223372036854775807 < 3 + tj.size := by omega
  unfold kyv
  go_enter Tryd.func16, Tryd.ntmps16
  go_wp2_with (go_at_call 23; refine (HI _).mono ?_; rintro e W2 ⟨rfl, hW⟩; subst hW)
  go_ret
  exact ⟨rfl, kb⟩
set_option maxHeartbeats 4000000 in
set_option maxRecDepth 100000 in
theorem kn_func_5 (r : Int) (w : World) (j : Nat) (h1 : 1 ≤ j) (h2 : j ≤ 12) :
    Calls Tryd.prog 16 #[kyv ⟨15, r, (j : Int), 5⟩] w fun e w' => e = .returned (.string ((((⟨#[]⟩ : ByteArray) ++ ⟨#[67, 45]⟩) ++ ⟨#[83, 45]⟩) ++ ⟨#[70]⟩ ++ bs (digB j))) ∧ Below w.heap.size w w' := by
  have kb : Below w.heap.size w (w.alloc (.cells #[.int .i64 15, .int .i32 r, .int .i64 (j : Int), .int .i64 5] 23)) := (Below.refl _ _).alloc (Nat.le_refl _) _
  have hb4 : bits BinOp.and IntKind.i64 5 4 = 4 := by kernel_rfl
  have hb2 : bits BinOp.and IntKind.i64 5 2 = 0 := by kernel_rfl
  have hb1 : bits BinOp.and IntKind.i64 5 1 = 1 := by kernel_rfl
  have HI := fun W => Tryd.strconv_Itoa_small j (by omega) W
  rw [dig_dec j (by omega), show (⟨(digB j).toArray⟩ : ByteArray) = bs (digB j) from rfl] at HI
  have hsz : (bs (digB j)).size ≤ 2 := by rw [bs_size]; unfold digB; split <;> simp
  generalize bs (digB j) = tj at *
  have hs1 : ¬ 9223372036854775807 < 5 + tj.size := by omega
  unfold kyv
  go_enter Tryd.func16, Tryd.ntmps16
  go_wp2_with (go_at_call 23; refine (HI _).mono ?_; rintro e W2 ⟨rfl, hW⟩; subst hW)
  go_ret
  exact ⟨rfl, kb⟩
set_option maxHeartbeats 4000000 in
set_option maxRecDepth 100000 in
theorem kn_func_6 (r : Int) (w : World) (j : Nat) (h1 : 1 ≤ j) (h2 : j ≤ 12) :
    Calls Tryd.prog 16 #[kyv ⟨15, r, (j : Int), 6⟩] w fun e w' => e = .returned (.string ((((⟨#[]⟩ : ByteArray) ++ ⟨#[67, 45]⟩) ++ ⟨#[77, 45]⟩) ++ ⟨#[70]⟩ ++ bs (digB j))) ∧ Below w.heap.size w w' := by
  have kb : Below w.heap.size w (w.alloc (.cells #[.int .i64 15, .int .i32 r, .int .i64 (j : Int), .int .i64 6] 23)) := (Below.refl _ _).alloc (Nat.le_refl _) _
  have hb4 : bits BinOp.and IntKind.i64 6 4 = 4 := by kernel_rfl
  have hb2 : bits BinOp.and IntKind.i64 6 2 = 2 := by kernel_rfl
  have hb1 : bits BinOp.and IntKind.i64 6 1 = 0 := by kernel_rfl
  have HI := fun W => Tryd.strconv_Itoa_small j (by omega) W
  rw [dig_dec j (by omega), show (⟨(digB j).toArray⟩ : ByteArray) = bs (digB j) from rfl] at HI
  have hsz : (bs (digB j)).size ≤ 2 := by rw [bs_size]; unfold digB; split <;> simp
  generalize bs (digB j) = tj at *
  have hs1 : ¬ 9223372036854775807 < 5 + tj.size := by omega
  unfold kyv
  go_enter Tryd.func16, Tryd.ntmps16
  go_wp2_with (go_at_call 23; refine (HI _).mono ?_; rintro e W2 ⟨rfl, hW⟩; subst hW)
  go_ret
  exact ⟨rfl, kb⟩
set_option maxHeartbeats 4000000 in
set_option maxRecDepth 100000 in
theorem kn_func_7 (r : Int) (w : World) (j : Nat) (h1 : 1 ≤ j) (h2 : j ≤ 12) :
    Calls Tryd.prog 16 #[kyv ⟨15, r, (j : Int), 7⟩] w fun e w' => e = .returned (.string (((((⟨#[]⟩ : ByteArray) ++ ⟨#[67, 45]⟩) ++ ⟨#[77, 45]⟩) ++ ⟨#[83, 45]⟩) ++ ⟨#[70]⟩ ++ bs (digB j))) ∧ Below w.heap.size w w' := by
  have kb : Below w.heap.size w (w.alloc (.cells #[.int .i64 15, .int .i32 r, .int .i64 (j : Int), .int .i64 7] 23)) := (Below.refl _ _).alloc (Nat.le_refl _) _
  have hb4 : bits BinOp.and IntKind.i64 7 4 = 4 := by kernel_rfl
  have hb2 : bits BinOp.and IntKind.i64 7 2 = 2 := by kernel_rfl
  have hb1 : bits BinOp.and IntKind.i64 7 1 = 1 := by kernel_rfl
  have HI := fun W => Tryd.strconv_Itoa_small j (by omega) W
  rw [dig_dec j (by omega), show (⟨(digB j).toArray⟩ : ByteArray) = bs (digB j) from rfl] at HI
  have hsz : (bs (digB j)).size ≤ 2 := by rw [bs_size]; unfold digB; split <;> simp
  generalize bs (digB j) = tj at *
  have hs1 : ¬ 9223372036854775807 < 7 + tj.size := by omega
  unfold kyv
  go_enter Tryd.func16, Tryd.ntmps16
  go_wp2_with (go_at_call 23; refine (HI _).mono ?_; rintro e W2 ⟨rfl, hW⟩; subst hW)
  go_ret
  exact ⟨rfl, kb⟩
set_option maxHeartbeats 4000000 in
set_option maxRecDepth 100000 in
theorem kn_other_0 (r n : Int) (w : World) (i : Nat) (hi : i < 13) (hS : SpTab w) :
    Calls Tryd.prog 16 #[kyv ⟨((i : Int) + 2), r, n, 0⟩] w fun e w' => e = .returned (.string ((⟨#[]⟩ : ByteArray) ++ bs (namesL.getD (i + 2) []))) ∧ Below w.heap.size w w' := by
  have kb : Below w.heap.size w (w.alloc (.cells #[.int .i64 ((i : Int) + 2), .int .i32 r, .int .i64 n, .int .i64 0] 23)) := (Below.refl _ _).alloc (Nat.le_refl _) _
  have hb4 : bits BinOp.and IntKind.i64 0 4 = 0 := by kernel_rfl
  have hb2 : bits BinOp.and IntKind.i64 0 2 = 0 := by kernel_rfl
  have hb1 : bits BinOp.and IntKind.i64 0 1 = 0 := by kernel_rfl
  have HF := fun W (h : SpTab W) => fields_any W h
  have HC := fun (W : World) => field_cell W i hi
  have hnl := name_len i hi
  have hS0 := hS.below kb
  clear hS
  generalize bs (namesL.getD (i + 2) []) = nm at *
  have n1 : ((i : Int) + 2 == 1) = false := by simp; omega
  have n15 : ((i : Int) + 2 == 15) = false := by simp; omega
  have hwr : wrap64 ((i : Int) + 2 - 2) = (i : Int) := by unfold wrap64; omega
  have hwr2 : IntKind.i64.wrap ((i : Int) + 2 - 2) = (i : Int) := (IntWalk.i64_in _ ⟨by omega, by omega⟩).trans (by omega)
  have hwr3 : IntKind.i64.wrap (i : Int) = (i : Int) := IntWalk.i64_in _ ⟨by omega, by omega⟩
  have hwr4 : wrap64 (i : Int) = (i : Int) := by unfold wrap64; omega
  have hi1 : (i : Int) < 13 := by omega
  have hi2 : (0 : Int) ≤ (i : Int) := by omega
  have hi0 : ¬ (i : Int) < 0 := by omega
  have hs1 : ¬ 9223372036854775807 < 0 + nm.size := by omega
  unfold kyv
  go_enter Tryd.func16, Tryd.ntmps16
  go_upto_region 15 with fail
  have z0 := heap_alloc_new w (.cells #[.int .i64 ((i : Int) + 2), .int .i32 r, .int .i64 n, .int .i64 0] 23)
  generalize w.alloc (.cells #[.int .i64 ((i : Int) + 2), .int .i32 r, .int .i64 n, .int .i64 0] 23) = W0 at *
  obtain ⟨⟨c0, c1, c2, c3⟩, _⟩ := four_cells z0
  go_region_with (go_at_call 30; refine (HF _ (by exact hS0)).mono ?_; rintro e W2 ⟨rfl, hW⟩; have hB : Below W0.drew.heap.size W0.drew W2 := hW ▸ (Below.refl _ _).alloc (Nat.le_refl _) _; have y0 := by_drew z0 hB; obtain ⟨⟨d0, d1, d2, d3⟩, _⟩ := four_cells y0; have hl : W2.cell? ⟨W0.heap.size, i, none⟩ = some (.string nm) := hW ▸ HC W0.drew; clear hW)
  all_goals have kb1 := below_drew kb hB
  all_goals clear c0 c1 c2 c3 d0 d1 d2 d3 y0 z0 HF HC hB hl
  all_goals go_wp2_with fail
  all_goals go_ret
  all_goals exact ⟨rfl, kb1⟩
set_option maxHeartbeats 4000000 in
set_option maxRecDepth 100000 in
theorem kn_other_1 (r n : Int) (w : World) (i : Nat) (hi : i < 13) (hS : SpTab w) :
    Calls Tryd.prog 16 #[kyv ⟨((i : Int) + 2), r, n, 1⟩] w fun e w' => e = .returned (.string (((⟨#[]⟩ : ByteArray) ++ ⟨#[83, 45]⟩) ++ bs (namesL.getD (i + 2) []))) ∧ Below w.heap.size w w' := by
  have kb : Below w.heap.size w (w.alloc (.cells #[.int .i64 ((i : Int) + 2), .int .i32 r, .int .i64 n, .int .i64 1] 23)) := (Below.refl _ _).alloc (Nat.le_refl _) _
  have hb4 : bits BinOp.and IntKind.i64 1 4 = 0 := by kernel_rfl
  have hb2 : bits BinOp.and IntKind.i64 1 2 = 0 := by kernel_rfl
  have hb1 : bits BinOp.and IntKind.i64 1 1 = 1 := by kernel_rfl
  have HF := fun W (h : SpTab W) => fields_any W h
  have HC := fun (W : World) => field_cell W i hi
  have hnl := name_len i hi
  have hS0 := hS.below kb
  clear hS
  generalize bs (namesL.getD (i + 2) []) = nm at *
  have n1 : ((i : Int) + 2 == 1) = false := by simp; omega
  have n15 : ((i : Int) + 2 == 15) = false := by simp; omega
  have hwr : wrap64 ((i : Int) + 2 - 2) = (i : Int) := by unfold wrap64; omega
  have hwr2 : IntKind.i64.wrap ((i : Int) + 2 - 2) = (i : Int) := (IntWalk.i64_in _ ⟨by omega, by omega⟩).trans (by omega)
  have hwr3 : IntKind.i64.wrap (i : Int) = (i : Int) := IntWalk.i64_in _ ⟨by omega, by omega⟩
  have hwr4 : wrap64 (i : Int) = (i : Int) := by unfold wrap64; omega
  have hi1 : (i : Int) < 13 := by omega
  have hi2 : (0 : Int) ≤ (i : Int) := by omega
  have hi0 : ¬ (i : Int) < 0 := by omega
  have hs1 : ¬ 9223372036854775807 < 2 + nm.size := by omega
  unfold kyv
  go_enter Tryd.func16, Tryd.ntmps16
  go_upto_region 15 with fail
  have z0 := heap_alloc_new w (.cells #[.int .i64 ((i : Int) + 2), .int .i32 r, .int .i64 n, .int .i64 1] 23)
  generalize w.alloc (.cells #[.int .i64 ((i : Int) + 2), .int .i32 r, .int .i64 n, .int .i64 1] 23) = W0 at *
  obtain ⟨⟨c0, c1, c2, c3⟩, _⟩ := four_cells z0
  go_region_with (go_at_call 30; refine (HF _ (by exact hS0)).mono ?_; rintro e W2 ⟨rfl, hW⟩; have hB : Below W0.drew.heap.size W0.drew W2 := hW ▸ (Below.refl _ _).alloc (Nat.le_refl _) _; have y0 := by_drew z0 hB; obtain ⟨⟨d0, d1, d2, d3⟩, _⟩ := four_cells y0; have hl : W2.cell? ⟨W0.heap.size, i, none⟩ = some (.string nm) := hW ▸ HC W0.drew; clear hW)
  all_goals have kb1 := below_drew kb hB
  all_goals clear c0 c1 c2 c3 d0 d1 d2 d3 y0 z0 HF HC hB hl
  all_goals go_wp2_with fail
  all_goals go_ret
  all_goals exact ⟨rfl, kb1⟩
set_option maxHeartbeats 4000000 in
set_option maxRecDepth 100000 in
theorem kn_other_2 (r n : Int) (w : World) (i : Nat) (hi : i < 13) (hS : SpTab w) :
    Calls Tryd.prog 16 #[kyv ⟨((i : Int) + 2), r, n, 2⟩] w fun e w' => e = .returned (.string (((⟨#[]⟩ : ByteArray) ++ ⟨#[77, 45]⟩) ++ bs (namesL.getD (i + 2) []))) ∧ Below w.heap.size w w' := by
  have kb : Below w.heap.size w (w.alloc (.cells #[.int .i64 ((i : Int) + 2), .int .i32 r, .int .i64 n, .int .i64 2] 23)) := (Below.refl _ _).alloc (Nat.le_refl _) _
  have hb4 : bits BinOp.and IntKind.i64 2 4 = 0 := by kernel_rfl
  have hb2 : bits BinOp.and IntKind.i64 2 2 = 2 := by kernel_rfl
  have hb1 : bits BinOp.and IntKind.i64 2 1 = 0 := by kernel_rfl
  have HF := fun W (h : SpTab W) => fields_any W h
  have HC := fun (W : World) => field_cell W i hi
  have hnl := name_len i hi
  have hS0 := hS.below kb
  clear hS
  generalize bs (namesL.getD (i + 2) []) = nm at *
  have n1 : ((i : Int) + 2 == 1) = false := by simp; omega
  have n15 : ((i : Int) + 2 == 15) = false := by simp; omega
  have hwr : wrap64 ((i : Int) + 2 - 2) = (i : Int) := by unfold wrap64; omega
  have hwr2 : IntKind.i64.wrap ((i : Int) + 2 - 2) = (i : Int) := (IntWalk.i64_in _ ⟨by omega, by omega⟩).trans (by omega)
  have hwr3 : IntKind.i64.wrap (i : Int) = (i : Int) := IntWalk.i64_in _ ⟨by omega, by omega⟩
  have hwr4 : wrap64 (i : Int) = (i : Int) := by unfold wrap64; omega
  have hi1 : (i : Int) < 13 := by omega
  have hi2 : (0 : Int) ≤ (i : Int) := by omega
  have hi0 : ¬ (i : Int) < 0 := by omega
  have hs1 : ¬ 9223372036854775807 < 2 + nm.size := by omega
  unfold kyv
  go_enter Tryd.func16, Tryd.ntmps16
  go_upto_region 15 with fail
  have z0 := heap_alloc_new w (.cells #[.int .i64 ((i : Int) + 2), .int .i32 r, .int .i64 n, .int .i64 2] 23)
  generalize w.alloc (.cells #[.int .i64 ((i : Int) + 2), .int .i32 r, .int .i64 n, .int .i64 2] 23) = W0 at *
  obtain ⟨⟨c0, c1, c2, c3⟩, _⟩ := four_cells z0
  go_region_with (go_at_call 30; refine (HF _ (by exact hS0)).mono ?_; rintro e W2 ⟨rfl, hW⟩; have hB : Below W0.drew.heap.size W0.drew W2 := hW ▸ (Below.refl _ _).alloc (Nat.le_refl _) _; have y0 := by_drew z0 hB; obtain ⟨⟨d0, d1, d2, d3⟩, _⟩ := four_cells y0; have hl : W2.cell? ⟨W0.heap.size, i, none⟩ = some (.string nm) := hW ▸ HC W0.drew; clear hW)
  all_goals have kb1 := below_drew kb hB
  all_goals clear c0 c1 c2 c3 d0 d1 d2 d3 y0 z0 HF HC hB hl
  all_goals go_wp2_with fail
  all_goals go_ret
  all_goals exact ⟨rfl, kb1⟩
set_option maxHeartbeats 4000000 in
set_option maxRecDepth 100000 in
theorem kn_other_3 (r n : Int) (w : World) (i : Nat) (hi : i < 13) (hS : SpTab w) :
    Calls Tryd.prog 16 #[kyv ⟨((i : Int) + 2), r, n, 3⟩] w fun e w' => e = .returned (.string ((((⟨#[]⟩ : ByteArray) ++ ⟨#[77, 45]⟩) ++ ⟨#[83, 45]⟩) ++ bs (namesL.getD (i + 2) []))) ∧ Below w.heap.size w w' := by
  have kb : Below w.heap.size w (w.alloc (.cells #[.int .i64 ((i : Int) + 2), .int .i32 r, .int .i64 n, .int .i64 3] 23)) := (Below.refl _ _).alloc (Nat.le_refl _) _
  have hb4 : bits BinOp.and IntKind.i64 3 4 = 0 := by kernel_rfl
  have hb2 : bits BinOp.and IntKind.i64 3 2 = 2 := by kernel_rfl
  have hb1 : bits BinOp.and IntKind.i64 3 1 = 1 := by kernel_rfl
  have HF := fun W (h : SpTab W) => fields_any W h
  have HC := fun (W : World) => field_cell W i hi
  have hnl := name_len i hi
  have hS0 := hS.below kb
  clear hS
  generalize bs (namesL.getD (i + 2) []) = nm at *
  have n1 : ((i : Int) + 2 == 1) = false := by simp; omega
  have n15 : ((i : Int) + 2 == 15) = false := by simp; omega
  have hwr : wrap64 ((i : Int) + 2 - 2) = (i : Int) := by unfold wrap64; omega
  have hwr2 : IntKind.i64.wrap ((i : Int) + 2 - 2) = (i : Int) := (IntWalk.i64_in _ ⟨by omega, by omega⟩).trans (by omega)
  have hwr3 : IntKind.i64.wrap (i : Int) = (i : Int) := IntWalk.i64_in _ ⟨by omega, by omega⟩
  have hwr4 : wrap64 (i : Int) = (i : Int) := by unfold wrap64; omega
  have hi1 : (i : Int) < 13 := by omega
  have hi2 : (0 : Int) ≤ (i : Int) := by omega
  have hi0 : ¬ (i : Int) < 0 := by omega
  have hs1 : ¬ 9223372036854775807 < 4 + nm.size := by omega
  unfold kyv
  go_enter Tryd.func16, Tryd.ntmps16
  go_upto_region 15 with fail
  have z0 := heap_alloc_new w (.cells #[.int .i64 ((i : Int) + 2), .int .i32 r, .int .i64 n, .int .i64 3] 23)
  generalize w.alloc (.cells #[.int .i64 ((i : Int) + 2), .int .i32 r, .int .i64 n, .int .i64 3] 23) = W0 at *
  obtain ⟨⟨c0, c1, c2, c3⟩, _⟩ := four_cells z0
  go_region_with (go_at_call 30; refine (HF _ (by exact hS0)).mono ?_; rintro e W2 ⟨rfl, hW⟩; have hB : Below W0.drew.heap.size W0.drew W2 := hW ▸ (Below.refl _ _).alloc (Nat.le_refl _) _; have y0 := by_drew z0 hB; obtain ⟨⟨d0, d1, d2, d3⟩, _⟩ := four_cells y0; have hl : W2.cell? ⟨W0.heap.size, i, none⟩ = some (.string nm) := hW ▸ HC W0.drew; clear hW)
  all_goals have kb1 := below_drew kb hB
  all_goals clear c0 c1 c2 c3 d0 d1 d2 d3 y0 z0 HF HC hB hl
  all_goals go_wp2_with fail
  all_goals go_ret
  all_goals exact ⟨rfl, kb1⟩
set_option maxHeartbeats 4000000 in
set_option maxRecDepth 100000 in
theorem kn_other_4 (r n : Int) (w : World) (i : Nat) (hi : i < 13) (hS : SpTab w) :
    Calls Tryd.prog 16 #[kyv ⟨((i : Int) + 2), r, n, 4⟩] w fun e w' => e = .returned (.string (((⟨#[]⟩ : ByteArray) ++ ⟨#[67, 45]⟩) ++ bs (namesL.getD (i + 2) []))) ∧ Below w.heap.size w w' := by
  have kb : Below w.heap.size w (w.alloc (.cells #[.int .i64 ((i : Int) + 2), .int .i32 r, .int .i64 n, .int .i64 4] 23)) := (Below.refl _ _).alloc (Nat.le_refl _) _
  have hb4 : bits BinOp.and IntKind.i64 4 4 = 4 := by kernel_rfl
  have hb2 : bits BinOp.and IntKind.i64 4 2 = 0 := by kernel_rfl
  have hb1 : bits BinOp.and IntKind.i64 4 1 = 0 := by kernel_rfl
  have HF := fun W (h : SpTab W) => fields_any W h
  have HC := fun (W : World) => field_cell W i hi
  have hnl := name_len i hi
  have hS0 := hS.below kb
  clear hS
  generalize bs (namesL.getD (i + 2) []) = nm at *
  have n1 : ((i : Int) + 2 == 1) = false := by simp; omega
  have n15 : ((i : Int) + 2 == 15) = false := by simp; omega
  have hwr : wrap64 ((i : Int) + 2 - 2) = (i : Int) := by unfold wrap64; omega
  have hwr2 : IntKind.i64.wrap ((i : Int) + 2 - 2) = (i : Int) := (IntWalk.i64_in _ ⟨by omega, by omega⟩).trans (by omega)
  have hwr3 : IntKind.i64.wrap (i : Int) = (i : Int) := IntWalk.i64_in _ ⟨by omega, by omega⟩
  have hwr4 : wrap64 (i : Int) = (i : Int) := by unfold wrap64; omega
  have hi1 : (i : Int) < 13 := by omega
  have hi2 : (0 : Int) ≤ (i : Int) := by omega
  have hi0 : ¬ (i : Int) < 0 := by omega
  have hs1 : ¬ 9223372036854775807 < 2 + nm.size := by omega
  unfold kyv
  go_enter Tryd.func16, Tryd.ntmps16
  go_upto_region 15 with fail
  have z0 := heap_alloc_new w (.cells #[.int .i64 ((i : Int) + 2), .int .i32 r, .int .i64 n, .int .i64 4] 23)
  generalize w.alloc (.cells #[.int .i64 ((i : Int) + 2), .int .i32 r, .int .i64 n, .int .i64 4] 23) = W0 at *
  obtain ⟨⟨c0, c1, c2, c3⟩, _⟩ := four_cells z0
  go_region_with (go_at_call 30; refine (HF _ (by exact hS0)).mono ?_; rintro e W2 ⟨rfl, hW⟩; have hB : Below W0.drew.heap.size W0.drew W2 := hW ▸ (Below.refl _ _).alloc (Nat.le_refl _) _; have y0 := by_drew z0 hB; obtain ⟨⟨d0, d1, d2, d3⟩, _⟩ := four_cells y0; have hl : W2.cell? ⟨W0.heap.size, i, none⟩ = some (.string nm) := hW ▸ HC W0.drew; clear hW)
  all_goals have kb1 := below_drew kb hB
  all_goals clear c0 c1 c2 c3 d0 d1 d2 d3 y0 z0 HF HC hB hl
  all_goals go_wp2_with fail
  all_goals go_ret
  all_goals exact ⟨rfl, kb1⟩
set_option maxHeartbeats 4000000 in
set_option maxRecDepth 100000 in
theorem kn_other_5 (r n : Int) (w : World) (i : Nat) (hi : i < 13) (hS : SpTab w) :
    Calls Tryd.prog 16 #[kyv ⟨((i : Int) + 2), r, n, 5⟩] w fun e w' => e = .returned (.string ((((⟨#[]⟩ : ByteArray) ++ ⟨#[67, 45]⟩) ++ ⟨#[83, 45]⟩) ++ bs (namesL.getD (i + 2) []))) ∧ Below w.heap.size w w' := by
  have kb : Below w.heap.size w (w.alloc (.cells #[.int .i64 ((i : Int) + 2), .int .i32 r, .int .i64 n, .int .i64 5] 23)) := (Below.refl _ _).alloc (Nat.le_refl _) _
  have hb4 : bits BinOp.and IntKind.i64 5 4 = 4 := by kernel_rfl
  have hb2 : bits BinOp.and IntKind.i64 5 2 = 0 := by kernel_rfl
  have hb1 : bits BinOp.and IntKind.i64 5 1 = 1 := by kernel_rfl
  have HF := fun W (h : SpTab W) => fields_any W h
  have HC := fun (W : World) => field_cell W i hi
  have hnl := name_len i hi
  have hS0 := hS.below kb
  clear hS
  generalize bs (namesL.getD (i + 2) []) = nm at *
  have n1 : ((i : Int) + 2 == 1) = false := by simp; omega
  have n15 : ((i : Int) + 2 == 15) = false := by simp; omega
  have hwr : wrap64 ((i : Int) + 2 - 2) = (i : Int) := by unfold wrap64; omega
  have hwr2 : IntKind.i64.wrap ((i : Int) + 2 - 2) = (i : Int) := (IntWalk.i64_in _ ⟨by omega, by omega⟩).trans (by omega)
  have hwr3 : IntKind.i64.wrap (i : Int) = (i : Int) := IntWalk.i64_in _ ⟨by omega, by omega⟩
  have hwr4 : wrap64 (i : Int) = (i : Int) := by unfold wrap64; omega
  have hi1 : (i : Int) < 13 := by omega
  have hi2 : (0 : Int) ≤ (i : Int) := by omega
  have hi0 : ¬ (i : Int) < 0 := by omega
  have hs1 : ¬ 9223372036854775807 < 4 + nm.size := by omega
  unfold kyv
  go_enter Tryd.func16, Tryd.ntmps16
  go_upto_region 15 with fail
  have z0 := heap_alloc_new w (.cells #[.int .i64 ((i : Int) + 2), .int .i32 r, .int .i64 n, .int .i64 5] 23)
  generalize w.alloc (.cells #[.int .i64 ((i : Int) + 2), .int .i32 r, .int .i64 n, .int .i64 5] 23) = W0 at *
  obtain ⟨⟨c0, c1, c2, c3⟩, _⟩ := four_cells z0
  go_region_with (go_at_call 30; refine (HF _ (by exact hS0)).mono ?_; rintro e W2 ⟨rfl, hW⟩; have hB : Below W0.drew.heap.size W0.drew W2 := hW ▸ (Below.refl _ _).alloc (Nat.le_refl _) _; have y0 := by_drew z0 hB; obtain ⟨⟨d0, d1, d2, d3⟩, _⟩ := four_cells y0; have hl : W2.cell? ⟨W0.heap.size, i, none⟩ = some (.string nm) := hW ▸ HC W0.drew; clear hW)
  all_goals have kb1 := below_drew kb hB
  all_goals clear c0 c1 c2 c3 d0 d1 d2 d3 y0 z0 HF HC hB hl
  all_goals go_wp2_with fail
  all_goals go_ret
  all_goals exact ⟨rfl, kb1⟩
set_option maxHeartbeats 4000000 in
set_option maxRecDepth 100000 in
theorem kn_other_6 (r n : Int) (w : World) (i : Nat) (hi : i < 13) (hS : SpTab w) :
    Calls Tryd.prog 16 #[kyv ⟨((i : Int) + 2), r, n, 6⟩] w fun e w' => e = .returned (.string ((((⟨#[]⟩ : ByteArray) ++ ⟨#[67, 45]⟩) ++ ⟨#[77, 45]⟩) ++ bs (namesL.getD (i + 2) []))) ∧ Below w.heap.size w w' := by
  have kb : Below w.heap.size w (w.alloc (.cells #[.int .i64 ((i : Int) + 2), .int .i32 r, .int .i64 n, .int .i64 6] 23)) := (Below.refl _ _).alloc (Nat.le_refl _) _
  have hb4 : bits BinOp.and IntKind.i64 6 4 = 4 := by kernel_rfl
  have hb2 : bits BinOp.and IntKind.i64 6 2 = 2 := by kernel_rfl
  have hb1 : bits BinOp.and IntKind.i64 6 1 = 0 := by kernel_rfl
  have HF := fun W (h : SpTab W) => fields_any W h
  have HC := fun (W : World) => field_cell W i hi
  have hnl := name_len i hi
  have hS0 := hS.below kb
  clear hS
  generalize bs (namesL.getD (i + 2) []) = nm at *
  have n1 : ((i : Int) + 2 == 1) = false := by simp; omega
  have n15 : ((i : Int) + 2 == 15) = false := by simp; omega
  have hwr : wrap64 ((i : Int) + 2 - 2) = (i : Int) := by unfold wrap64; omega
  have hwr2 : IntKind.i64.wrap ((i : Int) + 2 - 2) = (i : Int) := (IntWalk.i64_in _ ⟨by omega, by omega⟩).trans (by omega)
  have hwr3 : IntKind.i64.wrap (i : Int) = (i : Int) := IntWalk.i64_in _ ⟨by omega, by omega⟩
  have hwr4 : wrap64 (i : Int) = (i : Int) := by unfold wrap64; omega
  have hi1 : (i : Int) < 13 := by omega
  have hi2 : (0 : Int) ≤ (i : Int) := by omega
  have hi0 : ¬ (i : Int) < 0 := by omega
  have hs1 : ¬ 9223372036854775807 < 4 + nm.size := by omega
  unfold kyv
  go_enter Tryd.func16, Tryd.ntmps16
  go_upto_region 15 with fail
  have z0 := heap_alloc_new w (.cells #[.int .i64 ((i : Int) + 2), .int .i32 r, .int .i64 n, .int .i64 6] 23)
  generalize w.alloc (.cells #[.int .i64 ((i : Int) + 2), .int .i32 r, .int .i64 n, .int .i64 6] 23) = W0 at *
  obtain ⟨⟨c0, c1, c2, c3⟩, _⟩ := four_cells z0
  go_region_with (go_at_call 30; refine (HF _ (by exact hS0)).mono ?_; rintro e W2 ⟨rfl, hW⟩; have hB : Below W0.drew.heap.size W0.drew W2 := hW ▸ (Below.refl _ _).alloc (Nat.le_refl _) _; have y0 := by_drew z0 hB; obtain ⟨⟨d0, d1, d2, d3⟩, _⟩ := four_cells y0; have hl : W2.cell? ⟨W0.heap.size, i, none⟩ = some (.string nm) := hW ▸ HC W0.drew; clear hW)
  all_goals have kb1 := below_drew kb hB
  all_goals clear c0 c1 c2 c3 d0 d1 d2 d3 y0 z0 HF HC hB hl
  all_goals go_wp2_with fail
  all_goals go_ret
  all_goals exact ⟨rfl, kb1⟩
set_option maxHeartbeats 4000000 in
set_option maxRecDepth 100000 in
theorem kn_other_7 (r n : Int) (w : World) (i : Nat) (hi : i < 13) (hS : SpTab w) :
    Calls Tryd.prog 16 #[kyv ⟨((i : Int) + 2), r, n, 7⟩] w fun e w' => e = .returned (.string (((((⟨#[]⟩ : ByteArray) ++ ⟨#[67, 45]⟩) ++ ⟨#[77, 45]⟩) ++ ⟨#[83, 45]⟩) ++ bs (namesL.getD (i + 2) []))) ∧ Below w.heap.size w w' := by
  have kb : Below w.heap.size w (w.alloc (.cells #[.int .i64 ((i : Int) + 2), .int .i32 r, .int .i64 n, .int .i64 7] 23)) := (Below.refl _ _).alloc (Nat.le_refl _) _
  have hb4 : bits BinOp.and IntKind.i64 7 4 = 4 := by kernel_rfl
  have hb2 : bits BinOp.and IntKind.i64 7 2 = 2 := by kernel_rfl
  have hb1 : bits BinOp.and IntKind.i64 7 1 = 1 := by kernel_rfl
  have HF := fun W (h : SpTab W) => fields_any W h
  have HC := fun (W : World) => field_cell W i hi
  have hnl := name_len i hi
  have hS0 := hS.below kb
  clear hS
  generalize bs (namesL.getD (i + 2) []) = nm at *
  have n1 : ((i : Int) + 2 == 1) = false := by simp; omega
  have n15 : ((i : Int) + 2 == 15) = false := by simp; omega
  have hwr : wrap64 ((i : Int) + 2 - 2) = (i : Int) := by unfold wrap64; omega
  have hwr2 : IntKind.i64.wrap ((i : Int) + 2 - 2) = (i : Int) := (IntWalk.i64_in _ ⟨by omega, by omega⟩).trans (by omega)
  have hwr3 : IntKind.i64.wrap (i : Int) = (i : Int) := IntWalk.i64_in _ ⟨by omega, by omega⟩
  have hwr4 : wrap64 (i : Int) = (i : Int) := by unfold wrap64; omega
  have hi1 : (i : Int) < 13 := by omega
  have hi2 : (0 : Int) ≤ (i : Int) := by omega
  have hi0 : ¬ (i : Int) < 0 := by omega
  have hs1 : ¬ 9223372036854775807 < 6 + nm.size := by omega
  unfold kyv
  go_enter Tryd.func16, Tryd.ntmps16
  go_upto_region 15 with fail
  have z0 := heap_alloc_new w (.cells #[.int .i64 ((i : Int) + 2), .int .i32 r, .int .i64 n, .int .i64 7] 23)
  generalize w.alloc (.cells #[.int .i64 ((i : Int) + 2), .int .i32 r, .int .i64 n, .int .i64 7] 23) = W0 at *
  obtain ⟨⟨c0, c1, c2, c3⟩, _⟩ := four_cells z0
  go_region_with (go_at_call 30; refine (HF _ (by exact hS0)).mono ?_; rintro e W2 ⟨rfl, hW⟩; have hB : Below W0.drew.heap.size W0.drew W2 := hW ▸ (Below.refl _ _).alloc (Nat.le_refl _) _; have y0 := by_drew z0 hB; obtain ⟨⟨d0, d1, d2, d3⟩, _⟩ := four_cells y0; have hl : W2.cell? ⟨W0.heap.size, i, none⟩ = some (.string nm) := hW ▸ HC W0.drew; clear hW)
  all_goals have kb1 := below_drew kb hB
  all_goals clear c0 c1 c2 c3 d0 d1 d2 d3 y0 z0 HF HC hB hl
  all_goals go_wp2_with fail
  all_goals go_ret
  all_goals exact ⟨rfl, kb1⟩
end Kys
end Go.Proofs.YtdmooeoklcjplaaDoor

/- The reference's KeyName, of every key that can be told. (Written by gen_keysnamel.py.) -/
namespace Go.Proofs.YtdmooeoklcjplaaDoor
open Go.ChangeShapes Go.WideShapes Go.ChangeAt Go.RowKit Go.Maps
namespace Kys
open Txt (wd bs)
theorem kn_is {k : Ky} {w : World} {t : ByteArray} (h : Calls Tryd.prog 16 #[kyv k] w fun e w' => e = .returned (.string t) ∧ Below w.heap.size w w') (e : t = bs (nameL k)) :
    Calls Tryd.prog 16 #[kyv k] w fun e w' => e = .returned (.string (bs (nameL k))) ∧ Below w.heap.size w w' := e ▸ h
theorem nm_eq (P : ByteArray) (k : Ky) (b : List UInt8) (h : bs (holdsN k.held) = P) (hb : bareN k = b) : P ++ bs b = bs (nameL k) := by
  unfold nameL
  rw [← h, ← hb, Txt.bs_append]
theorem hold_0 : bs (holdsN 0) = (⟨#[]⟩ : ByteArray) := by kernel_rfl
theorem hold_1 : bs (holdsN 1) = ((⟨#[]⟩ : ByteArray) ++ ⟨#[83, 45]⟩) := by kernel_rfl
theorem hold_2 : bs (holdsN 2) = ((⟨#[]⟩ : ByteArray) ++ ⟨#[77, 45]⟩) := by kernel_rfl
theorem hold_3 : bs (holdsN 3) = (((⟨#[]⟩ : ByteArray) ++ ⟨#[77, 45]⟩) ++ ⟨#[83, 45]⟩) := by kernel_rfl
theorem hold_4 : bs (holdsN 4) = ((⟨#[]⟩ : ByteArray) ++ ⟨#[67, 45]⟩) := by kernel_rfl
theorem hold_5 : bs (holdsN 5) = (((⟨#[]⟩ : ByteArray) ++ ⟨#[67, 45]⟩) ++ ⟨#[83, 45]⟩) := by kernel_rfl
theorem hold_6 : bs (holdsN 6) = (((⟨#[]⟩ : ByteArray) ++ ⟨#[67, 45]⟩) ++ ⟨#[77, 45]⟩) := by kernel_rfl
theorem hold_7 : bs (holdsN 7) = ((((⟨#[]⟩ : ByteArray) ++ ⟨#[67, 45]⟩) ++ ⟨#[77, 45]⟩) ++ ⟨#[83, 45]⟩) := by kernel_rfl
theorem keyName_any (k : Ky) (hc : chk k = true) (w : World) (hS : SpTab w) : Calls Tryd.prog 16 #[kyv k] w fun e w' => e = .returned (.string (bs (nameL k))) ∧ Below w.heap.size w w' := by
  obtain ⟨kind, r, n, held⟩ := k
  have hh : 0 ≤ held ∧ held ≤ 7 := by
    by_cases h : held < 0 ∨ 7 < held
    · rw [chk_out ⟨kind, r, n, held⟩ h] at hc; cases hc
    · omega
  by_cases h1 : kind = 1
  · subst h1
    unfold chk at hc
    simp only at hc
    split at hc
    · cases hc
    · simp only [if_true] at hc
      unfold chkR at hc
      simp only at hc
      have h8 : held = 0 ∨ held = 2 ∨ (held = 4 ∨ held = 6) ∧ r ≠ 32 := by
        split at hc
        · have := of_decide_eq_true hc
          omega
        · split at hc
          · omega
          · cases hc
      by_cases h32 : r = 32
      · subst h32
        have h02 : held = 0 ∨ held = 2 := by omega
        rcases h02 with rfl | rfl
        · exact kn_is (kn_space_0 n w) (nm_eq _ _ [83, 112, 97, 99, 101] hold_0 rfl)
        · exact kn_is (kn_space_2 n w) (nm_eq _ _ [83, 112, 97, 99, 101] hold_2 rfl)
      · have hb : ∀ hd, bareN ⟨1, r, n, hd⟩ = Lib.encodeRune r := fun hd => by
          unfold bareN
          simp only
          rw [if_neg (by omega), if_neg (by omega), if_neg h32]
        have h02 : held = 0 ∨ held = 2 ∨ held = 4 ∨ held = 6 := by omega
        rcases h02 with rfl | rfl | rfl | rfl
        · exact kn_is (kn_rune_0 r n w h32) (by rw [encode_eq]; exact nm_eq _ ⟨1, r, n, 0⟩ _ hold_0 (hb 0))
        · exact kn_is (kn_rune_2 r n w h32) (by rw [encode_eq]; exact nm_eq _ ⟨1, r, n, 2⟩ _ hold_2 (hb 2))
        · exact kn_is (kn_rune_4 r n w h32) (by rw [encode_eq]; exact nm_eq _ ⟨1, r, n, 4⟩ _ hold_4 (hb 4))
        · exact kn_is (kn_rune_6 r n w h32) (by rw [encode_eq]; exact nm_eq _ ⟨1, r, n, 6⟩ _ hold_6 (hb 6))
  · have h8 : held = 0 ∨ held = 1 ∨ held = 2 ∨ held = 3 ∨ held = 4 ∨ held = 5 ∨ held = 6 ∨ held = 7 := by omega
    by_cases h15 : kind = 15
    · subst h15
      have hn : 1 ≤ n ∧ n ≤ 12 := by
        unfold chk at hc
        simp only at hc
        split at hc
        · cases hc
        · simpa using hc
      obtain ⟨j, rfl⟩ : ∃ j : Nat, n = (j : Int) := ⟨n.toNat, by omega⟩
      have hb : ∀ hd, bareN ⟨15, r, (j : Int), hd⟩ = [70] ++ digB j := fun hd => by
        unfold bareN
        simp only
        rw [if_pos trivial]
        rfl
      rcases h8 with rfl | rfl | rfl | rfl | rfl | rfl | rfl | rfl
      · exact kn_is (kn_func_0 r w j (by omega) (by omega)) (by rw [ByteArray.append_assoc, show (⟨#[70]⟩ ++ bs (digB j) : ByteArray) = bs ([70] ++ digB j) from Txt.bs_append [70] (digB j)]; exact nm_eq _ ⟨15, r, (j : Int), 0⟩ _ hold_0 (hb 0))
      · exact kn_is (kn_func_1 r w j (by omega) (by omega)) (by rw [ByteArray.append_assoc, show (⟨#[70]⟩ ++ bs (digB j) : ByteArray) = bs ([70] ++ digB j) from Txt.bs_append [70] (digB j)]; exact nm_eq _ ⟨15, r, (j : Int), 1⟩ _ hold_1 (hb 1))
      · exact kn_is (kn_func_2 r w j (by omega) (by omega)) (by rw [ByteArray.append_assoc, show (⟨#[70]⟩ ++ bs (digB j) : ByteArray) = bs ([70] ++ digB j) from Txt.bs_append [70] (digB j)]; exact nm_eq _ ⟨15, r, (j : Int), 2⟩ _ hold_2 (hb 2))
      · exact kn_is (kn_func_3 r w j (by omega) (by omega)) (by rw [ByteArray.append_assoc, show (⟨#[70]⟩ ++ bs (digB j) : ByteArray) = bs ([70] ++ digB j) from Txt.bs_append [70] (digB j)]; exact nm_eq _ ⟨15, r, (j : Int), 3⟩ _ hold_3 (hb 3))
      · exact kn_is (kn_func_4 r w j (by omega) (by omega)) (by rw [ByteArray.append_assoc, show (⟨#[70]⟩ ++ bs (digB j) : ByteArray) = bs ([70] ++ digB j) from Txt.bs_append [70] (digB j)]; exact nm_eq _ ⟨15, r, (j : Int), 4⟩ _ hold_4 (hb 4))
      · exact kn_is (kn_func_5 r w j (by omega) (by omega)) (by rw [ByteArray.append_assoc, show (⟨#[70]⟩ ++ bs (digB j) : ByteArray) = bs ([70] ++ digB j) from Txt.bs_append [70] (digB j)]; exact nm_eq _ ⟨15, r, (j : Int), 5⟩ _ hold_5 (hb 5))
      · exact kn_is (kn_func_6 r w j (by omega) (by omega)) (by rw [ByteArray.append_assoc, show (⟨#[70]⟩ ++ bs (digB j) : ByteArray) = bs ([70] ++ digB j) from Txt.bs_append [70] (digB j)]; exact nm_eq _ ⟨15, r, (j : Int), 6⟩ _ hold_6 (hb 6))
      · exact kn_is (kn_func_7 r w j (by omega) (by omega)) (by rw [ByteArray.append_assoc, show (⟨#[70]⟩ ++ bs (digB j) : ByteArray) = bs ([70] ++ digB j) from Txt.bs_append [70] (digB j)]; exact nm_eq _ ⟨15, r, (j : Int), 7⟩ _ hold_7 (hb 7))
    · have hk : 2 ≤ kind ∧ kind ≤ 14 := by
        unfold chk at hc
        simp only at hc
        repeat' split at hc
        all_goals first | (cases hc; done) | omega | (have := of_decide_eq_true hc; omega)
      obtain ⟨i, rfl⟩ : ∃ i : Nat, kind = (i : Int) + 2 := ⟨(kind - 2).toNat, by omega⟩
      have hb : ∀ hd, bareN ⟨(i : Int) + 2, r, n, hd⟩ = namesL.getD (i + 2) [] := fun hd => by
        unfold bareN
        simp only
        rw [if_neg h15, if_pos h1, show ((i : Int) + 2).toNat = i + 2 by omega]
      rcases h8 with rfl | rfl | rfl | rfl | rfl | rfl | rfl | rfl
      · exact kn_is (kn_other_0 r n w i (by omega) hS) (nm_eq _ ⟨(i : Int) + 2, r, n, 0⟩ _ hold_0 (hb 0))
      · exact kn_is (kn_other_1 r n w i (by omega) hS) (nm_eq _ ⟨(i : Int) + 2, r, n, 1⟩ _ hold_1 (hb 1))
      · exact kn_is (kn_other_2 r n w i (by omega) hS) (nm_eq _ ⟨(i : Int) + 2, r, n, 2⟩ _ hold_2 (hb 2))
      · exact kn_is (kn_other_3 r n w i (by omega) hS) (nm_eq _ ⟨(i : Int) + 2, r, n, 3⟩ _ hold_3 (hb 3))
      · exact kn_is (kn_other_4 r n w i (by omega) hS) (nm_eq _ ⟨(i : Int) + 2, r, n, 4⟩ _ hold_4 (hb 4))
      · exact kn_is (kn_other_5 r n w i (by omega) hS) (nm_eq _ ⟨(i : Int) + 2, r, n, 5⟩ _ hold_5 (hb 5))
      · exact kn_is (kn_other_6 r n w i (by omega) hS) (nm_eq _ ⟨(i : Int) + 2, r, n, 6⟩ _ hold_6 (hb 6))
      · exact kn_is (kn_other_7 r n w i (by omega) hS) (nm_eq _ ⟨(i : Int) + 2, r, n, 7⟩ _ hold_7 (hb 7))
end Kys
end Go.Proofs.YtdmooeoklcjplaaDoor

/- The reference's IsKey, the rest. (Written by gen_keysrefi.py.) -/
namespace Go.Proofs.YtdmooeoklcjplaaDoor
open Go.ChangeShapes Go.WideShapes Go.ChangeAt Go.RowKit Go.Maps
namespace Kys
open Txt (wd bs)
set_option maxHeartbeats 4000000 in
set_option maxRecDepth 100000 in
theorem isKey_1_0a (r : Int) (w : World) (hk : Wf ⟨1, r, 0, 0⟩) (hw : wd r = 0) :
    Calls Tryd.prog 7 #[kyv ⟨1, r, 0, 0⟩] w fun e w' => e = .returned (.bool false) ∧ Below w.heap.size w w' := by
  have HL := fun (W : World) (b : Nat) (h : SeqAt W b seqT) => sq_run h 1 r 0 (wf_bare hk)
  rw [show sq ⟨1, r, 0, 0⟩ = [] from sq_no _ (fun h => by unfold isSq at h; simp only at h; omega), show bs ([] : List UInt8) = ⟨#[]⟩ from rfl] at HL
  clear hk
  have HW := fun W => Txt.widthOf_any r W
  rw [hw] at HW
  unfold kyv
  go_enter Tryd.func7, Tryd.ntmps7
  go_upto_region 5 with fail
  obtain ⟨kb0, z0, z1⟩ := two_blocks w #[.int .i64 1, .int .i32 r, .int .i64 0, .int .i64 0] #[.int .i64 1, .int .i32 r, .int .i64 0, .int .i64 0] 23
  generalize (w.alloc (.cells #[.int .i64 1, .int .i32 r, .int .i64 0, .int .i64 0] 23)).alloc (.cells #[.int .i64 1, .int .i32 r, .int .i64 0, .int .i64 0] 23) = W0 at *
  obtain ⟨⟨c0, c1, c2, c3⟩, _⟩ := four_cells z1
  go_region_with (go_at_call 18; refine (sequences_any _).mono ?_; rintro e W1 ⟨rfl, hS, hB, hlt⟩; have y0 := by_drew z1 hB; obtain ⟨⟨d0, d1, d2, d3⟩, _⟩ := four_cells y0; have hl := HL W1 W0.heap.size hS)
  all_goals have zz := by_drew z0 hB
  all_goals obtain ⟨⟨e0, e1, e2, e3⟩, _⟩ := four_cells zz
  all_goals have kb1 := below_drew kb0 hB
  all_goals clear c0 c1 c2 c3 d0 d1 d2 d3 hS hB hlt HL y0 z0 z1 hl kb0
  all_goals go_wp2_with (first | (go_at_call 19; refine (HW _).mono ?_; rintro e W2 ⟨rfl, b2⟩; replace kb1 := kb1.trans (b2.mono kb1.size); obtain ⟨⟨e0, e1, e2, e3⟩, _⟩ := four_cells (by_block zz b2)) | (go_at_call 20; refine (HV _).mono ?_; rintro e W3 ⟨rfl, hW⟩; subst hW))
  all_goals go_ret
  all_goals exact ⟨rfl, kb1⟩
set_option maxHeartbeats 4000000 in
set_option maxRecDepth 100000 in
theorem isKey_1_0b (r : Int) (w : World) (hk : Wf ⟨1, r, 0, 0⟩) (hw : wd r ≠ 0) :
    Calls Tryd.prog 7 #[kyv ⟨1, r, 0, 0⟩] w fun e w' => e = .returned (.bool true) ∧ Below w.heap.size w w' := by
  have HL := fun (W : World) (b : Nat) (h : SeqAt W b seqT) => sq_run h 1 r 0 (wf_bare hk)
  rw [show sq ⟨1, r, 0, 0⟩ = [] from sq_no _ (fun h => by unfold isSq at h; simp only at h; omega), show bs ([] : List UInt8) = ⟨#[]⟩ from rfl] at HL
  clear hk
  have hv : Lib.validRune r = true := decide_eq_true (wd_bounds r hw).1
  have hp := (Txt.wd_range r).1
  have HW := fun W => Txt.widthOf_any r W
  have HV := fun W => Tryd.utf8_ValidRune r W
  rw [hv] at HV
  have hd : 0 < wd r := by omega
  clear hw hp hv
  generalize wd r = d at *
  unfold kyv
  go_enter Tryd.func7, Tryd.ntmps7
  go_upto_region 5 with fail
  obtain ⟨kb0, z0, z1⟩ := two_blocks w #[.int .i64 1, .int .i32 r, .int .i64 0, .int .i64 0] #[.int .i64 1, .int .i32 r, .int .i64 0, .int .i64 0] 23
  generalize (w.alloc (.cells #[.int .i64 1, .int .i32 r, .int .i64 0, .int .i64 0] 23)).alloc (.cells #[.int .i64 1, .int .i32 r, .int .i64 0, .int .i64 0] 23) = W0 at *
  obtain ⟨⟨c0, c1, c2, c3⟩, _⟩ := four_cells z1
  go_region_with (go_at_call 18; refine (sequences_any _).mono ?_; rintro e W1 ⟨rfl, hS, hB, hlt⟩; have y0 := by_drew z1 hB; obtain ⟨⟨d0, d1, d2, d3⟩, _⟩ := four_cells y0; have hl := HL W1 W0.heap.size hS)
  all_goals have zz := by_drew z0 hB
  all_goals obtain ⟨⟨e0, e1, e2, e3⟩, _⟩ := four_cells zz
  all_goals have kb1 := below_drew kb0 hB
  all_goals clear c0 c1 c2 c3 d0 d1 d2 d3 hS hB hlt HL y0 z0 z1 hl kb0
  all_goals go_wp2_with (first | (go_at_call 19; refine (HW _).mono ?_; rintro e W2 ⟨rfl, b2⟩; replace kb1 := kb1.trans (b2.mono kb1.size); obtain ⟨⟨e0, e1, e2, e3⟩, _⟩ := four_cells (by_block zz b2)) | (go_at_call 20; refine (HV _).mono ?_; rintro e W3 ⟨rfl, hW⟩; subst hW))
  all_goals go_ret
  all_goals exact ⟨rfl, kb1⟩
set_option maxHeartbeats 4000000 in
set_option maxRecDepth 100000 in
theorem isKey_1_2a (r : Int) (w : World) (hk : Wf ⟨1, r, 0, 2⟩) (hw : wd r = 0) :
    Calls Tryd.prog 7 #[kyv ⟨1, r, 0, 2⟩] w fun e w' => e = .returned (.bool false) ∧ Below w.heap.size w w' := by
  have HL := fun (W : World) (b : Nat) (h : SeqAt W b seqT) => sq_run h 1 r 0 (wf_bare hk)
  rw [show sq ⟨1, r, 0, 0⟩ = [] from sq_no _ (fun h => by unfold isSq at h; simp only at h; omega), show bs ([] : List UInt8) = ⟨#[]⟩ from rfl] at HL
  clear hk
  have HW := fun W => Txt.widthOf_any r W
  rw [hw] at HW
  unfold kyv
  go_enter Tryd.func7, Tryd.ntmps7
  go_upto_region 5 with fail
  obtain ⟨kb0, z0, z1⟩ := two_blocks w #[.int .i64 1, .int .i32 r, .int .i64 0, .int .i64 2] #[.int .i64 1, .int .i32 r, .int .i64 0, .int .i64 0] 23
  generalize (w.alloc (.cells #[.int .i64 1, .int .i32 r, .int .i64 0, .int .i64 2] 23)).alloc (.cells #[.int .i64 1, .int .i32 r, .int .i64 0, .int .i64 0] 23) = W0 at *
  obtain ⟨⟨c0, c1, c2, c3⟩, _⟩ := four_cells z1
  go_region_with (go_at_call 18; refine (sequences_any _).mono ?_; rintro e W1 ⟨rfl, hS, hB, hlt⟩; have y0 := by_drew z1 hB; obtain ⟨⟨d0, d1, d2, d3⟩, _⟩ := four_cells y0; have hl := HL W1 W0.heap.size hS)
  all_goals have zz := by_drew z0 hB
  all_goals obtain ⟨⟨e0, e1, e2, e3⟩, _⟩ := four_cells zz
  all_goals have kb1 := below_drew kb0 hB
  all_goals clear c0 c1 c2 c3 d0 d1 d2 d3 hS hB hlt HL y0 z0 z1 hl kb0
  all_goals go_wp2_with (first | (go_at_call 19; refine (HW _).mono ?_; rintro e W2 ⟨rfl, b2⟩; replace kb1 := kb1.trans (b2.mono kb1.size); obtain ⟨⟨e0, e1, e2, e3⟩, _⟩ := four_cells (by_block zz b2)) | (go_at_call 20; refine (HV _).mono ?_; rintro e W3 ⟨rfl, hW⟩; subst hW))
  all_goals go_ret
  all_goals exact ⟨rfl, kb1⟩
set_option maxHeartbeats 4000000 in
set_option maxRecDepth 100000 in
theorem isKey_1_2b (r : Int) (w : World) (hk : Wf ⟨1, r, 0, 2⟩) (hw : wd r ≠ 0) (h1 : r ≠ 91) (h2 : r ≠ 79) :
    Calls Tryd.prog 7 #[kyv ⟨1, r, 0, 2⟩] w fun e w' => e = .returned (.bool true) ∧ Below w.heap.size w w' := by
  have HL := fun (W : World) (b : Nat) (h : SeqAt W b seqT) => sq_run h 1 r 0 (wf_bare hk)
  rw [show sq ⟨1, r, 0, 0⟩ = [] from sq_no _ (fun h => by unfold isSq at h; simp only at h; omega), show bs ([] : List UInt8) = ⟨#[]⟩ from rfl] at HL
  clear hk
  have hv : Lib.validRune r = true := decide_eq_true (wd_bounds r hw).1
  have hp := (Txt.wd_range r).1
  have HW := fun W => Txt.widthOf_any r W
  have HV := fun W => Tryd.utf8_ValidRune r W
  rw [hv] at HV
  have hd : 0 < wd r := by omega
  clear hw hp hv
  generalize wd r = d at *
  have q1 : (r != 91) = true := by simpa using h1
  have q2 : (r != 79) = true := by simpa using h2
  clear h1 h2
  unfold kyv
  go_enter Tryd.func7, Tryd.ntmps7
  go_upto_region 5 with fail
  obtain ⟨kb0, z0, z1⟩ := two_blocks w #[.int .i64 1, .int .i32 r, .int .i64 0, .int .i64 2] #[.int .i64 1, .int .i32 r, .int .i64 0, .int .i64 0] 23
  generalize (w.alloc (.cells #[.int .i64 1, .int .i32 r, .int .i64 0, .int .i64 2] 23)).alloc (.cells #[.int .i64 1, .int .i32 r, .int .i64 0, .int .i64 0] 23) = W0 at *
  obtain ⟨⟨c0, c1, c2, c3⟩, _⟩ := four_cells z1
  go_region_with (go_at_call 18; refine (sequences_any _).mono ?_; rintro e W1 ⟨rfl, hS, hB, hlt⟩; have y0 := by_drew z1 hB; obtain ⟨⟨d0, d1, d2, d3⟩, _⟩ := four_cells y0; have hl := HL W1 W0.heap.size hS)
  all_goals have zz := by_drew z0 hB
  all_goals obtain ⟨⟨e0, e1, e2, e3⟩, _⟩ := four_cells zz
  all_goals have kb1 := below_drew kb0 hB
  all_goals clear c0 c1 c2 c3 d0 d1 d2 d3 hS hB hlt HL y0 z0 z1 hl kb0
  all_goals go_wp2_with (first | (go_at_call 19; refine (HW _).mono ?_; rintro e W2 ⟨rfl, b2⟩; replace kb1 := kb1.trans (b2.mono kb1.size); obtain ⟨⟨e0, e1, e2, e3⟩, _⟩ := four_cells (by_block zz b2)) | (go_at_call 20; refine (HV _).mono ?_; rintro e W3 ⟨rfl, hW⟩; subst hW))
  all_goals go_ret
  all_goals exact ⟨rfl, kb1⟩
set_option maxHeartbeats 4000000 in
set_option maxRecDepth 100000 in
theorem isKey_1_2_91 (w : World) (hk : Wf ⟨1, 91, 0, 2⟩) :
    Calls Tryd.prog 7 #[kyv ⟨1, 91, 0, 2⟩] w fun e w' => e = .returned (.bool false) ∧ Below w.heap.size w w' := by
  have HL := fun (W : World) (b : Nat) (h : SeqAt W b seqT) => sq_run h 1 91 0 (wf_bare hk)
  rw [show sq ⟨1, 91, 0, 0⟩ = [] from sq_no _ (fun h => by unfold isSq at h; simp only at h; omega), show bs ([] : List UInt8) = ⟨#[]⟩ from rfl] at HL
  clear hk
  have HW := fun W => Txt.widthOf_any 91 W
  rw [show wd 91 = 1 by decide +kernel] at HW
  have HV := fun W => Tryd.utf8_ValidRune 91 W
  rw [show Lib.validRune 91 = true by decide] at HV
  unfold kyv
  go_enter Tryd.func7, Tryd.ntmps7
  go_upto_region 5 with fail
  obtain ⟨kb0, z0, z1⟩ := two_blocks w #[.int .i64 1, .int .i32 91, .int .i64 0, .int .i64 2] #[.int .i64 1, .int .i32 91, .int .i64 0, .int .i64 0] 23
  generalize (w.alloc (.cells #[.int .i64 1, .int .i32 91, .int .i64 0, .int .i64 2] 23)).alloc (.cells #[.int .i64 1, .int .i32 91, .int .i64 0, .int .i64 0] 23) = W0 at *
  obtain ⟨⟨c0, c1, c2, c3⟩, _⟩ := four_cells z1
  go_region_with (go_at_call 18; refine (sequences_any _).mono ?_; rintro e W1 ⟨rfl, hS, hB, hlt⟩; have y0 := by_drew z1 hB; obtain ⟨⟨d0, d1, d2, d3⟩, _⟩ := four_cells y0; have hl := HL W1 W0.heap.size hS)
  all_goals have zz := by_drew z0 hB
  all_goals obtain ⟨⟨e0, e1, e2, e3⟩, _⟩ := four_cells zz
  all_goals have kb1 := below_drew kb0 hB
  all_goals clear c0 c1 c2 c3 d0 d1 d2 d3 hS hB hlt HL y0 z0 z1 hl kb0
  all_goals go_wp2_with (first | (go_at_call 19; refine (HW _).mono ?_; rintro e W2 ⟨rfl, b2⟩; replace kb1 := kb1.trans (b2.mono kb1.size); obtain ⟨⟨e0, e1, e2, e3⟩, _⟩ := four_cells (by_block zz b2)) | (go_at_call 20; refine (HV _).mono ?_; rintro e W3 ⟨rfl, hW⟩; subst hW))
  all_goals go_ret
  all_goals exact ⟨rfl, kb1⟩
set_option maxHeartbeats 4000000 in
set_option maxRecDepth 100000 in
theorem isKey_1_2_79 (w : World) (hk : Wf ⟨1, 79, 0, 2⟩) :
    Calls Tryd.prog 7 #[kyv ⟨1, 79, 0, 2⟩] w fun e w' => e = .returned (.bool false) ∧ Below w.heap.size w w' := by
  have HL := fun (W : World) (b : Nat) (h : SeqAt W b seqT) => sq_run h 1 79 0 (wf_bare hk)
  rw [show sq ⟨1, 79, 0, 0⟩ = [] from sq_no _ (fun h => by unfold isSq at h; simp only at h; omega), show bs ([] : List UInt8) = ⟨#[]⟩ from rfl] at HL
  clear hk
  have HW := fun W => Txt.widthOf_any 79 W
  rw [show wd 79 = 1 by decide +kernel] at HW
  have HV := fun W => Tryd.utf8_ValidRune 79 W
  rw [show Lib.validRune 79 = true by decide] at HV
  unfold kyv
  go_enter Tryd.func7, Tryd.ntmps7
  go_upto_region 5 with fail
  obtain ⟨kb0, z0, z1⟩ := two_blocks w #[.int .i64 1, .int .i32 79, .int .i64 0, .int .i64 2] #[.int .i64 1, .int .i32 79, .int .i64 0, .int .i64 0] 23
  generalize (w.alloc (.cells #[.int .i64 1, .int .i32 79, .int .i64 0, .int .i64 2] 23)).alloc (.cells #[.int .i64 1, .int .i32 79, .int .i64 0, .int .i64 0] 23) = W0 at *
  obtain ⟨⟨c0, c1, c2, c3⟩, _⟩ := four_cells z1
  go_region_with (go_at_call 18; refine (sequences_any _).mono ?_; rintro e W1 ⟨rfl, hS, hB, hlt⟩; have y0 := by_drew z1 hB; obtain ⟨⟨d0, d1, d2, d3⟩, _⟩ := four_cells y0; have hl := HL W1 W0.heap.size hS)
  all_goals have zz := by_drew z0 hB
  all_goals obtain ⟨⟨e0, e1, e2, e3⟩, _⟩ := four_cells zz
  all_goals have kb1 := below_drew kb0 hB
  all_goals clear c0 c1 c2 c3 d0 d1 d2 d3 hS hB hlt HL y0 z0 z1 hl kb0
  all_goals go_wp2_with (first | (go_at_call 19; refine (HW _).mono ?_; rintro e W2 ⟨rfl, b2⟩; replace kb1 := kb1.trans (b2.mono kb1.size); obtain ⟨⟨e0, e1, e2, e3⟩, _⟩ := four_cells (by_block zz b2)) | (go_at_call 20; refine (HV _).mono ?_; rintro e W3 ⟨rfl, hW⟩; subst hW))
  all_goals go_ret
  all_goals exact ⟨rfl, kb1⟩
set_option maxHeartbeats 4000000 in
set_option maxRecDepth 100000 in
theorem isKey_1_4_a (r : Int) (w : World) (hk : Wf ⟨1, r, 0, 4⟩) (h : r < 97) :
    Calls Tryd.prog 7 #[kyv ⟨1, r, 0, 4⟩] w fun e w' => e = .returned (.bool false) ∧ Below w.heap.size w w' := by
  have HL := fun (W : World) (b : Nat) (h : SeqAt W b seqT) => sq_run h 1 r 0 (wf_bare hk)
  rw [show sq ⟨1, r, 0, 0⟩ = [] from sq_no _ (fun h => by unfold isSq at h; simp only at h; omega), show bs ([] : List UInt8) = ⟨#[]⟩ from rfl] at HL
  clear hk
  unfold kyv
  go_enter Tryd.func7, Tryd.ntmps7
  go_upto_region 5 with fail
  obtain ⟨kb0, z0, z1⟩ := two_blocks w #[.int .i64 1, .int .i32 r, .int .i64 0, .int .i64 4] #[.int .i64 1, .int .i32 r, .int .i64 0, .int .i64 0] 23
  generalize (w.alloc (.cells #[.int .i64 1, .int .i32 r, .int .i64 0, .int .i64 4] 23)).alloc (.cells #[.int .i64 1, .int .i32 r, .int .i64 0, .int .i64 0] 23) = W0 at *
  obtain ⟨⟨c0, c1, c2, c3⟩, _⟩ := four_cells z1
  go_region_with (go_at_call 18; refine (sequences_any _).mono ?_; rintro e W1 ⟨rfl, hS, hB, hlt⟩; have y0 := by_drew z1 hB; obtain ⟨⟨d0, d1, d2, d3⟩, _⟩ := four_cells y0; have hl := HL W1 W0.heap.size hS)
  all_goals have zz := by_drew z0 hB
  all_goals obtain ⟨⟨e0, e1, e2, e3⟩, _⟩ := four_cells zz
  all_goals have kb1 := below_drew kb0 hB
  all_goals clear c0 c1 c2 c3 d0 d1 d2 d3 hS hB hlt HL y0 z0 z1 hl kb0
  all_goals go_wp2_with fail
  all_goals go_ret
  all_goals exact ⟨rfl, kb1⟩
set_option maxHeartbeats 4000000 in
set_option maxRecDepth 100000 in
theorem isKey_1_4_b (r : Int) (w : World) (hk : Wf ⟨1, r, 0, 4⟩) (h : 122 < r) :
    Calls Tryd.prog 7 #[kyv ⟨1, r, 0, 4⟩] w fun e w' => e = .returned (.bool false) ∧ Below w.heap.size w w' := by
  have HL := fun (W : World) (b : Nat) (h : SeqAt W b seqT) => sq_run h 1 r 0 (wf_bare hk)
  rw [show sq ⟨1, r, 0, 0⟩ = [] from sq_no _ (fun h => by unfold isSq at h; simp only at h; omega), show bs ([] : List UInt8) = ⟨#[]⟩ from rfl] at HL
  clear hk
  have h97 : ¬ r < 97 := by omega
  unfold kyv
  go_enter Tryd.func7, Tryd.ntmps7
  go_upto_region 5 with fail
  obtain ⟨kb0, z0, z1⟩ := two_blocks w #[.int .i64 1, .int .i32 r, .int .i64 0, .int .i64 4] #[.int .i64 1, .int .i32 r, .int .i64 0, .int .i64 0] 23
  generalize (w.alloc (.cells #[.int .i64 1, .int .i32 r, .int .i64 0, .int .i64 4] 23)).alloc (.cells #[.int .i64 1, .int .i32 r, .int .i64 0, .int .i64 0] 23) = W0 at *
  obtain ⟨⟨c0, c1, c2, c3⟩, _⟩ := four_cells z1
  go_region_with (go_at_call 18; refine (sequences_any _).mono ?_; rintro e W1 ⟨rfl, hS, hB, hlt⟩; have y0 := by_drew z1 hB; obtain ⟨⟨d0, d1, d2, d3⟩, _⟩ := four_cells y0; have hl := HL W1 W0.heap.size hS)
  all_goals have zz := by_drew z0 hB
  all_goals obtain ⟨⟨e0, e1, e2, e3⟩, _⟩ := four_cells zz
  all_goals have kb1 := below_drew kb0 hB
  all_goals clear c0 c1 c2 c3 d0 d1 d2 d3 hS hB hlt HL y0 z0 z1 hl kb0
  all_goals go_wp2_with fail
  all_goals go_ret
  all_goals exact ⟨rfl, kb1⟩
set_option maxHeartbeats 4000000 in
set_option maxRecDepth 100000 in
theorem isKey_1_4_c (r : Int) (w : World) (hk : Wf ⟨1, r, 0, 4⟩) (h1 : 97 ≤ r) (h2 : r ≤ 122) :
    Calls Tryd.prog 7 #[kyv ⟨1, r, 0, 4⟩] w fun e w' => e = .returned (.bool (!decide (r = 104 ∨ r = 105 ∨ r = 109))) ∧ Below w.heap.size w w' := by
  have HL := fun (W : World) (b : Nat) (h : SeqAt W b seqT) => sq_run h 1 r 0 (wf_bare hk)
  rw [show sq ⟨1, r, 0, 0⟩ = [] from sq_no _ (fun h => by unfold isSq at h; simp only at h; omega), show bs ([] : List UInt8) = ⟨#[]⟩ from rfl] at HL
  clear hk
  have h97 : ¬ r < 97 := by omega
  have h122 : ¬ 122 < r := by omega
  have HC := fun W => Tryd.strings_ContainsRune_ascii ⟨#[104, 105, 109]⟩ r W (by omega) (by omega)
  rw [show (⟨#[104, 105, 109]⟩ : ByteArray).data.toList = [104, 105, 109] from rfl, him r h1 h2] at HC
  generalize decide (r = 104 ∨ r = 105 ∨ r = 109) = x at *
  clear h1 h2
  unfold kyv
  go_enter Tryd.func7, Tryd.ntmps7
  go_upto_region 5 with fail
  obtain ⟨kb0, z0, z1⟩ := two_blocks w #[.int .i64 1, .int .i32 r, .int .i64 0, .int .i64 4] #[.int .i64 1, .int .i32 r, .int .i64 0, .int .i64 0] 23
  generalize (w.alloc (.cells #[.int .i64 1, .int .i32 r, .int .i64 0, .int .i64 4] 23)).alloc (.cells #[.int .i64 1, .int .i32 r, .int .i64 0, .int .i64 0] 23) = W0 at *
  obtain ⟨⟨c0, c1, c2, c3⟩, _⟩ := four_cells z1
  go_region_with (go_at_call 18; refine (sequences_any _).mono ?_; rintro e W1 ⟨rfl, hS, hB, hlt⟩; have y0 := by_drew z1 hB; obtain ⟨⟨d0, d1, d2, d3⟩, _⟩ := four_cells y0; have hl := HL W1 W0.heap.size hS)
  all_goals have zz := by_drew z0 hB
  all_goals obtain ⟨⟨e0, e1, e2, e3⟩, _⟩ := four_cells zz
  all_goals have kb1 := below_drew kb0 hB
  all_goals clear c0 c1 c2 c3 d0 d1 d2 d3 hS hB hlt HL y0 z0 z1 hl kb0
  all_goals go_wp2_with (go_at_call 21; refine (HC _).mono ?_; rintro e W3 ⟨rfl, hW⟩; subst hW)
  all_goals go_ret
  all_goals exact ⟨rfl, kb1⟩
set_option maxHeartbeats 4000000 in
set_option maxRecDepth 100000 in
theorem isKey_1_6_a (r : Int) (w : World) (hk : Wf ⟨1, r, 0, 6⟩) (h : r < 97) :
    Calls Tryd.prog 7 #[kyv ⟨1, r, 0, 6⟩] w fun e w' => e = .returned (.bool false) ∧ Below w.heap.size w w' := by
  have HL := fun (W : World) (b : Nat) (h : SeqAt W b seqT) => sq_run h 1 r 0 (wf_bare hk)
  rw [show sq ⟨1, r, 0, 0⟩ = [] from sq_no _ (fun h => by unfold isSq at h; simp only at h; omega), show bs ([] : List UInt8) = ⟨#[]⟩ from rfl] at HL
  clear hk
  unfold kyv
  go_enter Tryd.func7, Tryd.ntmps7
  go_upto_region 5 with fail
  obtain ⟨kb0, z0, z1⟩ := two_blocks w #[.int .i64 1, .int .i32 r, .int .i64 0, .int .i64 6] #[.int .i64 1, .int .i32 r, .int .i64 0, .int .i64 0] 23
  generalize (w.alloc (.cells #[.int .i64 1, .int .i32 r, .int .i64 0, .int .i64 6] 23)).alloc (.cells #[.int .i64 1, .int .i32 r, .int .i64 0, .int .i64 0] 23) = W0 at *
  obtain ⟨⟨c0, c1, c2, c3⟩, _⟩ := four_cells z1
  go_region_with (go_at_call 18; refine (sequences_any _).mono ?_; rintro e W1 ⟨rfl, hS, hB, hlt⟩; have y0 := by_drew z1 hB; obtain ⟨⟨d0, d1, d2, d3⟩, _⟩ := four_cells y0; have hl := HL W1 W0.heap.size hS)
  all_goals have zz := by_drew z0 hB
  all_goals obtain ⟨⟨e0, e1, e2, e3⟩, _⟩ := four_cells zz
  all_goals have kb1 := below_drew kb0 hB
  all_goals clear c0 c1 c2 c3 d0 d1 d2 d3 hS hB hlt HL y0 z0 z1 hl kb0
  all_goals go_wp2_with fail
  all_goals go_ret
  all_goals exact ⟨rfl, kb1⟩
set_option maxHeartbeats 4000000 in
set_option maxRecDepth 100000 in
theorem isKey_1_6_b (r : Int) (w : World) (hk : Wf ⟨1, r, 0, 6⟩) (h : 122 < r) :
    Calls Tryd.prog 7 #[kyv ⟨1, r, 0, 6⟩] w fun e w' => e = .returned (.bool false) ∧ Below w.heap.size w w' := by
  have HL := fun (W : World) (b : Nat) (h : SeqAt W b seqT) => sq_run h 1 r 0 (wf_bare hk)
  rw [show sq ⟨1, r, 0, 0⟩ = [] from sq_no _ (fun h => by unfold isSq at h; simp only at h; omega), show bs ([] : List UInt8) = ⟨#[]⟩ from rfl] at HL
  clear hk
  have h97 : ¬ r < 97 := by omega
  unfold kyv
  go_enter Tryd.func7, Tryd.ntmps7
  go_upto_region 5 with fail
  obtain ⟨kb0, z0, z1⟩ := two_blocks w #[.int .i64 1, .int .i32 r, .int .i64 0, .int .i64 6] #[.int .i64 1, .int .i32 r, .int .i64 0, .int .i64 0] 23
  generalize (w.alloc (.cells #[.int .i64 1, .int .i32 r, .int .i64 0, .int .i64 6] 23)).alloc (.cells #[.int .i64 1, .int .i32 r, .int .i64 0, .int .i64 0] 23) = W0 at *
  obtain ⟨⟨c0, c1, c2, c3⟩, _⟩ := four_cells z1
  go_region_with (go_at_call 18; refine (sequences_any _).mono ?_; rintro e W1 ⟨rfl, hS, hB, hlt⟩; have y0 := by_drew z1 hB; obtain ⟨⟨d0, d1, d2, d3⟩, _⟩ := four_cells y0; have hl := HL W1 W0.heap.size hS)
  all_goals have zz := by_drew z0 hB
  all_goals obtain ⟨⟨e0, e1, e2, e3⟩, _⟩ := four_cells zz
  all_goals have kb1 := below_drew kb0 hB
  all_goals clear c0 c1 c2 c3 d0 d1 d2 d3 hS hB hlt HL y0 z0 z1 hl kb0
  all_goals go_wp2_with fail
  all_goals go_ret
  all_goals exact ⟨rfl, kb1⟩
set_option maxHeartbeats 4000000 in
set_option maxRecDepth 100000 in
theorem isKey_1_6_c (r : Int) (w : World) (hk : Wf ⟨1, r, 0, 6⟩) (h1 : 97 ≤ r) (h2 : r ≤ 122) :
    Calls Tryd.prog 7 #[kyv ⟨1, r, 0, 6⟩] w fun e w' => e = .returned (.bool (!decide (r = 104 ∨ r = 105 ∨ r = 109))) ∧ Below w.heap.size w w' := by
  have HL := fun (W : World) (b : Nat) (h : SeqAt W b seqT) => sq_run h 1 r 0 (wf_bare hk)
  rw [show sq ⟨1, r, 0, 0⟩ = [] from sq_no _ (fun h => by unfold isSq at h; simp only at h; omega), show bs ([] : List UInt8) = ⟨#[]⟩ from rfl] at HL
  clear hk
  have h97 : ¬ r < 97 := by omega
  have h122 : ¬ 122 < r := by omega
  have HC := fun W => Tryd.strings_ContainsRune_ascii ⟨#[104, 105, 109]⟩ r W (by omega) (by omega)
  rw [show (⟨#[104, 105, 109]⟩ : ByteArray).data.toList = [104, 105, 109] from rfl, him r h1 h2] at HC
  generalize decide (r = 104 ∨ r = 105 ∨ r = 109) = x at *
  clear h1 h2
  unfold kyv
  go_enter Tryd.func7, Tryd.ntmps7
  go_upto_region 5 with fail
  obtain ⟨kb0, z0, z1⟩ := two_blocks w #[.int .i64 1, .int .i32 r, .int .i64 0, .int .i64 6] #[.int .i64 1, .int .i32 r, .int .i64 0, .int .i64 0] 23
  generalize (w.alloc (.cells #[.int .i64 1, .int .i32 r, .int .i64 0, .int .i64 6] 23)).alloc (.cells #[.int .i64 1, .int .i32 r, .int .i64 0, .int .i64 0] 23) = W0 at *
  obtain ⟨⟨c0, c1, c2, c3⟩, _⟩ := four_cells z1
  go_region_with (go_at_call 18; refine (sequences_any _).mono ?_; rintro e W1 ⟨rfl, hS, hB, hlt⟩; have y0 := by_drew z1 hB; obtain ⟨⟨d0, d1, d2, d3⟩, _⟩ := four_cells y0; have hl := HL W1 W0.heap.size hS)
  all_goals have zz := by_drew z0 hB
  all_goals obtain ⟨⟨e0, e1, e2, e3⟩, _⟩ := four_cells zz
  all_goals have kb1 := below_drew kb0 hB
  all_goals clear c0 c1 c2 c3 d0 d1 d2 d3 hS hB hlt HL y0 z0 z1 hl kb0
  all_goals go_wp2_with (go_at_call 21; refine (HC _).mono ?_; rintro e W3 ⟨rfl, hW⟩; subst hW)
  all_goals go_ret
  all_goals exact ⟨rfl, kb1⟩
set_option maxHeartbeats 4000000 in
set_option maxRecDepth 100000 in
theorem isKey_1_1 (r : Int) (w : World) (hk : Wf ⟨1, r, 0, 1⟩) :
    Calls Tryd.prog 7 #[kyv ⟨1, r, 0, 1⟩] w fun e w' => e = .returned (.bool false) ∧ Below w.heap.size w w' := by
  have HL := fun (W : World) (b : Nat) (h : SeqAt W b seqT) => sq_run h 1 r 0 (wf_bare hk)
  rw [show sq ⟨1, r, 0, 0⟩ = [] from sq_no _ (fun h => by unfold isSq at h; simp only at h; omega), show bs ([] : List UInt8) = ⟨#[]⟩ from rfl] at HL
  clear hk
  unfold kyv
  go_enter Tryd.func7, Tryd.ntmps7
  go_upto_region 5 with fail
  obtain ⟨kb0, z0, z1⟩ := two_blocks w #[.int .i64 1, .int .i32 r, .int .i64 0, .int .i64 1] #[.int .i64 1, .int .i32 r, .int .i64 0, .int .i64 0] 23
  generalize (w.alloc (.cells #[.int .i64 1, .int .i32 r, .int .i64 0, .int .i64 1] 23)).alloc (.cells #[.int .i64 1, .int .i32 r, .int .i64 0, .int .i64 0] 23) = W0 at *
  obtain ⟨⟨c0, c1, c2, c3⟩, _⟩ := four_cells z1
  go_region_with (go_at_call 18; refine (sequences_any _).mono ?_; rintro e W1 ⟨rfl, hS, hB, hlt⟩; have y0 := by_drew z1 hB; obtain ⟨⟨d0, d1, d2, d3⟩, _⟩ := four_cells y0; have hl := HL W1 W0.heap.size hS)
  all_goals have zz := by_drew z0 hB
  all_goals obtain ⟨⟨e0, e1, e2, e3⟩, _⟩ := four_cells zz
  all_goals have kb1 := below_drew kb0 hB
  all_goals clear c0 c1 c2 c3 d0 d1 d2 d3 hS hB hlt HL y0 z0 z1 hl kb0
  all_goals go_wp2_with fail
  all_goals go_ret
  all_goals exact ⟨rfl, kb1⟩
set_option maxHeartbeats 4000000 in
set_option maxRecDepth 100000 in
theorem isKey_1_3 (r : Int) (w : World) (hk : Wf ⟨1, r, 0, 3⟩) :
    Calls Tryd.prog 7 #[kyv ⟨1, r, 0, 3⟩] w fun e w' => e = .returned (.bool false) ∧ Below w.heap.size w w' := by
  have HL := fun (W : World) (b : Nat) (h : SeqAt W b seqT) => sq_run h 1 r 0 (wf_bare hk)
  rw [show sq ⟨1, r, 0, 0⟩ = [] from sq_no _ (fun h => by unfold isSq at h; simp only at h; omega), show bs ([] : List UInt8) = ⟨#[]⟩ from rfl] at HL
  clear hk
  unfold kyv
  go_enter Tryd.func7, Tryd.ntmps7
  go_upto_region 5 with fail
  obtain ⟨kb0, z0, z1⟩ := two_blocks w #[.int .i64 1, .int .i32 r, .int .i64 0, .int .i64 3] #[.int .i64 1, .int .i32 r, .int .i64 0, .int .i64 0] 23
  generalize (w.alloc (.cells #[.int .i64 1, .int .i32 r, .int .i64 0, .int .i64 3] 23)).alloc (.cells #[.int .i64 1, .int .i32 r, .int .i64 0, .int .i64 0] 23) = W0 at *
  obtain ⟨⟨c0, c1, c2, c3⟩, _⟩ := four_cells z1
  go_region_with (go_at_call 18; refine (sequences_any _).mono ?_; rintro e W1 ⟨rfl, hS, hB, hlt⟩; have y0 := by_drew z1 hB; obtain ⟨⟨d0, d1, d2, d3⟩, _⟩ := four_cells y0; have hl := HL W1 W0.heap.size hS)
  all_goals have zz := by_drew z0 hB
  all_goals obtain ⟨⟨e0, e1, e2, e3⟩, _⟩ := four_cells zz
  all_goals have kb1 := below_drew kb0 hB
  all_goals clear c0 c1 c2 c3 d0 d1 d2 d3 hS hB hlt HL y0 z0 z1 hl kb0
  all_goals go_wp2_with fail
  all_goals go_ret
  all_goals exact ⟨rfl, kb1⟩
set_option maxHeartbeats 4000000 in
set_option maxRecDepth 100000 in
theorem isKey_1_5 (r : Int) (w : World) (hk : Wf ⟨1, r, 0, 5⟩) :
    Calls Tryd.prog 7 #[kyv ⟨1, r, 0, 5⟩] w fun e w' => e = .returned (.bool false) ∧ Below w.heap.size w w' := by
  have HL := fun (W : World) (b : Nat) (h : SeqAt W b seqT) => sq_run h 1 r 0 (wf_bare hk)
  rw [show sq ⟨1, r, 0, 0⟩ = [] from sq_no _ (fun h => by unfold isSq at h; simp only at h; omega), show bs ([] : List UInt8) = ⟨#[]⟩ from rfl] at HL
  clear hk
  unfold kyv
  go_enter Tryd.func7, Tryd.ntmps7
  go_upto_region 5 with fail
  obtain ⟨kb0, z0, z1⟩ := two_blocks w #[.int .i64 1, .int .i32 r, .int .i64 0, .int .i64 5] #[.int .i64 1, .int .i32 r, .int .i64 0, .int .i64 0] 23
  generalize (w.alloc (.cells #[.int .i64 1, .int .i32 r, .int .i64 0, .int .i64 5] 23)).alloc (.cells #[.int .i64 1, .int .i32 r, .int .i64 0, .int .i64 0] 23) = W0 at *
  obtain ⟨⟨c0, c1, c2, c3⟩, _⟩ := four_cells z1
  go_region_with (go_at_call 18; refine (sequences_any _).mono ?_; rintro e W1 ⟨rfl, hS, hB, hlt⟩; have y0 := by_drew z1 hB; obtain ⟨⟨d0, d1, d2, d3⟩, _⟩ := four_cells y0; have hl := HL W1 W0.heap.size hS)
  all_goals have zz := by_drew z0 hB
  all_goals obtain ⟨⟨e0, e1, e2, e3⟩, _⟩ := four_cells zz
  all_goals have kb1 := below_drew kb0 hB
  all_goals clear c0 c1 c2 c3 d0 d1 d2 d3 hS hB hlt HL y0 z0 z1 hl kb0
  all_goals go_wp2_with fail
  all_goals go_ret
  all_goals exact ⟨rfl, kb1⟩
set_option maxHeartbeats 4000000 in
set_option maxRecDepth 100000 in
theorem isKey_1_7 (r : Int) (w : World) (hk : Wf ⟨1, r, 0, 7⟩) :
    Calls Tryd.prog 7 #[kyv ⟨1, r, 0, 7⟩] w fun e w' => e = .returned (.bool false) ∧ Below w.heap.size w w' := by
  have HL := fun (W : World) (b : Nat) (h : SeqAt W b seqT) => sq_run h 1 r 0 (wf_bare hk)
  rw [show sq ⟨1, r, 0, 0⟩ = [] from sq_no _ (fun h => by unfold isSq at h; simp only at h; omega), show bs ([] : List UInt8) = ⟨#[]⟩ from rfl] at HL
  clear hk
  unfold kyv
  go_enter Tryd.func7, Tryd.ntmps7
  go_upto_region 5 with fail
  obtain ⟨kb0, z0, z1⟩ := two_blocks w #[.int .i64 1, .int .i32 r, .int .i64 0, .int .i64 7] #[.int .i64 1, .int .i32 r, .int .i64 0, .int .i64 0] 23
  generalize (w.alloc (.cells #[.int .i64 1, .int .i32 r, .int .i64 0, .int .i64 7] 23)).alloc (.cells #[.int .i64 1, .int .i32 r, .int .i64 0, .int .i64 0] 23) = W0 at *
  obtain ⟨⟨c0, c1, c2, c3⟩, _⟩ := four_cells z1
  go_region_with (go_at_call 18; refine (sequences_any _).mono ?_; rintro e W1 ⟨rfl, hS, hB, hlt⟩; have y0 := by_drew z1 hB; obtain ⟨⟨d0, d1, d2, d3⟩, _⟩ := four_cells y0; have hl := HL W1 W0.heap.size hS)
  all_goals have zz := by_drew z0 hB
  all_goals obtain ⟨⟨e0, e1, e2, e3⟩, _⟩ := four_cells zz
  all_goals have kb1 := below_drew kb0 hB
  all_goals clear c0 c1 c2 c3 d0 d1 d2 d3 hS hB hlt HL y0 z0 z1 hl kb0
  all_goals go_wp2_with fail
  all_goals go_ret
  all_goals exact ⟨rfl, kb1⟩
end Kys
end Go.Proofs.YtdmooeoklcjplaaDoor
