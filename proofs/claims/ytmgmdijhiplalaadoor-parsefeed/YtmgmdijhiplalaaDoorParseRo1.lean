/- What the reference's reader does with one byte: where it skips; behind ESC. -/
import Derived.Test.YtmgmdijhiplalaaDoorParseRf
namespace Go.Proofs.YtmgmdijhiplalaaDoor
open Go.ChangeShapes Go.WideShapes Go.ChangeAt Go.RowKit
namespace Prs
theorem told_cell {w0 : World} {R T G O : Nat} {s : St} {es : List Ev} {W W3 : World} {N : Nat} {pv tv : Value} {eqs : List (Ev × Value)} (h : Rf w0 R T G O s es W N pv tv eqs) (hgrow : W.grownBy W3 tv.ownBlock) : W3.heap[T]? = some (.cells #[tv] 26 (0, 0)) := (hgrow.block T (blk_lt h.t) (fun e => row_ne h.e h.t (by decide) e.symm)).trans h.t
theorem Rf.rowed {w0 : World} {R T G O : Nat} {s : St} {es : List Ev} {W : World} {N : Nat} {pv tv : Value} {eqs : List (Ev × Value)} (h : Rf w0 R T G O s es W N pv tv eqs) (s' : St) (hp : s'.ps = []) : Rf w0 R T G O s' es (W.setRow R (stCells s' (.slice none 0 0))) N (.slice none 0 0) tv eqs :=
  h.put (below_setRow h.low h.rb _) (setRow_heap W R _ _ _ _ h.r) (fun k _ hk => setRow_other W R k _ hk) (by simp) (.inr ⟨rfl, hp⟩)
set_option maxHeartbeats 8000000 in
set_option maxRecDepth 100000 in
theorem one_skip (x : UInt8) {w0 : World} {R T G O : Nat} {s : St} {es : List Ev} {W : World} (h : RfE w0 R T G O s es W) (hs : s.at' = 5) (hx0 : 32 ≤ x.toNat) (hx1 : x.toNat ≠ 127) :
    Calls Tryd.prog 28 #[.int .u8 (x.toNat : Int), .pointer (some ⟨R, 0, none⟩), .pointer (some ⟨T, 0, none⟩), .pointer (some ⟨G, 0, none⟩), .pointer (some ⟨O, 0, none⟩)] W fun e W' => e = .returned (.tuple #[]) ∧ RfE w0 R T G O (inSkip s x).1 (es ++ (inSkip s x).2) W' := by
  obtain ⟨N, pv, tv, eqs, h⟩ := h
  have HR : Hid (Rf w0 R T G O s es W N pv tv eqs) := h
  obtain ⟨⟨c0, c1, c2, c3, c4, c5, c6, cf⟩, ⟨ct, ctf⟩, cg, co⟩ := h.cells
  obtain ⟨pa, pc, rfl⟩ := row_slice h.p
  obtain ⟨ta, tc, rfl⟩ := row_slice h.e
  rw [hs] at c0
  unfold groundV at cg
  have HS : Hid (s.at' = 5) := hs
  clear h hs
  have b32 : ¬ (x.toNat : Int) < 32 := by omega
  have b127 : ((x.toNat : Int) == 127) = false := by rw [beq_eq_false_iff_ne]; omega
  clear hx1
  have HE : Hid (inSkip s x = if 64 ≤ x.toNat then (bare 0, []) else (s, [])) := rfl
  generalize inSkip s x = res at HE ⊢
  go_enter Tryd.func28, Tryd.ntmps28
  go_wp2_with (go_at_call 27; first | (refine (ground_any h3).mono ?_; rintro e W4 ⟨rfl, h4⟩; have h1 := h4) | (refine (ground_any HR.out).mono ?_; rintro e W4 ⟨rfl, h4⟩; have h1 := h4))
  all_goals (go_end0; refine ⟨rfl, ?_⟩)
  all_goals (try simp only [beq_eq_false_iff_ne, ne_eq] at *)
  all_goals first
    | (rw [HE.out, if_pos (by omega)]; exact ⟨_, _, _, _, by rw [List.append_nil]; exact h1⟩)
    | (rw [HE.out, if_neg (by omega)]; exact ⟨_, _, _, _, by rw [List.append_nil]; exact HR.out⟩)
set_option maxHeartbeats 8000000 in
set_option maxRecDepth 100000 in
theorem one_escape (x : UInt8) {w0 : World} {R T G O : Nat} {s : St} {es : List Ev} {W : World} (h : RfE w0 R T G O s es W) (hs : s.at' = 1) (hx0 : 32 ≤ x.toNat) (hx1 : x.toNat ≠ 127) (hn : es.length ≤ 1000000) :
    Calls Tryd.prog 28 #[.int .u8 (x.toNat : Int), .pointer (some ⟨R, 0, none⟩), .pointer (some ⟨T, 0, none⟩), .pointer (some ⟨G, 0, none⟩), .pointer (some ⟨O, 0, none⟩)] W fun e W' => e = .returned (.tuple #[]) ∧ RfE w0 R T G O (inEscape x).1 (es ++ (inEscape x).2) W' := by
  obtain ⟨N, pv, tv, eqs, h⟩ := h
  have HR : Hid (Rf w0 R T G O s es W N pv tv eqs) := h
  obtain ⟨⟨c0, c1, c2, c3, c4, c5, c6, cf⟩, ⟨ct, ctf⟩, cg, co⟩ := h.cells
  obtain ⟨pa, pc, rfl⟩ := row_slice h.p
  obtain ⟨ta, tc, rfl⟩ := row_slice h.e
  rw [hs] at c0
  unfold groundV at cg
  have HS : Hid (s.at' = 1) := hs
  clear h hs
  have HMI : Hid (isMid x = true ↔ x.toNat < 48) := by
    unfold Hid isMid
    simp only [Bool.and_eq_true, decide_eq_true_eq]
    omega
  have b32 : ¬ (x.toNat : Int) < 32 := by omega
  have b127 : ((x.toNat : Int) == 127) = false := by rw [beq_eq_false_iff_ne]; omega
  clear hx1
  obtain ⟨i0, hi, hzz⟩ := Option.map_eq_some_iff.1 info_event
  simp only [Prod.mk.injEq] at hzz
  obtain ⟨hz0, hz1, hz2⟩ := hzz
  have HOW : Hid (W.ownsRow w0.heap.size 37 7 (.slice ta es.length tc) es.length (evFlat eqs)) := HR.out.e
  have hsz := HR.out.low.size
  have hcv : (convert 52 9 (.slice (some ⟨W.heap.size, 0, none⟩) 1 1)).run Tryd.prog (W.alloc (.cells #[.int .u8 (x.toNat : Int)] 5)) = .ok (.string (one x)) (W.alloc (.cells #[.int .u8 (x.toNat : Int)] 5)) :=
    run_convert_bytes_back (W.alloc (.cells #[.int .u8 (x.toNat : Int)] 5)) 52 9 5 ⟨W.heap.size, 0, none⟩ 1 [x] und_bytes und_byte und_string (fun j hj => by
      match j, hj with
      | 0, _ => exact (cell1 (heap_alloc_new W _)).1)
  have HRB : Hid (W.heap[R]? = some (.cells #[.int .i64 s.at', .int .u8 s.mark, .string s.mid, .slice pa s.ps.length pc, .string s.txt, .string s.left, .bool s.late] 24 (0, 0))) := HR.out.r
  have HRA : Hid ((W.alloc (.cells #[.int .u8 (x.toNat : Int)] 5)).heap[R]? = some (.cells #[.int .i64 s.at', .int .u8 s.mark, .string s.mid, .slice pa s.ps.length pc, .string s.txt, .string s.left, .bool s.late] 24 (0, 0))) := heap_box _ _ HRB.out
  have HAB : Hid (Rf w0 R T G O s es (W.alloc (.cells #[.int .u8 (x.toNat : Int)] 5)) N (.slice pa s.ps.length pc) (.slice ta es.length tc) eqs) := HR.out.below (alloc_next (Below.refl _ _) _)
  obtain ⟨⟨d0, d1, d2, d3, d4, d5, d6, df⟩, -, -, -⟩ := HAB.out.cells
  have df2 := df 2
  have df4 := df 4
  have df5 := df 5
  have HE : Hid (inEscape x = if x.toNat = 91 then (bare 3, []) else if x.toNat = 93 then (bare 4, []) else if isMid x then ({ bare 2 with mid := one x }, []) else if x.toNat < 128 then (bare 0, [⟨3, 0, x.toNat, 0, nt, [], nt⟩]) else (bare 0, [])) := rfl
  generalize inEscape x = res at HE ⊢
  go_enter Tryd.func28, Tryd.ntmps28
  go_wp2_with (first
    | (go_at_call 27; first | (refine (ground_any h3).mono ?_; rintro e W4 ⟨rfl, h4⟩; have h1 := h4) | (refine (ground_any HR.out).mono ?_; rintro e W4 ⟨rfl, h4⟩; have h1 := h4))
    | (refine wpList_store_row rfl 24 (.tmp 1) _ rfl R #[.int .i64 3, .int .u8 0, .string ⟨#[]⟩, .slice none 0 0, .string ⟨#[]⟩, .string ⟨#[]⟩, .bool false] rfl rfl _ _ HRB.out (by kernel_rfl) rfl (by simp [Value.oneCell']) ?_; have h1 := HR.out.bared 3)
    | (refine wpList_store_row rfl 24 (.tmp 1) _ rfl R #[.int .i64 4, .int .u8 0, .string ⟨#[]⟩, .slice none 0 0, .string ⟨#[]⟩, .string ⟨#[]⟩, .bool false] rfl rfl _ _ HRB.out (by kernel_rfl) rfl (by simp [Value.oneCell']) ?_; have h1 := HR.out.bared 4)
    | (refine wpList_store_row rfl 24 (.tmp 1) _ rfl R #[.int .i64 2, .int .u8 0, .string (one x), .slice none 0 0, .string ⟨#[]⟩, .string ⟨#[]⟩, .bool false] rfl rfl _ _ HRA.out (by kernel_rfl) rfl (by simp [Value.oneCell']) ?_; have h1 := HAB.out.rowed { bare 2 with mid := one x } rfl)
    | (at_builtin
       refine wpList_append_own _ rfl _ _ 26 rfl w0.heap.size 37 i0 (.agg #[.int .i64 0, .int .i32 0, .int .u8 0, .int .u8 0, .string ⟨#[]⟩, .slice none 0 0, .string ⟨#[]⟩]) 7 72 und_events hi hz0 hz1 hz2 rfl (by decide) (.slice ta es.length tc) es.length (evFlat eqs) rfl (HOW.out.alloc _) ⟨W.heap.size, 0, none⟩ 1 1 (evCells ⟨3, 0, x.toNat, 0, nt, [], nt⟩ (.slice none 0 0)) rfl rfl (cells_of_block (heap_alloc_new W _)) (by intro u hu; simp [evCells] at hu; rcases hu with rfl | rfl | rfl | rfl | rfl | rfl | rfl <;> rfl) (by unfold maxLen; omega) (by omega) (by simp; omega) ?_
       intro v3 W3 hown3 hgrow _
       obtain ⟨g3, c3, rfl⟩ := row_form hown3 (by omega)
       have h3 := (HR.out.below (alloc_next (Below.refl _ _) _)).told ⟨3, 0, x.toNat, 0, nt, [], nt⟩ (.slice none 0 0) (psNil _ _ _) hown3 hgrow
       obtain ⟨hT0, hTf⟩ := cell1 (told_cell (HR.out.below (alloc_next (Below.refl _ _) (.cells (evCells ⟨3, 0, x.toNat, 0, nt, [], nt⟩ (.slice none 0 0)).toArray 37))) hgrow)
       obtain ⟨-, -, hg3, -⟩ := h3.cells
       unfold groundV at hg3
       clear hown3 hgrow))
  all_goals (go_end0; refine ⟨rfl, ?_⟩)
  all_goals (try simp only [beq_iff_eq, beq_eq_false_iff_ne, ne_eq] at *)
  all_goals first
    | (rw [HE.out, if_pos (by omega)]; exact ⟨_, _, _, _, by rw [List.append_nil]; exact h1⟩)
    | (rw [HE.out, if_neg (by omega), if_pos (by omega)]; exact ⟨_, _, _, _, by rw [List.append_nil]; exact h1⟩)
    | (rw [HE.out, if_neg (by omega), if_neg (by omega), if_pos (HMI.out.2 (by omega))]; exact ⟨_, _, _, _, by rw [List.append_nil]; exact h1⟩)
    | (rw [HE.out, if_neg (by omega), if_neg (by omega), if_neg (fun q => by have := HMI.out.1 q; omega), if_pos (by omega)]; exact ⟨_, _, _, _, h1⟩)
    | (rw [HE.out, if_neg (by omega), if_neg (by omega), if_neg (fun q => by have := HMI.out.1 q; omega), if_neg (by omega)]; exact ⟨_, _, _, _, by rw [List.append_nil]; exact h1⟩)
end Prs
end Go.Proofs.YtmgmdijhiplalaaDoor
