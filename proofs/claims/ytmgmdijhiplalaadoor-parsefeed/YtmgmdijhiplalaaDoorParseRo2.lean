/- What the reference's reader does with one byte: with bytes in the middle. -/
import Derived.Test.YtmgmdijhiplalaaDoorParseRo1
namespace Go.Proofs.YtmgmdijhiplalaaDoor
open Go.ChangeShapes Go.WideShapes Go.ChangeAt Go.RowKit
namespace Prs
set_option maxHeartbeats 8000000 in
set_option maxRecDepth 100000 in
theorem one_middle (x : UInt8) {w0 : World} {R T G O : Nat} {s : St} {es : List Ev} {W : World} (h : RfE w0 R T G O s es W) (hs : s.at' = 2) (hx0 : 32 ≤ x.toNat) (hx1 : x.toNat ≠ 127) (hn : es.length ≤ 1000000) (hm : s.mid.size = 1 ∨ s.mid.size = 2) :
    Calls Tryd.prog 28 #[.int .u8 (x.toNat : Int), .pointer (some ⟨R, 0, none⟩), .pointer (some ⟨T, 0, none⟩), .pointer (some ⟨G, 0, none⟩), .pointer (some ⟨O, 0, none⟩)] W fun e W' => e = .returned (.tuple #[]) ∧ RfE w0 R T G O (inMiddle s x).1 (es ++ (inMiddle s x).2) W' := by
  obtain ⟨N, pv, tv, eqs, h⟩ := h
  have HR : Hid (Rf w0 R T G O s es W N pv tv eqs) := h
  obtain ⟨⟨c0, c1, c2, c3, c4, c5, c6, cf⟩, ⟨ct, ctf⟩, cg, co⟩ := h.cells
  obtain ⟨pa, pc, rfl⟩ := row_slice h.p
  obtain ⟨ta, tc, rfl⟩ := row_slice h.e
  rw [hs] at c0
  unfold groundV at cg
  have HS : Hid (s.at' = 2) := hs
  clear h hs
  have HMI : Hid (isMid x = true ↔ x.toNat < 48) := by
    unfold Hid isMid
    simp only [Bool.and_eq_true, decide_eq_true_eq]
    omega
  have b32 : ¬ (x.toNat : Int) < 32 := by omega
  have b127 : ((x.toNat : Int) == 127) = false := by rw [beq_eq_false_iff_ne]; omega
  clear hx1
  obtain ⟨i0, hi, hzz⟩ := Option.map_eq_some_iff.1 info_event
  simp only [Prod.mk.injEq] at hzz
  obtain ⟨hz0, hz1, hz2⟩ := hzz
  have HOW : Hid (W.ownsRow w0.heap.size 37 7 (.slice ta es.length tc) es.length (evFlat eqs)) := HR.out.e
  have hsz := HR.out.low.size
  have hcv : (convert 52 9 (.slice (some ⟨W.heap.size, 0, none⟩) 1 1)).run Tryd.prog (W.alloc (.cells #[.int .u8 (x.toNat : Int)] 5)) = .ok (.string (one x)) (W.alloc (.cells #[.int .u8 (x.toNat : Int)] 5)) :=
    run_convert_bytes_back (W.alloc (.cells #[.int .u8 (x.toNat : Int)] 5)) 52 9 5 ⟨W.heap.size, 0, none⟩ 1 [x] und_bytes und_byte und_string (fun j hj => by
      match j, hj with
      | 0, _ => exact (cell1 (heap_alloc_new W _)).1)
  have HRB : Hid (W.heap[R]? = some (.cells #[.int .i64 s.at', .int .u8 s.mark, .string s.mid, .slice pa s.ps.length pc, .string s.txt, .string s.left, .bool s.late] 24 (0, 0))) := HR.out.r
  have HRA : Hid ((W.alloc (.cells #[.int .u8 (x.toNat : Int)] 5)).heap[R]? = some (.cells #[.int .i64 s.at', .int .u8 s.mark, .string s.mid, .slice pa s.ps.length pc, .string s.txt, .string s.left, .bool s.late] 24 (0, 0))) := heap_box _ _ HRB.out
  have HAB : Hid (Rf w0 R T G O s es (W.alloc (.cells #[.int .u8 (x.toNat : Int)] 5)) N (.slice pa s.ps.length pc) (.slice ta es.length tc) eqs) := HR.out.below (alloc_next (Below.refl _ _) _)
  obtain ⟨⟨d0, d1, d2, d3, d4, d5, d6, df⟩, -, -, -⟩ := HAB.out.cells
  have df2 := df 2
  have df4 := df 4
  have df5 := df 5
  have HE : Hid (inMiddle s x = if isMid x = true ∧ s.mid.size < 2 then ({ s with mid := s.mid ++ one x }, []) else if isMid x = false ∧ x.toNat < 128 then (bare 0, [⟨3, 0, x.toNat, 0, s.mid, [], nt⟩]) else (bare 0, [])) := rfl
  generalize inMiddle s x = res at HE ⊢
  have hcc : ¬ 9223372036854775807 < s.mid.size + (one x).size := by show ¬ _ < s.mid.size + 1; omega
  go_enter Tryd.func28, Tryd.ntmps28
  go_wp2_with (first
    | (go_at_call 27; first | (refine (ground_any h3).mono ?_; rintro e W4 ⟨rfl, h4⟩; have h1 := h4) | (refine (ground_any HR.out).mono ?_; rintro e W4 ⟨rfl, h4⟩; have h1 := h4))
    | (at_builtin
       refine wpList_append_own _ rfl _ _ 26 rfl w0.heap.size 37 i0 (.agg #[.int .i64 0, .int .i32 0, .int .u8 0, .int .u8 0, .string ⟨#[]⟩, .slice none 0 0, .string ⟨#[]⟩]) 7 72 und_events hi hz0 hz1 hz2 rfl (by decide) (.slice ta es.length tc) es.length (evFlat eqs) rfl (HOW.out.alloc _) ⟨W.heap.size, 0, none⟩ 1 1 (evCells ⟨3, 0, x.toNat, 0, s.mid, [], nt⟩ (.slice none 0 0)) rfl rfl (cells_of_block (heap_alloc_new W _)) (by intro u hu; simp [evCells] at hu; rcases hu with rfl | rfl | rfl | rfl | rfl | rfl | rfl <;> rfl) (by unfold maxLen; omega) (by omega) (by simp; omega) ?_
       intro v3 W3 hown3 hgrow _
       obtain ⟨g3, c3, rfl⟩ := row_form hown3 (by omega)
       have h3 := (HR.out.below (alloc_next (Below.refl _ _) _)).told ⟨3, 0, x.toNat, 0, s.mid, [], nt⟩ (.slice none 0 0) (psNil _ _ _) hown3 hgrow
       obtain ⟨hT0, hTf⟩ := cell1 (told_cell (HR.out.below (alloc_next (Below.refl _ _) (.cells (evCells ⟨3, 0, x.toNat, 0, s.mid, [], nt⟩ (.slice none 0 0)).toArray 37))) hgrow)
       obtain ⟨-, -, hg3, -⟩ := h3.cells
       unfold groundV at hg3
       clear hown3 hgrow))
  all_goals (go_end0; refine ⟨rfl, ?_⟩)
  all_goals (try simp only [beq_iff_eq, beq_eq_false_iff_ne, ne_eq] at *)
  all_goals first
    | (rw [HE.out, if_pos ⟨HMI.out.2 (by omega), by omega⟩]; exact ⟨_, _, _, _, by rw [List.append_nil]; exact HAB.out.cell 2 _ rfl rfl⟩)
    | (rw [HE.out, if_neg (fun q => by have := HMI.out.1 q.1; omega), if_pos ⟨by rw [← Bool.not_eq_true, HMI.out]; omega, by omega⟩]; exact ⟨_, _, _, _, h1⟩)
    | (rw [HE.out, if_neg (fun q => by have := HMI.out.1 q.1; omega), if_neg (fun q => by have := HMI.out; rw [← Bool.not_eq_true, HMI.out] at q; omega)]; exact ⟨_, _, _, _, by rw [List.append_nil]; exact h1⟩)
end Prs
end Go.Proofs.YtmgmdijhiplalaaDoor
