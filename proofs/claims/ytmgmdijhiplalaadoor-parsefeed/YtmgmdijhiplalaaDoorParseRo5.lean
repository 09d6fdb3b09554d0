/- What the reference's reader does with one byte: in a text. -/
import Derived.Test.YtmgmdijhiplalaaDoorParseRo1
namespace Go.Proofs.YtmgmdijhiplalaaDoor
open Go.ChangeShapes Go.WideShapes Go.ChangeAt Go.RowKit
namespace Prs
set_option maxHeartbeats 8000000 in
set_option maxRecDepth 100000 in
theorem one_system (x : UInt8) {w0 : World} {R T G O : Nat} {s : St} {es : List Ev} {W : World} (h : RfE w0 R T G O s es W) (hs : s.at' = 4) (hn : es.length ≤ 1000000) (HREC : Hid (∀ W', RfE w0 R T G O (bare 1) es W' → Calls Tryd.prog 28 #[.int .u8 (x.toNat : Int), .pointer (some ⟨R, 0, none⟩), .pointer (some ⟨T, 0, none⟩), .pointer (some ⟨G, 0, none⟩), .pointer (some ⟨O, 0, none⟩)] W' fun e W2 => e = .returned (.tuple #[]) ∧ RfE w0 R T G O (take (bare 1) x).1 (es ++ (take (bare 1) x).2) W2)) :
    Calls Tryd.prog 28 #[.int .u8 (x.toNat : Int), .pointer (some ⟨R, 0, none⟩), .pointer (some ⟨T, 0, none⟩), .pointer (some ⟨G, 0, none⟩), .pointer (some ⟨O, 0, none⟩)] W fun e W' => e = .returned (.tuple #[]) ∧ RfE w0 R T G O (take s x).1 (es ++ (take s x).2) W' := by
  obtain ⟨N, pv, tv, eqs, h⟩ := h
  have HR : Hid (Rf w0 R T G O s es W N pv tv eqs) := h
  obtain ⟨⟨c0, c1, c2, c3, c4, c5, c6, cf⟩, ⟨ct, ctf⟩, cg, co⟩ := h.cells
  obtain ⟨pa, pc, rfl⟩ := row_slice h.p
  obtain ⟨ta, tc, rfl⟩ := row_slice h.e
  rw [hs] at c0
  unfold groundV at cg
  have HS : Hid (s.at' = 4) := hs
  clear h hs
  obtain ⟨i0, hi, hzz⟩ := Option.map_eq_some_iff.1 info_event
  simp only [Prod.mk.injEq] at hzz
  obtain ⟨hz0, hz1, hz2⟩ := hzz
  have HOW : Hid (W.ownsRow w0.heap.size 37 7 (.slice ta es.length tc) es.length (evFlat eqs)) := HR.out.e
  have hsz := HR.out.low.size
  have hcv : (convert 52 9 (.slice (some ⟨W.heap.size, 0, none⟩) 1 1)).run Tryd.prog (W.alloc (.cells #[.int .u8 (x.toNat : Int)] 5)) = .ok (.string (one x)) (W.alloc (.cells #[.int .u8 (x.toNat : Int)] 5)) :=
    run_convert_bytes_back (W.alloc (.cells #[.int .u8 (x.toNat : Int)] 5)) 52 9 5 ⟨W.heap.size, 0, none⟩ 1 [x] und_bytes und_byte und_string (fun j hj => by
      match j, hj with
      | 0, _ => exact (cell1 (heap_alloc_new W _)).1)
  have HRB : Hid (W.heap[R]? = some (.cells #[.int .i64 s.at', .int .u8 s.mark, .string s.mid, .slice pa s.ps.length pc, .string s.txt, .string s.left, .bool s.late] 24 (0, 0))) := HR.out.r
  have HRA : Hid ((W.alloc (.cells #[.int .u8 (x.toNat : Int)] 5)).heap[R]? = some (.cells #[.int .i64 s.at', .int .u8 s.mark, .string s.mid, .slice pa s.ps.length pc, .string s.txt, .string s.left, .bool s.late] 24 (0, 0))) := heap_box _ _ HRB.out
  have HAB : Hid (Rf w0 R T G O s es (W.alloc (.cells #[.int .u8 (x.toNat : Int)] 5)) N (.slice pa s.ps.length pc) (.slice ta es.length tc) eqs) := HR.out.below (alloc_next (Below.refl _ _) _)
  obtain ⟨⟨d0, d1, d2, d3, d4, d5, d6, df⟩, -, -, -⟩ := HAB.out.cells
  have df2 := df 2
  have df4 := df 4
  have df5 := df 5
  have cf6 := cf 6
  unfold oneV at co
  have hx256 : x.toNat < 256 := x.toNat_lt
  cases hl : s.late with
  | true =>
    rw [hl] at c6
    have HL : Hid (s.late = true) := hl
    clear hl
    by_cases x92 : x.toNat = 92
    · skip
      have b92 : ((x.toNat : Int) == 92) = true := by rw [beq_iff_eq]; omega
      have htk : take s x = inSystem s x := by
        have hw : woken s x = s := by unfold woken; rw [if_neg (by simp [x92])]
        unfold take
        rw [hw, if_neg (by rw [HS.out]; simp)]
        unfold acts
        rw [HS.out]
        simp
      have HE : Hid (take s x = (bare 0, [⟨5, 0, 0, 0, nt, [], s.txt⟩])) := by
        unfold Hid
        rw [htk]
        unfold inSystem
        rw [if_pos (.inl HL.out)]
      generalize take s x = res at HE ⊢
      clear x92 htk
      go_enter Tryd.func28, Tryd.ntmps28
      go_wp2_with (at_builtin; refine Hid.out ?_)
      unfold Hid
      refine wpList_append_own _ rfl _ _ 26 rfl w0.heap.size 37 i0 (.agg #[.int .i64 0, .int .i32 0, .int .u8 0, .int .u8 0, .string ⟨#[]⟩, .slice none 0 0, .string ⟨#[]⟩]) 7 72 und_events hi hz0 hz1 hz2 rfl (by decide) (.slice ta es.length tc) es.length (evFlat eqs) rfl (HOW.out.alloc _) ⟨W.heap.size, 0, none⟩ 1 1 (evCells ⟨5, 0, 0, 0, nt, [], s.txt⟩ (.slice none 0 0)) rfl rfl (cells_of_block (heap_alloc_new W _)) (by intro u hu; simp [evCells] at hu; rcases hu with rfl | rfl | rfl | rfl | rfl | rfl | rfl <;> rfl) (by unfold maxLen; omega) (by omega) (by simp; omega) ?_
      intro v3 W3 hown3 hgrow _
      obtain ⟨g3, cc3, rfl⟩ := row_form hown3 (by omega)
      have h3 := (HR.out.below (alloc_next (Below.refl _ _) _)).told ⟨5, 0, 0, 0, nt, [], s.txt⟩ (.slice none 0 0) (psNil _ _ _) hown3 hgrow
      obtain ⟨hT0, hTf⟩ := cell1 (told_cell (HR.out.below (alloc_next (Below.refl _ _) (.cells (evCells ⟨5, 0, 0, 0, nt, [], s.txt⟩ (.slice none 0 0)).toArray 37))) hgrow)
      have H3 : Hid _ := h3
      clear hown3 hgrow h3
      obtain ⟨-, -, kg, -⟩ := H3.out.cells
      unfold groundV at kg
      clear c0 c1 c2 c3 c4 c5 c6 cf ct ctf cg co
      go_wp2_with (go_at_call 27; refine (ground_any H3.out).mono ?_; rintro e W4 ⟨rfl, h4⟩)
      (try simp only [Exit.inBlock, Exit.then])
      refine bodyPost_ret (v := .tuple #[]) (results_none rfl _ _ _) rfl ?_
      rw [HE.out]
      exact ⟨rfl, _, _, _, _, h4⟩
    · skip
      have b92 : ((x.toNat : Int) == 92) = false := by rw [beq_eq_false_iff_ne]; omega
      have HE : Hid (take s x = take (bare 1) x) := by
        have hw : woken s x = bare 1 := by unfold woken; rw [if_pos ⟨HL.out, x92⟩]
        unfold Hid take
        rw [hw, show woken (bare 1) x = bare 1 from rfl]
      generalize take s x = res at HE ⊢
      clear x92
      go_enter Tryd.func28, Tryd.ntmps28
      go_wp2_with (first
        | (refine wpList_store_row rfl 24 (.tmp 1) _ rfl R #[.int .i64 1, .int .u8 0, .string ⟨#[]⟩, .slice none 0 0, .string ⟨#[]⟩, .string ⟨#[]⟩, .bool false] rfl rfl _ _ HRB.out (by kernel_rfl) rfl (by simp [Value.oneCell']) ?_; have h1 := HR.out.bared 1; have ko : (W.setRow R #[.int .i64 1, .int .u8 0, .string ⟨#[]⟩, .slice none 0 0, .string ⟨#[]⟩, .string ⟨#[]⟩, .bool false]).cell? ⟨O, 0, none⟩ = some (.func (.func 28) #[] #[.pointer (some ⟨R, 0, none⟩), .pointer (some ⟨T, 0, none⟩), .pointer (some ⟨G, 0, none⟩), .pointer (some ⟨O, 0, none⟩)]) := h1.cells.2.2.2)
        | (go_at_call 28; refine (HREC.out _ ⟨_, _, _, _, h1⟩).mono ?_; rintro e W4 ⟨rfl, h4⟩))
      (try simp only [Exit.inBlock, Exit.then])
      refine bodyPost_ret (v := .tuple #[]) (results_none rfl _ _ _) rfl ?_
      rw [HE.out]
      exact ⟨rfl, h4⟩
  | false =>
    rw [hl] at c6
    have HL : Hid (s.late = false) := hl
    clear hl
    have htk : take s x = inSystem s x := by
      have hw : woken s x = s := by unfold woken; rw [if_neg (by rw [HL.out]; simp)]
      unfold take
      rw [hw, if_neg (by rw [HS.out]; simp)]
      unfold acts
      rw [HS.out]
      simp
    have HT : Hid (take s x = if s.late = true ∨ x.toNat = 7 then (bare 0, [⟨5, 0, 0, 0, nt, [], s.txt⟩]) else if x.toNat = 27 then ({ s with late := true }, []) else if x.toNat = 24 ∨ x.toNat = 26 then (bare 0, []) else if 32 ≤ x.toNat ∧ s.txt.size < 64 then ({ s with txt := s.txt ++ one x }, []) else (s, [])) := htk
    have hln : ¬ s.late = true := by rw [HL.out]; simp
    have HLN : Hid (¬ s.late = true) := hln
    clear htk hln
    generalize take s x = res at HT ⊢
    by_cases x7 : x.toNat = 7
    · skip
      have b7 : ((x.toNat : Int) == 7) = true := by rw [beq_iff_eq]; omega
      have b92 : ((x.toNat : Int) == 92) = false := by rw [beq_eq_false_iff_ne]; omega
      have HE : Hid (res = (bare 0, [⟨5, 0, 0, 0, nt, [], s.txt⟩])) := by unfold Hid; rw [HT.out, if_pos (.inr x7)]
      clear x7 HT
      go_enter Tryd.func28, Tryd.ntmps28
      go_wp2_with (at_builtin; refine Hid.out ?_)
      unfold Hid
      refine wpList_append_own _ rfl _ _ 26 rfl w0.heap.size 37 i0 (.agg #[.int .i64 0, .int .i32 0, .int .u8 0, .int .u8 0, .string ⟨#[]⟩, .slice none 0 0, .string ⟨#[]⟩]) 7 72 und_events hi hz0 hz1 hz2 rfl (by decide) (.slice ta es.length tc) es.length (evFlat eqs) rfl (HOW.out.alloc _) ⟨W.heap.size, 0, none⟩ 1 1 (evCells ⟨5, 0, 0, 0, nt, [], s.txt⟩ (.slice none 0 0)) rfl rfl (cells_of_block (heap_alloc_new W _)) (by intro u hu; simp [evCells] at hu; rcases hu with rfl | rfl | rfl | rfl | rfl | rfl | rfl <;> rfl) (by unfold maxLen; omega) (by omega) (by simp; omega) ?_
      intro v3 W3 hown3 hgrow _
      obtain ⟨g3, cc3, rfl⟩ := row_form hown3 (by omega)
      have h3 := (HR.out.below (alloc_next (Below.refl _ _) _)).told ⟨5, 0, 0, 0, nt, [], s.txt⟩ (.slice none 0 0) (psNil _ _ _) hown3 hgrow
      obtain ⟨hT0, hTf⟩ := cell1 (told_cell (HR.out.below (alloc_next (Below.refl _ _) (.cells (evCells ⟨5, 0, 0, 0, nt, [], s.txt⟩ (.slice none 0 0)).toArray 37))) hgrow)
      have H3 : Hid _ := h3
      clear hown3 hgrow h3
      obtain ⟨-, -, kg, -⟩ := H3.out.cells
      unfold groundV at kg
      clear c0 c1 c2 c3 c4 c5 c6 cf ct ctf cg co
      go_wp2_with (go_at_call 27; refine (ground_any H3.out).mono ?_; rintro e W4 ⟨rfl, h4⟩)
      (try simp only [Exit.inBlock, Exit.then])
      refine bodyPost_ret (v := .tuple #[]) (results_none rfl _ _ _) rfl ?_
      rw [HE.out]
      exact ⟨rfl, _, _, _, _, h4⟩
    · by_cases x27 : x.toNat = 27
      · skip
        have b7 : ((x.toNat : Int) == 7) = false := by rw [beq_eq_false_iff_ne]; omega
        have b27 : ((x.toNat : Int) == 27) = true := by rw [beq_iff_eq]; omega
        have HE : Hid (res = ({ s with late := true }, [])) := by unfold Hid; rw [HT.out, if_neg (fun q => q.elim HLN.out x7), if_pos x27]
        clear x7 x27 HT
        go_enter Tryd.func28, Tryd.ntmps28
        go_wp2_with fail
        (try simp only [Exit.inBlock, Exit.then])
        refine bodyPost_ret (v := .tuple #[]) (results_none rfl _ _ _) rfl ?_
        rw [HE.out, List.append_nil]
        exact ⟨rfl, _, _, _, _, HR.out.cell 6 (.bool true) rfl rfl⟩
      · by_cases x24 : x.toNat = 24 ∨ x.toNat = 26
        · skip
          have b7 : ((x.toNat : Int) == 7) = false := by rw [beq_eq_false_iff_ne]; omega
          have b27 : ((x.toNat : Int) == 27) = false := by rw [beq_eq_false_iff_ne]; omega
          have HE : Hid (res = (bare 0, [])) := by unfold Hid; rw [HT.out, if_neg (fun q => q.elim HLN.out x7), if_neg x27, if_pos x24]
          have X : Hid (x.toNat = 24 ∨ x.toNat = 26) := x24
          clear x7 x27 x24 HT
          rcases Nat.decEq x.toNat 24 with q24 | q24
          · have b24 : ((x.toNat : Int) == 24) = false := by rw [beq_eq_false_iff_ne]; omega
            have b26 : ((x.toNat : Int) == 26) = true := by rw [beq_iff_eq]; have := X.out; omega
            clear q24
            go_enter Tryd.func28, Tryd.ntmps28
            go_wp2_with (go_at_call 27; refine (ground_any HR.out).mono ?_; rintro e W4 ⟨rfl, h4⟩)
            (try simp only [Exit.inBlock, Exit.then])
            refine bodyPost_ret (v := .tuple #[]) (results_none rfl _ _ _) rfl ?_
            rw [HE.out, List.append_nil]
            exact ⟨rfl, _, _, _, _, h4⟩
          · have b24 : ((x.toNat : Int) == 24) = true := by rw [beq_iff_eq]; omega
            clear q24
            go_enter Tryd.func28, Tryd.ntmps28
            go_wp2_with (go_at_call 27; refine (ground_any HR.out).mono ?_; rintro e W4 ⟨rfl, h4⟩)
            (try simp only [Exit.inBlock, Exit.then])
            refine bodyPost_ret (v := .tuple #[]) (results_none rfl _ _ _) rfl ?_
            rw [HE.out, List.append_nil]
            exact ⟨rfl, _, _, _, _, h4⟩
        · by_cases x32 : 32 ≤ x.toNat ∧ s.txt.size < 64
          · skip
            have b7 : ((x.toNat : Int) == 7) = false := by rw [beq_eq_false_iff_ne]; omega
            have b27 : ((x.toNat : Int) == 27) = false := by rw [beq_eq_false_iff_ne]; omega
            have b24 : ((x.toNat : Int) == 24) = false := by rw [beq_eq_false_iff_ne]; omega
            have b26 : ((x.toNat : Int) == 26) = false := by rw [beq_eq_false_iff_ne]; omega
            have HE : Hid (res = ({ s with txt := s.txt ++ one x }, [])) := by unfold Hid; rw [HT.out, if_neg (fun q => q.elim HLN.out x7), if_neg x27, if_neg x24, if_pos x32]
            have i1 : (32 : Int) ≤ (x.toNat : Int) := by omega
            have i2 : (s.txt.size : Int) < 64 := by omega
            have hcc : ¬ 9223372036854775807 < s.txt.size + (one x).size := by show ¬ _ < s.txt.size + 1; omega
            clear x7 x27 x24 x32 HT
            go_enter Tryd.func28, Tryd.ntmps28
            go_wp2_with fail
            (try simp only [Exit.inBlock, Exit.then])
            refine bodyPost_ret (v := .tuple #[]) (results_none rfl _ _ _) rfl ?_
            rw [HE.out, List.append_nil]
            exact ⟨rfl, _, _, _, _, HAB.out.cell 4 _ rfl rfl⟩
          · skip
            have b7 : ((x.toNat : Int) == 7) = false := by rw [beq_eq_false_iff_ne]; omega
            have b27 : ((x.toNat : Int) == 27) = false := by rw [beq_eq_false_iff_ne]; omega
            have b24 : ((x.toNat : Int) == 24) = false := by rw [beq_eq_false_iff_ne]; omega
            have b26 : ((x.toNat : Int) == 26) = false := by rw [beq_eq_false_iff_ne]; omega
            have HE : Hid (res = (s, [])) := by unfold Hid; rw [HT.out, if_neg (fun q => q.elim HLN.out x7), if_neg x27, if_neg x24, if_neg x32]
            clear x7 x27 x24 HT
            by_cases i1 : (32 : Int) ≤ (x.toNat : Int)
            · have i2 : ¬ (s.txt.size : Int) < 64 := by omega
              clear x32
              go_enter Tryd.func28, Tryd.ntmps28
              go_wp2_with fail
              (try simp only [Exit.inBlock, Exit.then])
              refine bodyPost_ret (v := .tuple #[]) (results_none rfl _ _ _) rfl ?_
              rw [HE.out, List.append_nil]
              exact ⟨rfl, _, _, _, _, HR.out⟩
            · clear x32
              go_enter Tryd.func28, Tryd.ntmps28
              go_wp2_with fail
              (try simp only [Exit.inBlock, Exit.then])
              refine bodyPost_ret (v := .tuple #[]) (results_none rfl _ _ _) rfl ?_
              rw [HE.out, List.append_nil]
              exact ⟨rfl, _, _, _, _, HR.out⟩
end Prs
end Go.Proofs.YtmgmdijhiplalaaDoor
