/- What the reference's reader does with one byte: in a command, but for its numbers. -/
import Derived.Test.YtmgmdijhiplalaaDoorParseRc
namespace Go.Proofs.YtmgmdijhiplalaaDoor
open Go.ChangeShapes Go.WideShapes Go.ChangeAt Go.RowKit
namespace Prs
theorem ground_cell {w0 : World} {R T G O : Nat} {s : St} {es : List Ev} {W W3 : World} {N : Nat} {pv tv : Value} {eqs : List (Ev × Value)} (h : Rf w0 R T G O s es W N pv tv eqs) (hgrow : W.grownBy W3 tv.ownBlock) (v3 : Value) : (W3.setCell ⟨T, 0, none⟩ v3).heap[G]? = some (.cells #[groundV R] 1 (0, 0)) := by
  rw [heap_setCell_other _ _ _ _ (blk_type h.g h.t (by decide)), hgrow.block G (blk_lt h.g) (fun e => row_ne h.e h.g (by decide) e.symm)]
  exact h.g
set_option maxHeartbeats 8000000 in
set_option maxRecDepth 100000 in
theorem one_command_rest (x : UInt8) {w0 : World} {R T G O : Nat} {s : St} {es : List Ev} {W : World} (h : RfE w0 R T G O s es W) (hs : s.at' = 3) (hx0 : 32 ≤ x.toNat) (hx1 : x.toNat ≠ 127) (hn : es.length ≤ 1000000) (hnp : ¬ ((isDig x = true ∨ x.toNat = 59) ∧ s.mid.size = 0)) (hmz : s.mid.size ≤ 2) :
    Calls Tryd.prog 28 #[.int .u8 (x.toNat : Int), .pointer (some ⟨R, 0, none⟩), .pointer (some ⟨T, 0, none⟩), .pointer (some ⟨G, 0, none⟩), .pointer (some ⟨O, 0, none⟩)] W fun e W' => e = .returned (.tuple #[]) ∧ RfE w0 R T G O (inCommand s x).1 (es ++ (inCommand s x).2) W' := by
  obtain ⟨N, pv, tv, eqs, h⟩ := h
  have HR : Hid (Rf w0 R T G O s es W N pv tv eqs) := h
  obtain ⟨⟨c0, c1, c2, c3, c4, c5, c6, cf⟩, ⟨ct, ctf⟩, cg, co⟩ := h.cells
  obtain ⟨pa, pc, rfl⟩ := row_slice h.p
  obtain ⟨ta, tc, rfl⟩ := row_slice h.e
  rw [hs] at c0
  unfold groundV at cg
  have HS : Hid (s.at' = 3) := hs
  clear h hs
  have b32 : ¬ (x.toNat : Int) < 32 := by omega
  have b127 : ((x.toNat : Int) == 127) = false := by rw [beq_eq_false_iff_ne]; omega
  clear hx1
  obtain ⟨i0, hi, hzz⟩ := Option.map_eq_some_iff.1 info_event
  simp only [Prod.mk.injEq] at hzz
  obtain ⟨hz0, hz1, hz2⟩ := hzz
  have HOW : Hid (W.ownsRow w0.heap.size 37 7 (.slice ta es.length tc) es.length (evFlat eqs)) := HR.out.e
  have hsz := HR.out.low.size
  have hcv : (convert 52 9 (.slice (some ⟨W.heap.size, 0, none⟩) 1 1)).run Tryd.prog (W.alloc (.cells #[.int .u8 (x.toNat : Int)] 5)) = .ok (.string (one x)) (W.alloc (.cells #[.int .u8 (x.toNat : Int)] 5)) :=
    run_convert_bytes_back (W.alloc (.cells #[.int .u8 (x.toNat : Int)] 5)) 52 9 5 ⟨W.heap.size, 0, none⟩ 1 [x] und_bytes und_byte und_string (fun j hj => by
      match j, hj with
      | 0, _ => exact (cell1 (heap_alloc_new W _)).1)
  have HRB : Hid (W.heap[R]? = some (.cells #[.int .i64 s.at', .int .u8 s.mark, .string s.mid, .slice pa s.ps.length pc, .string s.txt, .string s.left, .bool s.late] 24 (0, 0))) := HR.out.r
  have HRA : Hid ((W.alloc (.cells #[.int .u8 (x.toNat : Int)] 5)).heap[R]? = some (.cells #[.int .i64 s.at', .int .u8 s.mark, .string s.mid, .slice pa s.ps.length pc, .string s.txt, .string s.left, .bool s.late] 24 (0, 0))) := heap_box _ _ HRB.out
  have HAB : Hid (Rf w0 R T G O s es (W.alloc (.cells #[.int .u8 (x.toNat : Int)] 5)) N (.slice pa s.ps.length pc) (.slice ta es.length tc) eqs) := HR.out.below (alloc_next (Below.refl _ _) _)
  obtain ⟨⟨d0, d1, d2, d3, d4, d5, d6, df⟩, -, -, -⟩ := HAB.out.cells
  have df2 := df 2
  have df4 := df 4
  have df5 := df 5
  have df1 := cf 1
  have he := empty_iff s.mid
  have HID : Hid ((isMark x.toNat = true ↔ 60 ≤ x.toNat ∧ x.toNat ≤ 63) ∧ (isMid x = true ↔ x.toNat ≤ 47) ∧ (isDig x = true ↔ 48 ≤ x.toNat ∧ x.toNat ≤ 57)) := by
    unfold Hid isMark isMid isDig
    simp only [Bool.and_eq_true, decide_eq_true_eq]
    refine ⟨⟨fun q => by omega, fun q => by omega⟩, ⟨fun q => by omega, fun q => by omega⟩, trivial⟩
  have HT : Hid (inCommand s x = if (isDig x = true ∨ x.toNat = 59) ∧ s.mid.size = 0 then (param s x, []) else if isMark x.toNat = true ∧ s.mark = 0 ∧ s.ps = [] ∧ s.mid.size = 0 then ({ s with mark := x.toNat }, []) else if isMid x = true ∧ s.mid.size < 2 then ({ s with mid := s.mid ++ one x }, []) else if 128 ≤ x.toNat then (bare 0, []) else if 64 ≤ x.toNat then (bare 0, [⟨4, 0, x.toNat, s.mark, s.mid, s.ps, nt⟩]) else (bare 5, [])) := rfl
  generalize inCommand s x = res at HT ⊢
  by_cases x128 : 128 ≤ x.toNat
  · skip
    have i128 : (128 : Int) ≤ (x.toNat : Int) := by omega
    have HE : Hid (res = (bare 0, [])) := by
      unfold Hid
      rw [HT.out, if_neg hnp, if_neg (fun q => by have := HID.out.1.1 q.1; omega), if_neg (fun q => by have := HID.out.2.1.1 q.1; omega), if_pos x128]
    clear x128 HT hnp HID he
    go_enter Tryd.func28, Tryd.ntmps28
    go_wp2_with (go_at_call 27; refine (ground_any HR.out).mono ?_; rintro e W4 ⟨rfl, h4⟩)
    go_end0
    rw [HE.out, List.append_nil]
    exact ⟨rfl, _, _, _, _, h4⟩
  · have i128 : ¬ (128 : Int) ≤ (x.toNat : Int) := by omega
    by_cases x64 : 64 ≤ x.toNat
    · skip
      have i64 : (64 : Int) ≤ (x.toNat : Int) := by omega
      have HE : Hid (res = (bare 0, [⟨4, 0, x.toNat, s.mark, s.mid, s.ps, nt⟩])) := by
        unfold Hid
        rw [HT.out, if_neg hnp, if_neg (fun q => by have := HID.out.1.1 q.1; omega), if_neg (fun q => by have := HID.out.2.1.1 q.1; omega), if_neg x128, if_pos x64]
      clear x128 x64 HT hnp HID he
      go_enter Tryd.func28, Tryd.ntmps28
      go_wp2_with (at_builtin; refine Hid.out ?_)
      unfold Hid
      refine wpList_append_own _ rfl _ _ 26 rfl w0.heap.size 37 i0 (.agg #[.int .i64 0, .int .i32 0, .int .u8 0, .int .u8 0, .string ⟨#[]⟩, .slice none 0 0, .string ⟨#[]⟩]) 7 72 und_events hi hz0 hz1 hz2 rfl (by decide) (.slice ta es.length tc) es.length (evFlat eqs) rfl (HOW.out.alloc _) ⟨W.heap.size, 0, none⟩ 1 1 (evCells ⟨4, 0, x.toNat, s.mark, s.mid, s.ps, nt⟩ (.slice pa s.ps.length pc)) rfl rfl (cells_of_block (heap_alloc_new W _)) (by intro u hu; simp [evCells] at hu; rcases hu with rfl | rfl | rfl | rfl | rfl | rfl | rfl <;> rfl) (by unfold maxLen; omega) (by omega) (by simp; omega) ?_
      intro v3 W3 hown3 hgrow _
      obtain ⟨g3, cc3, rfl⟩ := row_form hown3 (by omega)
      obtain ⟨h3, hr3⟩ := (HR.out.below (alloc_next (Below.refl _ _) (.cells (evCells ⟨4, 0, x.toNat, s.mark, s.mid, s.ps, nt⟩ (.slice pa s.ps.length pc)).toArray 37))).ended ⟨4, 0, x.toNat, s.mark, s.mid, s.ps, nt⟩ rfl hown3 hgrow
      obtain ⟨hT0, hTf⟩ := cell1 (told_cell (HR.out.below (alloc_next (Below.refl _ _) (.cells (evCells ⟨4, 0, x.toNat, s.mark, s.mid, s.ps, nt⟩ (.slice pa s.ps.length pc)).toArray 37))) hgrow)
      have kg : (W3.setCell ⟨T, 0, none⟩ (.slice (some ⟨g3, 0, none⟩) (es.length + 1) cc3)).cell? ⟨G, 0, none⟩ = some (.func (.func 27) #[] #[.pointer (some ⟨R, 0, none⟩)]) := (cell1 (ground_cell (HR.out.below (alloc_next (Below.refl _ _) (.cells (evCells ⟨4, 0, x.toNat, s.mark, s.mid, s.ps, nt⟩ (.slice pa s.ps.length pc)).toArray 37))) hgrow _)).1
      have H3 : Hid _ := h3
      have HR3 : Hid _ := hr3
      clear hown3 hgrow h3 hr3 c0 c1 c2 c3 c4 c5 c6 cf ct ctf cg co
      go_wp2_with (go_at_call 27; refine (ground_raw HR3.out).mono ?_; rintro e W4 ⟨rfl, rfl⟩)
      go_end0
      rw [HE.out]
      exact ⟨rfl, _, _, _, _, H3.out⟩
    · have i64 : ¬ (64 : Int) ≤ (x.toNat : Int) := by omega
      by_cases x48 : x.toNat < 48
      · have i48 : ¬ (48 : Int) ≤ (x.toNat : Int) := by omega
        have i48' : (x.toNat : Int) < 48 := by omega
        have i60 : ¬ (60 : Int) ≤ (x.toNat : Int) := by omega
        by_cases hm2 : s.mid.size < 2
        · skip
          have im : (s.mid.size : Int) < 2 := by omega
          have hcc : ¬ 9223372036854775807 < s.mid.size + (one x).size := by show ¬ _ < s.mid.size + 1; omega
          have HE : Hid (res = ({ s with mid := s.mid ++ one x }, [])) := by
            unfold Hid
            rw [HT.out, if_neg hnp, if_neg (fun q => by have := HID.out.1.1 q.1; omega), if_pos ⟨HID.out.2.1.2 (by omega), hm2⟩]
          clear x128 x64 x48 hm2 HT hnp HID he
          go_enter Tryd.func28, Tryd.ntmps28
          go_wp2_with fail
          go_end0
          rw [HE.out, List.append_nil]
          exact ⟨rfl, _, _, _, _, HAB.out.cell 2 _ rfl rfl⟩
        · skip
          have im : ¬ (s.mid.size : Int) < 2 := by omega
          have HE : Hid (res = (bare 5, [])) := by
            unfold Hid
            rw [HT.out, if_neg hnp, if_neg (fun q => by have := HID.out.1.1 q.1; omega), if_neg (fun q => hm2 q.2), if_neg x128, if_neg x64]
          clear x128 x64 x48 hm2 HT hnp HID he
          go_enter Tryd.func28, Tryd.ntmps28
          go_wp2_with (refine wpList_store_row rfl 24 (.tmp 1) _ rfl R #[.int .i64 5, .int .u8 0, .string ⟨#[]⟩, .slice none 0 0, .string ⟨#[]⟩, .string ⟨#[]⟩, .bool false] rfl rfl _ _ HRB.out (by kernel_rfl) rfl (by simp [Value.oneCell']) ?_; have h1 := HR.out.bared 5)
          all_goals (go_end0; rw [HE.out, List.append_nil]; exact ⟨rfl, _, _, _, _, h1⟩)
      · have i48 : (48 : Int) ≤ (x.toNat : Int) := by omega
        have i48' : ¬ (x.toNat : Int) < 48 := by omega
        by_cases x60 : x.toNat < 60
        · have i60 : ¬ (60 : Int) ≤ (x.toNat : Int) := by omega
          have i59 : (x.toNat : Int) ≤ 59 := by omega
          have HE : Hid (res = (bare 5, [])) := by
            unfold Hid
            rw [HT.out, if_neg hnp, if_neg (fun q => by have := HID.out.1.1 q.1; omega), if_neg (fun q => by have := HID.out.2.1.1 q.1; omega), if_neg x128, if_neg x64]
          by_cases x58 : x.toNat = 58
          · have b58 : (x.toNat : Int) = 58 := by omega
            clear x128 x64 x48 x60 x58 HT hnp HID he
            go_enter Tryd.func28, Tryd.ntmps28
            go_wp2_with (refine wpList_store_row rfl 24 (.tmp 1) _ rfl R #[.int .i64 5, .int .u8 0, .string ⟨#[]⟩, .slice none 0 0, .string ⟨#[]⟩, .string ⟨#[]⟩, .bool false] rfl rfl _ _ HRB.out (by kernel_rfl) rfl (by simp [Value.oneCell']) ?_; have h1 := HR.out.bared 5)
            all_goals (go_end0; rw [HE.out, List.append_nil]; exact ⟨rfl, _, _, _, _, h1⟩)
          · have b58 : ¬ (x.toNat : Int) = 58 := by omega
            have hm0 : (s.mid.toList == []) = false := by
              rw [he, decide_eq_false_iff_not]
              intro q
              have := HID.out.2.2
              refine hnp ⟨?_, q⟩
              by_cases h59 : x.toNat = 59
              · exact .inr h59
              · exact .inl (this.2 (by omega))
            clear x128 x64 x48 x60 x58 HT hnp HID he
            go_enter Tryd.func28, Tryd.ntmps28
            go_wp2_with (refine wpList_store_row rfl 24 (.tmp 1) _ rfl R #[.int .i64 5, .int .u8 0, .string ⟨#[]⟩, .slice none 0 0, .string ⟨#[]⟩, .string ⟨#[]⟩, .bool false] rfl rfl _ _ HRB.out (by kernel_rfl) rfl (by simp [Value.oneCell']) ?_; have h1 := HR.out.bared 5)
            all_goals (go_end0; rw [HE.out, List.append_nil]; exact ⟨rfl, _, _, _, _, h1⟩)
        · have i60 : (60 : Int) ≤ (x.toNat : Int) := by omega
          have i59 : ¬ (x.toNat : Int) ≤ 59 := by omega
          by_cases hall : s.mark = 0 ∧ s.ps = [] ∧ s.mid.size = 0
          · skip
            have HE : Hid (res = ({ s with mark := x.toNat }, [])) := by
              unfold Hid
              rw [HT.out, if_neg hnp, if_pos ⟨HID.out.1.2 (by omega), hall⟩]
            obtain ⟨m0, p0, z0⟩ := hall
            have hm0 : (s.mid.toList == []) = true := by rw [he, decide_eq_true_eq]; exact z0
            have bmk : (s.mark == 0) = true := by rw [beq_iff_eq]; exact m0
            have bps : ((s.ps.length : Int) == 0) = true := by rw [beq_iff_eq, p0]; rfl
            clear x128 x64 x48 x60 HT hnp HID he m0 p0 z0
            go_enter Tryd.func28, Tryd.ntmps28
            go_wp2_with fail
            go_end0
            rw [HE.out, List.append_nil]
            exact ⟨rfl, _, _, _, _, HR.out.cell 1 _ rfl rfl⟩
          · skip
            have HE : Hid (res = (bare 5, [])) := by
              unfold Hid
              rw [HT.out, if_neg hnp, if_neg (fun q => hall q.2), if_neg (fun q => by have := HID.out.2.1.1 q.1; omega), if_neg x128, if_neg x64]
            by_cases p0 : s.ps = []
            · have bps : ((s.ps.length : Int) == 0) = true := by rw [beq_iff_eq, p0]; rfl
              by_cases m0 : s.mark = 0
              · have bmk : (s.mark == 0) = true := by rw [beq_iff_eq]; exact m0
                have hm0 : (s.mid.toList == []) = false := by rw [he, decide_eq_false_iff_not]; exact fun q => hall ⟨m0, p0, q⟩
                clear x128 x64 x48 x60 HT hnp HID he m0 p0 hall
                go_enter Tryd.func28, Tryd.ntmps28
                go_wp2_with (refine wpList_store_row rfl 24 (.tmp 1) _ rfl R #[.int .i64 5, .int .u8 0, .string ⟨#[]⟩, .slice none 0 0, .string ⟨#[]⟩, .string ⟨#[]⟩, .bool false] rfl rfl _ _ HRB.out (by kernel_rfl) rfl (by simp [Value.oneCell']) ?_; have h1 := HR.out.bared 5)
                all_goals (go_end0; rw [HE.out, List.append_nil]; exact ⟨rfl, _, _, _, _, h1⟩)
              · have bmk : (s.mark == 0) = false := by rw [beq_eq_false_iff_ne]; exact m0
                clear x128 x64 x48 x60 HT hnp HID he m0 p0 hall
                go_enter Tryd.func28, Tryd.ntmps28
                go_wp2_with (refine wpList_store_row rfl 24 (.tmp 1) _ rfl R #[.int .i64 5, .int .u8 0, .string ⟨#[]⟩, .slice none 0 0, .string ⟨#[]⟩, .string ⟨#[]⟩, .bool false] rfl rfl _ _ HRB.out (by kernel_rfl) rfl (by simp [Value.oneCell']) ?_; have h1 := HR.out.bared 5)
                all_goals (go_end0; rw [HE.out, List.append_nil]; exact ⟨rfl, _, _, _, _, h1⟩)
            · have bps : ((s.ps.length : Int) == 0) = false := by rw [beq_eq_false_iff_ne]; intro q; exact p0 (List.eq_nil_of_length_eq_zero (by omega))
              clear x128 x64 x48 x60 HT hnp HID he p0 hall
              go_enter Tryd.func28, Tryd.ntmps28
              go_wp2_with (refine wpList_store_row rfl 24 (.tmp 1) _ rfl R #[.int .i64 5, .int .u8 0, .string ⟨#[]⟩, .slice none 0 0, .string ⟨#[]⟩, .string ⟨#[]⟩, .bool false] rfl rfl _ _ HRB.out (by kernel_rfl) rfl (by simp [Value.oneCell']) ?_; have h1 := HR.out.bared 5)
              all_goals (go_end0; rw [HE.out, List.append_nil]; exact ⟨rfl, _, _, _, _, h1⟩)
end Prs
end Go.Proofs.YtmgmdijhiplalaaDoor
