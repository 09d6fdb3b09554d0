/- What the reference's reader does with one byte: control. -/
import Derived.Test.YtmgmdijhiplalaaDoorParseRo1
namespace Go.Proofs.YtmgmdijhiplalaaDoor
open Go.ChangeShapes Go.WideShapes Go.ChangeAt Go.RowKit
namespace Prs
set_option maxHeartbeats 8000000 in
set_option maxRecDepth 100000 in
theorem one_control (x : UInt8) {w0 : World} {R T G O : Nat} {s : St} {es : List Ev} {W : World} (h : RfE w0 R T G O s es W) (hs : s.at' ≠ 4) (hc : isCtl x = true) (hn : es.length + s.left.size ≤ 1000000) :
    Calls Tryd.prog 28 #[.int .u8 (x.toNat : Int), .pointer (some ⟨R, 0, none⟩), .pointer (some ⟨T, 0, none⟩), .pointer (some ⟨G, 0, none⟩), .pointer (some ⟨O, 0, none⟩)] W fun e W' => e = .returned (.tuple #[]) ∧ RfE w0 R T G O (control s x).1 (es ++ (control s x).2) W' := by
  obtain ⟨N, pv, tv, eqs, h⟩ := h
  have HR : Hid (Rf w0 R T G O s es W N pv tv eqs) := h
  obtain ⟨⟨c0, c1, c2, c3, c4, c5, c6, cf⟩, ⟨ct, ctf⟩, cg, co⟩ := h.cells
  obtain ⟨pa, pc, rfl⟩ := row_slice h.p
  obtain ⟨ta, tc, rfl⟩ := row_slice h.e
  unfold groundV at cg
  have b4 : (s.at' == 4) = false := by rw [beq_eq_false_iff_ne]; exact hs
  clear h hs
  obtain ⟨i0, hi, hzz⟩ := Option.map_eq_some_iff.1 info_event
  simp only [Prod.mk.injEq] at hzz
  obtain ⟨hz0, hz1, hz2⟩ := hzz
  have HOW : Hid (W.ownsRow w0.heap.size 37 7 (.slice ta es.length tc) es.length (evFlat eqs)) := HR.out.e
  have hsz := HR.out.low.size
  obtain ⟨L, hL⟩ : ∃ L, s.left.size = L := ⟨_, rfl⟩
  rw [hL] at hn
  have HE : Hid (control s x = if x.toNat = 27 then (bare 1, List.replicate L (evP 65533)) else if x.toNat = 24 ∨ x.toNat = 26 then (bare 0, List.replicate L (evP 65533)) else if x.toNat = 127 then ({ s with left := nt }, List.replicate L (evP 65533)) else ({ s with left := nt }, List.replicate L (evP 65533) ++ [evC x.toNat])) := by rw [← hL]; rfl
  generalize control s x = res at HE ⊢
  have HLL : Hid (s.left.size = L) := hL
  have HX : Hid (x.toNat < 32 ∨ x.toNat = 127) := by
    unfold Hid
    simpa [isCtl] using hc
  have hx256 : x.toNat < 256 := x.toNat_lt
  clear hc hL
  go_enter Tryd.func28, Tryd.ntmps28
  go_upto_region 13 with fail
  go_cut [77] from 72 to 77 (fun s77 wx => s77 = .bool true ∧ wx = W)
  case first =>
    go_wp2_with fail
    all_goals go_meet
    all_goals refine ⟨?_, rfl⟩
    all_goals have hxx := HX.out
    all_goals first
      | rfl
      | (congr 1; rw [decide_eq_true_eq]; omega)
      | (congr 1; rw [beq_iff_eq]; omega)
      | (congr 1; simp; omega)
  case rest =>
    obtain ⟨rfl, hwx⟩ := hcut
    subst hwx
    go_wp2_with fail
    rw [HLL.out]
    go_loopg [81] L (fun q i wr => ∃ (k : Nat) (tv' : Value) (eqs' : List (Ev × Value)), i = .int .i64 (k : Int) ∧ k ≤ L ∧ L - k ≤ q ∧ Rf w0 R T G O s (es ++ List.replicate k (evP 65533)) wr N (.slice pa s.ps.length pc) tv' eqs')
    case atStart => exact ⟨0, _, eqs, rfl, by omega, by omega, by simpa using HR.out⟩
    case round =>
      obtain ⟨k, tv', eqs', rfl, hk, hq, hR⟩ := hrel
      clear c0 c1 c2 c3 c4 c5 c6 cf ct ctf cg co HOW
      obtain ⟨ES, hES⟩ : ∃ ES, es ++ List.replicate k (evP 65533) = ES := ⟨_, rfl⟩
      have hEl : ES.length ≤ 1000000 := by rw [← hES]; simp; omega
      rw [hES] at hR
      obtain ⟨ta', tc', rfl⟩ := row_slice hR.e
      have HES : Hid (es ++ List.replicate k (evP 65533) = ES) := hES
      have HRR : Hid (Rf w0 R T G O s ES wr N (.slice pa s.ps.length pc) (.slice ta' ES.length tc') eqs') := hR
      have hwz := hR.low.size
      obtain ⟨⟨c0, c1, c2, c3, c4, c5, c6, cf⟩, ⟨ct, ctf⟩, cg, co⟩ := hR.cells
      unfold groundV at cg
      clear hES hR
      by_cases hlt : k < L
      · have lt1 : ((k : Int) < (L : Int)) := by omega
        go_wp2_with (at_builtin; refine Hid.out ?_)
        unfold Hid
        refine wpList_append_own _ rfl _ _ 26 rfl w0.heap.size 37 i0 (.agg #[.int .i64 0, .int .i32 0, .int .u8 0, .int .u8 0, .string ⟨#[]⟩, .slice none 0 0, .string ⟨#[]⟩]) 7 72 und_events hi hz0 hz1 hz2 rfl (by decide) (.slice ta' ES.length tc') ES.length (evFlat eqs') rfl (HRR.out.e.alloc _) ⟨wr.heap.size, 0, none⟩ 1 1 (evCells (evP 65533) (.slice none 0 0)) rfl rfl (cells_of_block (heap_alloc_new wr _)) (by intro u hu; simp [evCells] at hu; rcases hu with rfl | rfl | rfl | rfl | rfl | rfl | rfl <;> rfl) (by unfold maxLen; omega) (by omega) (by simp; omega) ?_
        intro v3 W3 hown3 hgrow _
        obtain ⟨g3, cc3, rfl⟩ := row_form hown3 (by omega)
        have h3 := (HRR.out.below (alloc_next (Below.refl _ _) _)).told (evP 65533) (.slice none 0 0) (psNil _ _ _) hown3 hgrow
        obtain ⟨hT0, hTf⟩ := cell1 (told_cell (HRR.out.below (alloc_next (Below.refl _ _) (.cells (evCells (evP 65533) (.slice none 0 0)).toArray 37))) hgrow)
        have H3 : Hid _ := h3
        clear hown3 hgrow h3
        go_upto_region 17 with fail
        clear c0 c1 c2 c3 c4 c5 c6 cf ct ctf cg co hT0 hTf b4
        go_wp2_with fail
        go_roundg (L - (k + 1))
        case measure => omega
        case rel => exact ⟨k + 1, _, _, rfl, by omega, by omega, by rw [rep_snoc, HES.out]; exact H3.out⟩
      · have lt1 : ¬ ((k : Int) < (L : Int)) := by omega
        have hkL : k = L := by omega
        subst hkL
        have cf5 := cf 5
        have H5 : Hid (Rf w0 R T G O { s with left := nt } ES (wr.setCell ⟨R, 5, none⟩ (.string ⟨#[]⟩)) N (.slice pa s.ps.length pc) (.slice ta' ES.length tc') eqs') := HRR.out.cell 5 (.string nt) rfl rfl
        obtain ⟨⟨d0, d1, d2, d3, d4, d5, d6, df⟩, ⟨dt, dtf⟩, dg, do'⟩ := H5.out.cells
        unfold groundV at dg
        unfold nt at d5
        have HRB : Hid ((wr.setCell ⟨R, 5, none⟩ (.string ⟨#[]⟩)).heap[R]? = some (.cells #[.int .i64 s.at', .int .u8 s.mark, .string s.mid, .slice pa s.ps.length pc, .string s.txt, .string ⟨#[]⟩, .bool s.late] 24 (0, 0))) := H5.out.r
        have HNW : Hid (∀ o, ((wr.setCell ⟨R, 5, none⟩ (.string ⟨#[]⟩)).alloc o).heap[wr.heap.size]? = some o) := fun o => by
          have h := heap_alloc_new (wr.setCell ⟨R, 5, none⟩ (.string ⟨#[]⟩)) o
          simpa using h
        clear hlt
        by_cases x27 : x.toNat = 27
        · skip
          have b27 : ((x.toNat : Int) == 27) = true := by rw [beq_iff_eq]; omega
          have X : Hid (x.toNat = 27) := x27
          clear x27
          go_wp2_with (refine wpList_store_row rfl 24 (.tmp 1) _ rfl R #[.int .i64 1, .int .u8 0, .string ⟨#[]⟩, .slice none 0 0, .string ⟨#[]⟩, .string ⟨#[]⟩, .bool false] rfl rfl _ _ HRB.out (by kernel_rfl) rfl (by simp [Value.oneCell']) ?_; have h1 := H5.out.bared 1)
          (try simp only [Exit.inBlock, Exit.then])
          refine bodyPost_ret (v := .tuple #[]) (results_none rfl _ _ _) rfl ?_
          rw [HE.out, if_pos X.out, HES.out]
          exact ⟨rfl, _, _, _, _, h1⟩
        · by_cases x24 : x.toNat = 24 ∨ x.toNat = 26
          · skip
            have b27 : ((x.toNat : Int) == 27) = false := by rw [beq_eq_false_iff_ne]; omega
            have X : Hid (x.toNat = 24 ∨ x.toNat = 26) := x24
            have Y : Hid (¬ x.toNat = 27) := x27
            have hx : (x.toNat : Int) = 24 ∨ (x.toNat : Int) = 26 := by omega
            have bb : (((x.toNat : Int) == 24) || ((x.toNat : Int) == 26)) = true := by rw [Bool.or_eq_true, beq_iff_eq, beq_iff_eq]; exact hx
            clear x24 x27 hx
            rcases Nat.decEq x.toNat 24 with q24 | q24
            · have b24 : ((x.toNat : Int) == 24) = false := by rw [beq_eq_false_iff_ne]; omega
              have b26 : ((x.toNat : Int) == 26) = true := by rw [beq_iff_eq]; have := X.out; omega
              clear q24 bb
              go_wp2_with (go_at_call 27; refine (ground_any H5.out).mono ?_; rintro e W4 ⟨rfl, h4⟩; have h1 := h4)
              (try simp only [Exit.inBlock, Exit.then])
              refine bodyPost_ret (v := .tuple #[]) (results_none rfl _ _ _) rfl ?_
              rw [HE.out, if_neg Y.out, if_pos X.out, HES.out]
              exact ⟨rfl, _, _, _, _, h1⟩
            · have b24 : ((x.toNat : Int) == 24) = true := by rw [beq_iff_eq]; omega
              clear q24 bb
              go_wp2_with (go_at_call 27; refine (ground_any H5.out).mono ?_; rintro e W4 ⟨rfl, h4⟩; have h1 := h4)
              (try simp only [Exit.inBlock, Exit.then])
              refine bodyPost_ret (v := .tuple #[]) (results_none rfl _ _ _) rfl ?_
              rw [HE.out, if_neg Y.out, if_pos X.out, HES.out]
              exact ⟨rfl, _, _, _, _, h1⟩
          · by_cases x127 : x.toNat = 127
            · skip
              have b27 : ((x.toNat : Int) == 27) = false := by rw [beq_eq_false_iff_ne]; omega
              have b24 : ((x.toNat : Int) == 24) = false := by rw [beq_eq_false_iff_ne]; omega
              have b26 : ((x.toNat : Int) == 26) = false := by rw [beq_eq_false_iff_ne]; omega
              have b127 : ((x.toNat : Int) == 127) = true := by rw [beq_iff_eq]; omega
              have X : Hid (x.toNat = 127) := x127
              have Y : Hid (¬ x.toNat = 27 ∧ ¬ (x.toNat = 24 ∨ x.toNat = 26)) := ⟨x27, x24⟩
              clear x127 x24 x27
              go_wp2_with fail
              (try simp only [Exit.inBlock, Exit.then])
              refine bodyPost_ret (v := .tuple #[]) (results_none rfl _ _ _) rfl ?_
              rw [HE.out, if_neg Y.out.1, if_neg Y.out.2, if_pos X.out, HES.out]
              exact ⟨rfl, _, _, _, _, H5.out⟩
            · skip
              have b27 : ((x.toNat : Int) == 27) = false := by rw [beq_eq_false_iff_ne]; omega
              have b24 : ((x.toNat : Int) == 24) = false := by rw [beq_eq_false_iff_ne]; omega
              have b26 : ((x.toNat : Int) == 26) = false := by rw [beq_eq_false_iff_ne]; omega
              have b127 : ((x.toNat : Int) == 127) = false := by rw [beq_eq_false_iff_ne]; omega
              have X : Hid (¬ x.toNat = 127) := x127
              have Y : Hid (¬ x.toNat = 27 ∧ ¬ (x.toNat = 24 ∨ x.toNat = 26)) := ⟨x27, x24⟩
              clear x127 x24 x27
              go_wp2_with (at_builtin; refine Hid.out ?_)
              unfold Hid
              refine wpList_append_own _ rfl _ _ 26 rfl w0.heap.size 37 i0 (.agg #[.int .i64 0, .int .i32 0, .int .u8 0, .int .u8 0, .string ⟨#[]⟩, .slice none 0 0, .string ⟨#[]⟩]) 7 72 und_events hi hz0 hz1 hz2 rfl (by decide) (.slice ta' ES.length tc') ES.length (evFlat eqs') rfl (H5.out.e.alloc _) ⟨wr.heap.size, 0, none⟩ 1 1 (evCells (evC x.toNat) (.slice none 0 0)) rfl rfl (cells_of_block (HNW.out _)) (by intro u hu; simp [evCells] at hu; rcases hu with rfl | rfl | rfl | rfl | rfl | rfl | rfl <;> rfl) (by unfold maxLen; omega) (by omega) (by simp; omega) ?_
              intro v3 W3 hown3 hgrow _
              obtain ⟨g3, cc3, rfl⟩ := row_form hown3 (by omega)
              have h3 := (H5.out.below (alloc_next (Below.refl _ _) _)).told (evC x.toNat) (.slice none 0 0) (psNil _ _ _) hown3 hgrow
              obtain ⟨hT0, hTf⟩ := cell1 (told_cell (H5.out.below (alloc_next (Below.refl _ _) (.cells (evCells (evC x.toNat) (.slice none 0 0)).toArray 37))) hgrow)
              have H3 : Hid _ := h3
              clear hown3 hgrow h3
              go_wp2_with fail
              (try simp only [Exit.inBlock, Exit.then])
              refine bodyPost_ret (v := .tuple #[]) (results_none rfl _ _ _) rfl ?_
              rw [HE.out, if_neg Y.out.1, if_neg Y.out.2, if_neg X.out, ← List.append_assoc, HES.out]
              exact ⟨rfl, _, _, _, _, H3.out⟩
end Prs
end Go.Proofs.YtmgmdijhiplalaaDoor
