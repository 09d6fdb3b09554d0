/- What the reference's reader does with one byte: in its ground. -/
import Derived.Test.YtmgmdijhiplalaaDoorParseRo1
namespace Go.Proofs.YtmgmdijhiplalaaDoor
open Go.ChangeShapes Go.WideShapes Go.ChangeAt Go.RowKit
namespace Prs
set_option maxHeartbeats 8000000 in
set_option maxRecDepth 100000 in
theorem one_ground (x : UInt8) {w0 : World} {R T G O : Nat} {s : St} {es : List Ev} {W : World} (h : RfE w0 R T G O s es W) (hs : s.at' = 0) (hx0 : 32 ≤ x.toNat) (hx1 : x.toNat ≠ 127) (hT : Tabs w0) (hn : es.length + s.left.size ≤ 1000000) :
    Calls Tryd.prog 28 #[.int .u8 (x.toNat : Int), .pointer (some ⟨R, 0, none⟩), .pointer (some ⟨T, 0, none⟩), .pointer (some ⟨G, 0, none⟩), .pointer (some ⟨O, 0, none⟩)] W fun e W' => e = .returned (.tuple #[]) ∧ RfE w0 R T G O (inGround s x).1 (es ++ (inGround s x).2) W' := by
  obtain ⟨N, pv, tv, eqs, h⟩ := h
  have HR : Hid (Rf w0 R T G O s es W N pv tv eqs) := h
  obtain ⟨⟨c0, c1, c2, c3, c4, c5, c6, cf⟩, ⟨ct, ctf⟩, cg, co⟩ := h.cells
  obtain ⟨pa, pc, rfl⟩ := row_slice h.p
  obtain ⟨ta, tc, rfl⟩ := row_slice h.e
  rw [hs] at c0
  unfold groundV at cg
  have HS : Hid (s.at' = 0) := hs
  clear h hs
  have b32 : ¬ (x.toNat : Int) < 32 := by omega
  have b127 : ((x.toNat : Int) == 127) = false := by rw [beq_eq_false_iff_ne]; omega
  clear hx1
  obtain ⟨i0, hi, hzz⟩ := Option.map_eq_some_iff.1 info_event
  simp only [Prod.mk.injEq] at hzz
  obtain ⟨hz0, hz1, hz2⟩ := hzz
  have HOW : Hid (W.ownsRow w0.heap.size 37 7 (.slice ta es.length tc) es.length (evFlat eqs)) := HR.out.e
  have hsz := HR.out.low.size
  have hcv : (convert 52 9 (.slice (some ⟨W.heap.size, 0, none⟩) 1 1)).run Tryd.prog (W.alloc (.cells #[.int .u8 (x.toNat : Int)] 5)) = .ok (.string (one x)) (W.alloc (.cells #[.int .u8 (x.toNat : Int)] 5)) :=
    run_convert_bytes_back (W.alloc (.cells #[.int .u8 (x.toNat : Int)] 5)) 52 9 5 ⟨W.heap.size, 0, none⟩ 1 [x] und_bytes und_byte und_string (fun j hj => by
      match j, hj with
      | 0, _ => exact (cell1 (heap_alloc_new W _)).1)
  have HRB : Hid (W.heap[R]? = some (.cells #[.int .i64 s.at', .int .u8 s.mark, .string s.mid, .slice pa s.ps.length pc, .string s.txt, .string s.left, .bool s.late] 24 (0, 0))) := HR.out.r
  have HRA : Hid ((W.alloc (.cells #[.int .u8 (x.toNat : Int)] 5)).heap[R]? = some (.cells #[.int .i64 s.at', .int .u8 s.mark, .string s.mid, .slice pa s.ps.length pc, .string s.txt, .string s.left, .bool s.late] 24 (0, 0))) := heap_box _ _ HRB.out
  have HAB : Hid (Rf w0 R T G O s es (W.alloc (.cells #[.int .u8 (x.toNat : Int)] 5)) N (.slice pa s.ps.length pc) (.slice ta es.length tc) eqs) := HR.out.below (alloc_next (Below.refl _ _) _)
  obtain ⟨⟨d0, d1, d2, d3, d4, d5, d6, df⟩, -, -, -⟩ := HAB.out.cells
  have df2 := df 2
  have df4 := df 4
  have df5 := df 5
  have HT : Hid (∀ W, Below w0.heap.size w0 W → Tabs W) := fun W k => hT.next k
  have hcc : ¬ 9223372036854775807 < s.left.size + (one x).size := by show ¬ _ < s.left.size + 1; omega
  obtain ⟨D, hD⟩ : ∃ D, s.left ++ one x = D := ⟨_, rfl⟩
  have hDs : D.size ≤ s.left.size + 1 := by rw [← hD, ByteArray.size_append]; exact Nat.le_refl _
  have HE : Hid (inGround s x = ({ s with left := (drain D.size D).2 }, (drain D.size D).1)) := by rw [← hD]; rfl
  generalize inGround s x = res at HE ⊢
  have HD : Hid (s.left ++ one x = D) := hD
  have HC : Hid (Rf w0 R T G O { s with left := D } es ((W.alloc (.cells #[.int .u8 (x.toNat : Int)] 5)).setCell ⟨R, 5, none⟩ (.string D)) N (.slice pa s.ps.length pc) (.slice ta es.length tc) eqs) := HAB.out.cell 5 (.string D) rfl rfl
  clear hD hT
  go_enter Tryd.func28, Tryd.ntmps28
  go_wp2_with fail
  rw [HD.out]
  go_loopg [6] D.size (fun q _ wr => ∃ (D' : ByteArray) (pre : List Ev) (tv' : Value) (eqs' : List (Ev × Value)), D'.size ≤ q ∧ drain D.size D = (pre ++ (drain q D').1, (drain q D').2) ∧ pre.length + D'.size ≤ D.size ∧ Rf w0 R T G O { s with left := D' } (es ++ pre) wr N (.slice pa s.ps.length pc) tv' eqs')
  case atStart => exact ⟨D, [], _, eqs, Nat.le_refl _, rfl, by simp, by rw [List.append_nil]; exact HC.out⟩
  case round =>
    obtain ⟨D', pre, tv', eqs', hq, hdr, hpl, hR⟩ := hrel
    clear c0 c1 c2 c3 c4 c5 c6 cf ct ctf cg co d0 d1 d2 d3 d4 d5 d6 df df2 df4 df5 HOW HRB HRA HAB HC hcv
    obtain ⟨ES, hES⟩ : ∃ ES, es ++ pre = ES := ⟨_, rfl⟩
    have hEl : ES.length ≤ 1000010 := by rw [← hES, List.length_append]; omega
    rw [hES] at hR
    obtain ⟨ta', tc', rfl⟩ := row_slice hR.e
    have HES : Hid (es ++ pre = ES) := hES
    have HRR : Hid (Rf w0 R T G O { s with left := D' } ES wr N (.slice pa s.ps.length pc) (.slice ta' ES.length tc') eqs') := hR
    have HDR : Hid (drain D.size D = (pre ++ (drain gk D').1, (drain gk D').2)) := hdr
    obtain ⟨⟨c0, c1, c2, c3, c4, c5, c6, cf⟩, ⟨ct, ctf⟩, cg, co⟩ := hR.cells
    clear hES hR hdr
    by_cases hz : D'.size = 0
    · have hze : (D'.toList == []) = true := by rw [empty_iff, decide_eq_true_eq]; exact hz
      have hf : full D' = false := by unfold full; rw [if_pos hz]
      have HFN : Hid (full D' = false) := hf
      clear hz hf
      go_wp2_with fail
      go_end0
      rw [HE.out, HDR.out, drain_stop _ _ HFN.out, List.append_nil, HES.out]
      exact ⟨rfl, _, _, _, _, HRR.out⟩
    · have hze : (D'.toList == []) = false := by rw [empty_iff, decide_eq_false_iff_not]; exact hz
      have HFR := fullRune_any D' wr (HT.out _ HRR.out.low)
      cases hf : full D' with
      | false =>
        rw [hf] at HFR
        have HFN : Hid (full D' = false) := hf
        clear hz hf
        go_wp2_with fail
        refine HFR.mono ?_
        rintro e W1 ⟨rfl, b1⟩
        have h1 := HRR.out.below b1
        clear c0 c1 c2 c3 c4 c5 c6 cf ct ctf cg co
        go_wp2_with fail
        go_end0
        rw [HE.out, HDR.out, drain_stop _ _ HFN.out, List.append_nil, HES.out]
        exact ⟨rfl, _, _, _, _, h1⟩
      | true =>
        rw [hf] at HFR
        have HFN : Hid (full D' = true) := hf
        have ⟨p1, p2⟩ := dec_pos D' hz
        have g1 : (0 : Int) ≤ ((Lib.decodeGo D').2 : Int) := by omega
        have g2 : ((Lib.decodeGo D').2 : Int) ≤ (D'.size : Int) := by omega
        clear hz hf
        go_wp2_with fail
        refine HFR.mono ?_
        rintro e W1 ⟨rfl, b1⟩
        have hR1 := HRR.out.below b1
        have HDC := Tryd.utf8_DecodeRuneInString D' W1 (HT.out _ hR1.low)
        obtain ⟨⟨d0, d1, d2, d3, d4, d5, d6, df⟩, ⟨dt, dtf⟩, dg, do'⟩ := hR1.cells
        have HR1 : Hid (Rf w0 R T G O { s with left := D' } ES W1 N (.slice pa s.ps.length pc) (.slice ta' ES.length tc') eqs') := hR1
        clear c0 c1 c2 c3 c4 c5 c6 cf ct ctf cg co hR1 HRR
        go_wp2_with fail
        refine HDC.mono ?_
        rintro e W2 ⟨rfl, b2⟩
        have hR2 := HR1.out.below b2
        obtain ⟨⟨f0, f1, f2, f3, f4, f5, f6, ff⟩, ⟨ft, ftf⟩, fg, fo⟩ := hR2.cells
        have HR2 : Hid (Rf w0 R T G O { s with left := D' } ES W2 N (.slice pa s.ps.length pc) (.slice ta' ES.length tc') eqs') := hR2
        have hwz := hR2.low.size
        clear d0 d1 d2 d3 d4 d5 d6 df dt dtf dg do' hR2 HR1
        go_wp2_with (at_builtin; refine Hid.out ?_)
        unfold Hid
        refine wpList_append_own _ rfl _ _ 26 rfl w0.heap.size 37 i0 (.agg #[.int .i64 0, .int .i32 0, .int .u8 0, .int .u8 0, .string ⟨#[]⟩, .slice none 0 0, .string ⟨#[]⟩]) 7 72 und_events hi hz0 hz1 hz2 rfl (by decide) (.slice ta' ES.length tc') ES.length (evFlat eqs') rfl (HR2.out.e.alloc _) ⟨W2.heap.size, 0, none⟩ 1 1 (evCells (evP (Lib.decodeGo D').1) (.slice none 0 0)) rfl rfl (cells_of_block (heap_alloc_new W2 _)) (by intro u hu; simp [evCells] at hu; rcases hu with rfl | rfl | rfl | rfl | rfl | rfl | rfl <;> rfl) (by unfold maxLen; omega) (by omega) (by simp; omega) ?_
        intro v3 W3 hown3 hgrow _
        obtain ⟨g3, cc3, rfl⟩ := row_form hown3 (by omega)
        have h3 := (HR2.out.below (alloc_next (Below.refl _ _) _)).told (evP (Lib.decodeGo D').1) (.slice none 0 0) (psNil _ _ _) hown3 hgrow
        obtain ⟨hT0, hTf⟩ := cell1 (told_cell (HR2.out.below (alloc_next (Below.refl _ _) (.cells (evCells (evP (Lib.decodeGo D').1) (.slice none 0 0)).toArray 37))) hgrow)
        have H3 : Hid _ := h3
        clear hown3 hgrow h3
        obtain ⟨⟨k0, k1, k2, k3, k4, k5, k6, kf⟩, -, -, -⟩ := H3.out.cells
        have kf5 := kf 5
        clear f0 f1 f2 f3 f4 f5 f6 ff ft ftf fg fo
        go_wp2_with fail
        go_roundg (gk - 1)
        case measure => omega
        case rel =>
          have e1 := HDR.out
          rw [show gk = (gk - 1) + 1 by omega, drain_go _ _ HFN.out] at e1
          have hsz2 : (D'.extract (Lib.decodeGo D').2 D'.size).size = D'.size - (Lib.decodeGo D').2 := by rw [ByteArray.size_extract]; omega
          refine ⟨D'.extract (Lib.decodeGo D').2 D'.size, pre ++ [evP (Lib.decodeGo D').1], .slice (some ⟨g3, 0, none⟩) (ES.length + 1) cc3, eqs' ++ [(evP (Lib.decodeGo D').1, .slice none 0 0)], by rw [hsz2]; omega, ?_, by rw [hsz2, List.length_append, List.length_singleton]; omega, ?_⟩
          · rw [e1, List.append_assoc]
            rfl
          · rw [← List.append_assoc, HES.out]
            exact H3.out.cell 5 (.string (D'.extract (Lib.decodeGo D').2 D'.size)) rfl rfl
end Prs
end Go.Proofs.YtmgmdijhiplalaaDoor
