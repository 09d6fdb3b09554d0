/- What the reference's reader does with one byte: the numbers of a command. -/
import Derived.Test.YtmgmdijhiplalaaDoorParseRn
namespace Go.Proofs.YtmgmdijhiplalaaDoor
open Go.ChangeShapes Go.WideShapes Go.ChangeAt Go.RowKit
namespace Prs
set_option maxHeartbeats 8000000 in
set_option maxRecDepth 100000 in
theorem one_command_param (x : UInt8) {w0 : World} {R T G O : Nat} {s : St} {es : List Ev} {W : World} (h : RfE w0 R T G O s es W) (hs : s.at' = 3) (hx0 : 32 ≤ x.toNat) (hx1 : x.toNat ≠ 127) (hp : (isDig x = true ∨ x.toNat = 59) ∧ s.mid.size = 0) (h16 : s.ps.length ≤ 16) (hlo : ∀ y, y ∈ s.ps → y ≤ 9999) :
    Calls Tryd.prog 28 #[.int .u8 (x.toNat : Int), .pointer (some ⟨R, 0, none⟩), .pointer (some ⟨T, 0, none⟩), .pointer (some ⟨G, 0, none⟩), .pointer (some ⟨O, 0, none⟩)] W fun e W' => e = .returned (.tuple #[]) ∧ RfE w0 R T G O (param s x, ([] : List Ev)).1 (es ++ (param s x, ([] : List Ev)).2) W' := by
  obtain ⟨N, pv, tv, eqs, h⟩ := h
  have HR : Hid (Rf w0 R T G O s es W N pv tv eqs) := h
  obtain ⟨⟨c0, c1, c2, c3, c4, c5, c6, cf⟩, ⟨ct, ctf⟩, cg, co⟩ := h.cells
  obtain ⟨pa, pc, rfl⟩ := row_slice h.p
  obtain ⟨ta, tc, rfl⟩ := row_slice h.e
  rw [hs] at c0
  unfold groundV at cg
  have HS : Hid (s.at' = 3) := hs
  clear h hs
  have b32 : ¬ (x.toNat : Int) < 32 := by omega
  have b127 : ((x.toNat : Int) == 127) = false := by rw [beq_eq_false_iff_ne]; omega
  clear hx1
  have hm0 : (s.mid.toList == []) = true := by rw [empty_iff, decide_eq_true_eq]; exact hp.2
  have HDG : Hid (isDig x = true ↔ 48 ≤ x.toNat ∧ x.toNat ≤ 57) := by
    unfold Hid isDig
    simp only [Bool.and_eq_true, decide_eq_true_eq]
  have hr : 48 ≤ x.toNat ∧ x.toNat ≤ 59 ∧ x.toNat ≠ 58 := by
    rcases hp.1 with q | q
    · have := HDG.out.1 q
      omega
    · omega
  have i128 : ¬ (128 : Int) ≤ (x.toNat : Int) := by omega
  have i64 : ¬ (64 : Int) ≤ (x.toNat : Int) := by omega
  have i48 : (48 : Int) ≤ (x.toNat : Int) := by omega
  have i59 : (x.toNat : Int) ≤ 59 := by omega
  have i58 : ((x.toNat : Int) != 58) = true := by rw [bne_iff_ne]; omega
  have HH16 : Hid (s.ps.length ≤ 16 ∧ ∀ y, y ∈ s.ps → y ≤ 9999) := ⟨h16, hlo⟩
  have cf3 := cf 3
  have HRN : Hid (48 ≤ x.toNat ∧ x.toNat ≤ 59 ∧ x.toNat ≠ 58) := hr
  clear hp hr hlo
  go_enter Tryd.func28, Tryd.ntmps28
  go_upto_if 254 with fail
  go_cut [254] from 251 to 256 (fun _ wx => ∃ N' pv', Rf w0 R T G O { s with ps := begun s.ps } es wx N' pv' (.slice ta es.length tc) eqs)
  case first =>
    by_cases p0 : s.ps = []
    · have bps : ((s.ps.length : Int) == 0) = true := by rw [beq_iff_eq, p0]; rfl
      have HB : Hid (begun s.ps = [-1]) := by unfold Hid; rw [p0]; rfl
      clear p0
      obtain ⟨⟨k0, k1, k2, k3, k4, k5, k6, kf⟩, -, -, -⟩ := (HR.out.below (alloc_next (Below.refl _ _) (.cells #[.int .i64 (-1)] 3))).cells
      have kf3 := kf 3
      go_wp2_with fail
      all_goals go_meet
      all_goals (rw [HB.out]; exact ⟨_, _, HR.out.begun⟩)
    · have bps : ((s.ps.length : Int) == 0) = false := by rw [beq_eq_false_iff_ne]; intro q; exact p0 (List.eq_nil_of_length_eq_zero (by omega))
      have HB : Hid (begun s.ps = s.ps) := begun_cons p0
      clear p0
      go_wp2_with fail
      all_goals go_meet
      all_goals (rw [HB.out]; exact ⟨_, _, HR.out⟩)
  case rest =>
    obtain ⟨N1, pv1, h⟩ := hcut
    clear c0 c1 c2 c3 c4 c5 c6 cf ct ctf cg co cf3 HR i128 i64 i48 i59 i58 b32 b127 hm0
    have HE : Hid (param s x = if isDig x then { s with ps := digit (begun s.ps) x } else if (begun s.ps).length < 16 then { s with ps := begun s.ps ++ [-1] } else bare 5) := rfl
    have hbf := begun_fit s.ps HH16.out.1 HH16.out.2
    have hbp : 0 < (begun s.ps).length := by unfold begun; split <;> simp_all [List.length_pos_iff]
    generalize begun s.ps = l at h HE hbf hbp
    obtain ⟨hl16, hlo⟩ := hbf
    have HLO : Hid (∀ y, y ∈ l → y ≤ 9999) := hlo
    have HP : Hid (wc.ownsRow N1 3 1 pv1 l.length (ints l)) := h.p
    obtain ⟨g, cap, rfl⟩ := row_form h.p hbp
    have HH : Hid (Rf w0 R T G O { s with ps := l } es wc N1 (.slice (some ⟨g, 0, none⟩) l.length cap) (.slice ta es.length tc) eqs) := h
    obtain ⟨⟨c0, c1, c2, c3, c4, c5, c6, cf⟩, ⟨ct, ctf⟩, cg, co⟩ := h.cells
    obtain ⟨L, hL⟩ : ∃ L, l.length = L := ⟨_, rfl⟩
    have hcell : wc.cell? ⟨g, L - 1, none⟩ = some (.int .i64 (l.getD (L - 1) 0)) := by
      have := h.p.cellAt (L - 1) (by show L - 1 < l.length * 1; omega)
      rw [this]
      have hlt : L - 1 < l.length := by omega
      simp [ints, List.getD, List.getElem?_eq_getElem hlt]
    have hfroz : wc.frozen? ⟨g, L - 1, none⟩ = false := h.p.frozenAt (L - 1)
    have hl1 : IntKind.i64.wrap ((L : Int) - 1) = ((L - 1 : Nat) : Int) := by
      rw [IntWalk.i64_in _ ⟨by omega, by omega⟩]
      omega
    have hl2 : (L : Int) - 1 = ((L - 1 : Nat) : Int) := by omega
    have hLp : 0 < L := by omega
    have hL16 : L ≤ 16 := by omega
    have hx8 := x.toNat_lt
    have cf3 := cf 3
    simp only [hL] at c3
    have HL : Hid (l.length = L) := hL
    clear h hlo
    cases hd : isDig x with
    | true =>
      have hdd := HDG.out.1 hd
      have i59 : ((x.toNat : Int) == 59) = false := by rw [beq_eq_false_iff_ne]; omega
      have hy : l.getD (L - 1) 0 ≤ 9999 := by
        have hlt : L - 1 < l.length := by omega
        have : l.getD (L - 1) 0 = l[L - 1] := by simp [List.getD, hlt]
        rw [this]
        exact HLO.out _ (List.getElem_mem hlt)
      obtain ⟨y, hyy⟩ : ∃ y, l.getD (L - 1) 0 = y := ⟨_, rfl⟩
      rw [hyy] at hcell hy
      have HY : Hid (l.getD (L - 1) 0 = y) := hyy
      have HED : Hid (param s x = { s with ps := digit l x }) := by unfold Hid; rw [HE.out, if_pos hd]
      clear hyy hd HE HP hL
      go_wp2_with fail
      go_end0
      rw [HED.out]
      have h7 := HH.out.numset (L - 1) (min (max y 0 * 10 + ((x.toNat : Int) - 48)) 9999)
      have e7 : min (9999 : Int) (max y 0 * 10 + (x.toNat : Int) - 48) = min (max y 0 * 10 + ((x.toNat : Int) - 48)) 9999 := by omega
      rw [e7]
      unfold digit
      rw [HL.out, HY.out]
      exact ⟨rfl, _, _, _, _, h7⟩
    | false =>
      have h59 : x.toNat = 59 := by
        have := HRN.out
        have h2 : ¬ (48 ≤ x.toNat ∧ x.toNat ≤ 57) := fun q => by rw [HDG.out.2 q] at hd; simp at hd
        omega
      have i59 : ((x.toNat : Int) == 59) = true := by rw [beq_iff_eq]; omega
      obtain ⟨i0, hi, hzz⟩ := Option.map_eq_some_iff.1 info_int
      simp only [Prod.mk.injEq] at hzz
      obtain ⟨hz0, hz1, hz2⟩ := hzz
      by_cases h15 : L < 16
      · have b16 : ((L : Int) == 16) = false := by rw [beq_eq_false_iff_ne]; omega
        have HED : Hid (param s x = { s with ps := l ++ [-1] }) := by unfold Hid; rw [HE.out, if_neg (by rw [hd]; decide), if_pos (by omega)]
        have hown : wc.ownsRow N1 3 1 (.slice (some ⟨g, 0, none⟩) L cap) L (ints l) := by have := HP.out; rw [HL.out] at this; exact this
        have hN1 := HH.out.n1
        clear hd h59 HE HP hL
        go_wp2_with (at_builtin; refine Hid.out ?_)
        unfold Hid
        refine wpList_append_own _ rfl _ _ 22 rfl N1 3 i0 (.int .i64 0) 1 8 und_ints hi hz0 hz1 hz2 rfl (by decide) (.slice (some ⟨g, 0, none⟩) L cap) L (ints l) rfl (hown.alloc _) ⟨wc.heap.size, 0, none⟩ 1 1 [.int .i64 (-1)] rfl rfl (cells_of_block (heap_alloc_new wc _)) (by intro u hu; simp at hu; rw [hu]; rfl) (by unfold maxLen; omega) (by omega) (by simp; omega) ?_
        intro v3 W3 hown3 hgrow _
        obtain ⟨g3, cc3, rfl⟩ := row_form hown3 (by omega)
        have hown4 : W3.ownsRow N1 3 1 (.slice (some ⟨g3, 0, none⟩) (L + 1) cc3) (l ++ [-1]).length (ints (l ++ [-1])) := by
          have e1 : ints (l ++ [-1]) = ints l ++ [.int .i64 (-1)] := by simp [ints]
          rw [List.length_append, HL.out, e1]
          exact hown3
        have hgr : (wc.alloc (.cells #[.int .i64 (-1)] 3)).grownBy W3 (Value.slice (some ⟨g, 0, none⟩) l.length cap).ownBlock := hgrow
        have h7 := HH.out.nums (alloc_next (Below.refl _ _) _) (l ++ [-1]) hown4 hgr
        have hR7 : W3.heap[R]? = some (.cells #[.int .i64 s.at', .int .u8 s.mark, .string s.mid, .slice (some ⟨g, 0, none⟩) l.length cap, .string s.txt, .string s.left, .bool s.late] 24 (0, 0)) := by
          have h8 := HH.out.below (alloc_next (Below.refl _ _) (.cells #[.int .i64 (-1)] 3))
          exact (hgr.block R (blk_lt h8.r) (fun e1 => row_ne h8.p h8.r (by decide) e1.symm)).trans h8.r
        obtain ⟨m0, m1, m2, m3, m4, m5, m6, mf⟩ := cells7 hR7
        have mf3 := mf 3
        have H7 : Hid _ := h7
        clear hown3 hgrow hgr h7 hown4 hR7 c0 c1 c2 c3 c4 c5 c6 cf ct ctf cg co cf3 hcell hfroz
        go_wp2_with fail
        go_end0
        rw [HED.out]
        exact ⟨rfl, _, _, _, _, H7.out⟩
      · have b16 : ((L : Int) == 16) = true := by rw [beq_iff_eq]; omega
        have HED : Hid (param s x = bare 5) := by unfold Hid; rw [HE.out, if_neg (by rw [hd]; decide), if_neg (by omega)]
        have HRB : Hid (wc.heap[R]? = some (.cells #[.int .i64 s.at', .int .u8 s.mark, .string s.mid, .slice (some ⟨g, 0, none⟩) l.length cap, .string s.txt, .string s.left, .bool s.late] 24 (0, 0))) := HH.out.r
        clear hd h59 HE HP hL
        go_wp2_with (refine wpList_store_row rfl 24 (.tmp 1) _ rfl R #[.int .i64 5, .int .u8 0, .string ⟨#[]⟩, .slice none 0 0, .string ⟨#[]⟩, .string ⟨#[]⟩, .bool false] rfl rfl _ _ HRB.out (by kernel_rfl) rfl (by simp [Value.oneCell']) ?_; have h1 := HH.out.bared 5)
        go_end0
        rw [HED.out]
        exact ⟨rfl, _, _, _, _, h1⟩
end Prs
end Go.Proofs.YtmgmdijhiplalaaDoor
