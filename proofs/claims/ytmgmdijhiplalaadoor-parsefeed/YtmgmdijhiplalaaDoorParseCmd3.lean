/- A reader in a command. (Written by gen_parsecmd.py.) -/
import Derived.Test.YtmgmdijhiplalaaDoorParseCmd2
namespace Go.Proofs.YtmgmdijhiplalaaDoor
open Go.ChangeShapes Go.WideShapes Go.ChangeAt Go.RowKit
namespace Prs
theorem row_mono {w : World} {base base' : Nat} {e : TypeId} {size : Nat} {v : Value} {n : Nat} {xs : List Value} (h : w.ownsRow base e size v n xs) (hb : base' ≤ base) : w.ownsRow base' e size v n xs := by
  refine ⟨h.1, ?_⟩
  rcases h.2 with h2 | ⟨g, cap, cur, hv, hg, r⟩
  · exact .inl h2
  · exact .inr ⟨g, cap, cur, hv, Nat.le_trans hb hg, r⟩
set_option maxHeartbeats 8000000 in
set_option maxRecDepth 100000 in
theorem inCommand_any (x : UInt8) {w0 : World} {R T : Nat} {s : St} {es : List Ev} {W : World} (h : RdE w0 R T s es W) (hn : es.length ≤ 1000000) (h16 : s.ps.length ≤ 16) (hlo : ∀ y, y ∈ s.ps → y ≤ 9999) :
    Calls Tryd.prog 67 #[.pointer (some ⟨R, 0, none⟩), .int .u8 (x.toNat : Int)] W fun e W' => e = .returned (.tuple #[]) ∧ RdE w0 R T (inCommand s x).1 (es ++ (inCommand s x).2) W' := by
  have HP := param_any x h h16 hlo
  obtain ⟨N, pv, tv, eqs, h⟩ := h
  obtain ⟨c0, c1, c2, c3, c4, c5, c6, c7, cf⟩ := h.cells
  obtain ⟨pa, pc, rfl⟩ := row_slice h.p
  have cf1 := cf 1
  have HE : Hid (inCommand s x = if (isDig x = true ∨ x.toNat = 59) ∧ s.mid.size = 0 then (param s x, []) else if isMark x.toNat = true ∧ s.mark = 0 ∧ s.ps = [] ∧ s.mid.size = 0 then ({ s with mark := x.toNat }, []) else if isMid x = true ∧ s.mid.size < 2 then ({ s with mid := s.mid ++ one x }, []) else if 128 ≤ x.toNat then (bare 0, []) else if 64 ≤ x.toNat then (bare 0, [⟨4, 0, x.toNat, s.mark, s.mid, s.ps, nt⟩]) else (bare 5, [])) := rfl
  generalize inCommand s x = res at HE ⊢
  have hx8 := x.toNat_lt
  have iD : isDig x = true ↔ 48 ≤ x.toNat ∧ x.toNat ≤ 57 := by simp [isDig]
  have iM : isMid x = true ↔ 32 ≤ x.toNat ∧ x.toNat ≤ 47 := by simp [isMid]
  have iK : isMark x.toNat = true ↔ 60 ≤ x.toNat ∧ x.toNat ≤ 63 := by simp [isMark]; omega
  have HD := isDigit_any x W
  have HM := isMiddle_any x W
  have HK := isMark_any x.toNat W
  have he := empty_iff s.mid
  have HX0 := enter_any 0 h
  have HX5 := enter_any 5 h
  have HI : Hid ((isDig x = true ↔ 48 ≤ x.toNat ∧ x.toNat ≤ 57) ∧ (isMid x = true ↔ 32 ≤ x.toNat ∧ x.toNat ≤ 47) ∧ (isMark x.toNat = true ↔ 60 ≤ x.toNat ∧ x.toNat ≤ 63)) := ⟨iD, iM, iK⟩
  by_cases d1 : 48 ≤ x.toNat ∧ x.toNat ≤ 57
  · by_cases z0 : s.mid.size = 0
    · skip
      have hD : isDig x = true := by rw [HI.out.1]; omega
      have hM : isMid x = false := by rw [← Bool.not_eq_true, HI.out.2.1]; omega
      have hK : isMark x.toNat = false := by rw [← Bool.not_eq_true, HI.out.2.2]; omega
      rw [hD] at HD
      rw [hM] at HM
      rw [hK] at HK
      have hm0 : (s.mid.toList == []) = true := by rw [he, decide_eq_true_eq]; exact z0
      clear h
      clear HI
      go_enter Tryd.func67, Tryd.ntmps67
      go_wp2_with fail
      refine HD.mono ?_
      rintro e w1 ⟨rfl, hw1⟩
      rw [hw1]
      clear hw1 w1
      go_wp2_with fail
      refine HP.mono ?_
      rintro e W1 ⟨rfl, h1⟩
      go_wp2_with fail
      go_end0
      rw [HE.out, if_pos ⟨.inl hD, z0⟩]
      exact ⟨rfl, by rw [List.append_nil]; exact h1⟩
    · skip
      have hD : isDig x = true := by rw [HI.out.1]; omega
      have hM : isMid x = false := by rw [← Bool.not_eq_true, HI.out.2.1]; omega
      have hK : isMark x.toNat = false := by rw [← Bool.not_eq_true, HI.out.2.2]; omega
      rw [hD] at HD
      rw [hM] at HM
      rw [hK] at HK
      have hm0 : (s.mid.toList == []) = false := by rw [he, decide_eq_false_iff_not]; exact z0
      have y128 : ¬ (128 : Int) ≤ (x.toNat : Int) := by omega
      have y64 : ¬ (64 : Int) ≤ (x.toNat : Int) := by omega
      clear h
      clear HI
      go_enter Tryd.func67, Tryd.ntmps67
      go_wp2_with fail
      refine HD.mono ?_
      rintro e w1 ⟨rfl, hw1⟩
      rw [hw1]
      clear hw1 w1
      go_wp2_with fail
      refine HK.mono ?_
      rintro e w1 ⟨rfl, hw1⟩
      rw [hw1]
      clear hw1 w1
      go_wp2_with fail
      refine HM.mono ?_
      rintro e w1 ⟨rfl, hw1⟩
      rw [hw1]
      clear hw1 w1
      go_wp2_with fail
      refine HX5.mono ?_
      rintro e W1 ⟨rfl, -, h1⟩
      go_wp2_with fail
      go_end0
      rw [HE.out, if_neg (fun q => z0 q.2), if_neg (by rw [hK]; simp), if_neg (by rw [hM]; simp), if_neg (by omega), if_neg (by omega)]
      exact ⟨rfl, _, _, _, _, by rw [List.append_nil]; exact h1⟩
  · by_cases d2 : x.toNat = 59
    · by_cases z0 : s.mid.size = 0
      · skip
        have hD : isDig x = false := by rw [← Bool.not_eq_true, HI.out.1]; omega
        have hM : isMid x = false := by rw [← Bool.not_eq_true, HI.out.2.1]; omega
        have hK : isMark x.toNat = false := by rw [← Bool.not_eq_true, HI.out.2.2]; omega
        rw [hD] at HD
        rw [hM] at HM
        rw [hK] at HK
        have hm0 : (s.mid.toList == []) = true := by rw [he, decide_eq_true_eq]; exact z0
        have b59 : ((x.toNat : Int) == 59) = true := by rw [beq_iff_eq]; omega
        have D2 : Hid (x.toNat = 59) := d2
        clear d1 d2
        clear h
        clear HI
        go_enter Tryd.func67, Tryd.ntmps67
        go_wp2_with fail
        refine HD.mono ?_
        rintro e w1 ⟨rfl, hw1⟩
        rw [hw1]
        clear hw1 w1
        go_wp2_with fail
        refine HP.mono ?_
        rintro e W1 ⟨rfl, h1⟩
        go_wp2_with fail
        go_end0
        rw [HE.out, if_pos ⟨.inr D2.out, z0⟩]
        exact ⟨rfl, by rw [List.append_nil]; exact h1⟩
      · skip
        have hD : isDig x = false := by rw [← Bool.not_eq_true, HI.out.1]; omega
        have hM : isMid x = false := by rw [← Bool.not_eq_true, HI.out.2.1]; omega
        have hK : isMark x.toNat = false := by rw [← Bool.not_eq_true, HI.out.2.2]; omega
        rw [hD] at HD
        rw [hM] at HM
        rw [hK] at HK
        have hm0 : (s.mid.toList == []) = false := by rw [he, decide_eq_false_iff_not]; exact z0
        have b59 : ((x.toNat : Int) == 59) = true := by rw [beq_iff_eq]; omega
        have y128 : ¬ (128 : Int) ≤ (x.toNat : Int) := by omega
        have y64 : ¬ (64 : Int) ≤ (x.toNat : Int) := by omega
        have D2 : Hid (x.toNat = 59) := d2
        clear d1 d2
        clear h
        clear HI
        go_enter Tryd.func67, Tryd.ntmps67
        go_wp2_with fail
        refine HD.mono ?_
        rintro e w1 ⟨rfl, hw1⟩
        rw [hw1]
        clear hw1 w1
        go_wp2_with fail
        refine HK.mono ?_
        rintro e w1 ⟨rfl, hw1⟩
        rw [hw1]
        clear hw1 w1
        go_wp2_with fail
        refine HM.mono ?_
        rintro e w1 ⟨rfl, hw1⟩
        rw [hw1]
        clear hw1 w1
        go_wp2_with fail
        refine HX5.mono ?_
        rintro e W1 ⟨rfl, -, h1⟩
        go_wp2_with fail
        go_end0
        rw [HE.out, if_neg (fun q => z0 q.2), if_neg (by rw [hK]; simp), if_neg (by rw [hM]; simp), if_neg (by have := D2.out; omega), if_neg (by have := D2.out; omega)]
        exact ⟨rfl, _, _, _, _, by rw [List.append_nil]; exact h1⟩
    · have y59 : ¬ (x.toNat : Int) = 59 := by omega
      have b59 : ((x.toNat : Int) == 59) = false := by rw [beq_eq_false_iff_ne]; exact y59
      by_cases d3 : 60 ≤ x.toNat ∧ x.toNat ≤ 63
      · by_cases k0 : s.mark = 0
        · by_cases p0 : s.ps = []
          · by_cases z0 : s.mid.size = 0
            · skip
              have hD : isDig x = false := by rw [← Bool.not_eq_true, HI.out.1]; omega
              have hM : isMid x = false := by rw [← Bool.not_eq_true, HI.out.2.1]; omega
              have hK : isMark x.toNat = true := by rw [HI.out.2.2]; omega
              rw [hD] at HD
              rw [hM] at HM
              rw [hK] at HK
              have hm0 : (s.mid.toList == []) = true := by rw [he, decide_eq_true_eq]; exact z0
              have HF : Hid (Rd w0 R T { s with mark := (x.toNat : Int) } es (W.setCell ⟨R, 1, none⟩ (.int .u8 (x.toNat : Int))) N (.slice pa s.ps.length pc) tv eqs) := h.marks x.toNat
              have hp0 : (s.ps.length : Int) = 0 := by rw [p0]; rfl
              have bk0 : (s.mark == 0) = true := by rw [beq_iff_eq]; exact k0
              have P0 : Hid (s.ps = []) := p0
              have K0 : Hid (s.mark = 0) := k0
              clear p0 k0
              clear h
              clear HI
              go_enter Tryd.func67, Tryd.ntmps67
              go_wp2_with fail
              refine HD.mono ?_
              rintro e w1 ⟨rfl, hw1⟩
              rw [hw1]
              clear hw1 w1
              go_wp2_with fail
              refine HK.mono ?_
              rintro e w1 ⟨rfl, hw1⟩
              rw [hw1]
              clear hw1 w1
              go_wp2_with fail
              go_end0
              rw [HE.out, if_neg (by rw [hD]; simp; omega), if_pos ⟨hK, K0.out, P0.out, z0⟩]
              exact ⟨rfl, _, _, _, _, by rw [List.append_nil]; exact HF.out⟩
            · skip
              have hD : isDig x = false := by rw [← Bool.not_eq_true, HI.out.1]; omega
              have hM : isMid x = false := by rw [← Bool.not_eq_true, HI.out.2.1]; omega
              have hK : isMark x.toNat = true := by rw [HI.out.2.2]; omega
              rw [hD] at HD
              rw [hM] at HM
              rw [hK] at HK
              have hm0 : (s.mid.toList == []) = false := by rw [he, decide_eq_false_iff_not]; exact z0
              have y128 : ¬ (128 : Int) ≤ (x.toNat : Int) := by omega
              have y64 : ¬ (64 : Int) ≤ (x.toNat : Int) := by omega
              have hp0 : (s.ps.length : Int) = 0 := by rw [p0]; rfl
              have bk0 : (s.mark == 0) = true := by rw [beq_iff_eq]; exact k0
              clear p0 k0
              clear h
              clear HI
              go_enter Tryd.func67, Tryd.ntmps67
              go_wp2_with fail
              refine HD.mono ?_
              rintro e w1 ⟨rfl, hw1⟩
              rw [hw1]
              clear hw1 w1
              go_wp2_with fail
              refine HK.mono ?_
              rintro e w1 ⟨rfl, hw1⟩
              rw [hw1]
              clear hw1 w1
              go_wp2_with fail
              refine HM.mono ?_
              rintro e w1 ⟨rfl, hw1⟩
              rw [hw1]
              clear hw1 w1
              go_wp2_with fail
              refine HX5.mono ?_
              rintro e W1 ⟨rfl, -, h1⟩
              go_wp2_with fail
              go_end0
              rw [HE.out, if_neg (by rw [hD]; simp; omega), if_neg (fun q => z0 q.2.2.2), if_neg (by rw [hM]; simp), if_neg (by omega), if_neg (by omega)]
              exact ⟨rfl, _, _, _, _, by rw [List.append_nil]; exact h1⟩
          · skip
            have hD : isDig x = false := by rw [← Bool.not_eq_true, HI.out.1]; omega
            have hM : isMid x = false := by rw [← Bool.not_eq_true, HI.out.2.1]; omega
            have hK : isMark x.toNat = true := by rw [HI.out.2.2]; omega
            rw [hD] at HD
            rw [hM] at HM
            rw [hK] at HK
            have y128 : ¬ (128 : Int) ≤ (x.toNat : Int) := by omega
            have y64 : ¬ (64 : Int) ≤ (x.toNat : Int) := by omega
            have hp0 : ¬ (s.ps.length : Int) = 0 := fun q => p0 (List.length_eq_zero_iff.1 (by omega))
            have bp0 : ((s.ps.length : Int) == 0) = false := by rw [beq_eq_false_iff_ne]; exact hp0
            have bk0 : (s.mark == 0) = true := by rw [beq_iff_eq]; exact k0
            have P0 : Hid (s.ps ≠ []) := p0
            clear p0 k0
            clear h
            clear HI
            go_enter Tryd.func67, Tryd.ntmps67
            go_wp2_with fail
            refine HD.mono ?_
            rintro e w1 ⟨rfl, hw1⟩
            rw [hw1]
            clear hw1 w1
            go_wp2_with fail
            refine HK.mono ?_
            rintro e w1 ⟨rfl, hw1⟩
            rw [hw1]
            clear hw1 w1
            go_wp2_with fail
            refine HM.mono ?_
            rintro e w1 ⟨rfl, hw1⟩
            rw [hw1]
            clear hw1 w1
            go_wp2_with fail
            refine HX5.mono ?_
            rintro e W1 ⟨rfl, -, h1⟩
            go_wp2_with fail
            go_end0
            rw [HE.out, if_neg (by rw [hD]; simp; omega), if_neg (fun q => P0.out q.2.2.1), if_neg (by rw [hM]; simp), if_neg (by omega), if_neg (by omega)]
            exact ⟨rfl, _, _, _, _, by rw [List.append_nil]; exact h1⟩
        · skip
          have hD : isDig x = false := by rw [← Bool.not_eq_true, HI.out.1]; omega
          have hM : isMid x = false := by rw [← Bool.not_eq_true, HI.out.2.1]; omega
          have hK : isMark x.toNat = true := by rw [HI.out.2.2]; omega
          rw [hD] at HD
          rw [hM] at HM
          rw [hK] at HK
          have y128 : ¬ (128 : Int) ≤ (x.toNat : Int) := by omega
          have y64 : ¬ (64 : Int) ≤ (x.toNat : Int) := by omega
          have bk0 : (s.mark == 0) = false := by rw [beq_eq_false_iff_ne]; exact k0
          clear h
          clear HI
          go_enter Tryd.func67, Tryd.ntmps67
          go_wp2_with fail
          refine HD.mono ?_
          rintro e w1 ⟨rfl, hw1⟩
          rw [hw1]
          clear hw1 w1
          go_wp2_with fail
          refine HK.mono ?_
          rintro e w1 ⟨rfl, hw1⟩
          rw [hw1]
          clear hw1 w1
          go_wp2_with fail
          refine HM.mono ?_
          rintro e w1 ⟨rfl, hw1⟩
          rw [hw1]
          clear hw1 w1
          go_wp2_with fail
          refine HX5.mono ?_
          rintro e W1 ⟨rfl, -, h1⟩
          go_wp2_with fail
          go_end0
          rw [HE.out, if_neg (by rw [hD]; simp; omega), if_neg (fun q => k0 q.2.1), if_neg (by rw [hM]; simp), if_neg (by omega), if_neg (by omega)]
          exact ⟨rfl, _, _, _, _, by rw [List.append_nil]; exact h1⟩
      · by_cases d4 : 32 ≤ x.toNat ∧ x.toNat ≤ 47
        · by_cases z2 : s.mid.size < 2
          · skip
            have hD : isDig x = false := by rw [← Bool.not_eq_true, HI.out.1]; omega
            have hM : isMid x = true := by rw [HI.out.2.1]; omega
            have hK : isMark x.toNat = false := by rw [← Bool.not_eq_true, HI.out.2.2]; omega
            rw [hD] at HD
            rw [hM] at HM
            rw [hK] at HK
            have z2i : (s.mid.size : Int) < 2 := by omega
            have hsz : ¬ 9223372036854775807 < s.mid.size + (one x).size := by show ¬ _ < s.mid.size + 1; omega
            have kd : Below W.heap.size W W.drew := (Below.refl _ _).drew
            have HH : Hid (Rd w0 R T s es W.drew N (.slice pa s.ps.length pc) tv eqs) := h.below kd
            clear h
            clear HI
            go_enter Tryd.func67, Tryd.ntmps67
            go_wp2_with fail
            refine HD.mono ?_
            rintro e w1 ⟨rfl, hw1⟩
            rw [hw1]
            clear hw1 w1
            go_wp2_with fail
            refine HK.mono ?_
            rintro e w1 ⟨rfl, hw1⟩
            rw [hw1]
            clear hw1 w1
            go_wp2_with fail
            refine HM.mono ?_
            rintro e w1 ⟨rfl, hw1⟩
            rw [hw1]
            clear hw1 w1
            go_wp2_with fail
            go_region_with (go_at_call 57; refine (asText_any x _).mono ?_; rintro e W1 ⟨rfl, b1⟩; obtain ⟨d0, d1, d2, d3, d4, d5, d6, d7, df⟩ := (HH.out.below b1).cells; have df2 := df 2)
            all_goals go_wp2_with fail
            all_goals go_end0
            all_goals rw [HE.out, if_neg (by rw [hD]; simp; omega), if_neg (by rw [hK]; simp), if_pos ⟨hM, z2⟩]
            all_goals exact ⟨rfl, _, _, _, _, by rw [List.append_nil]; exact (HH.out.below b1).mids (s.mid ++ one x)⟩
          · skip
            have hD : isDig x = false := by rw [← Bool.not_eq_true, HI.out.1]; omega
            have hM : isMid x = true := by rw [HI.out.2.1]; omega
            have hK : isMark x.toNat = false := by rw [← Bool.not_eq_true, HI.out.2.2]; omega
            rw [hD] at HD
            rw [hM] at HM
            rw [hK] at HK
            have z2i : ¬ (s.mid.size : Int) < 2 := by omega
            have y128 : ¬ (128 : Int) ≤ (x.toNat : Int) := by omega
            have y64 : ¬ (64 : Int) ≤ (x.toNat : Int) := by omega
            clear h
            clear HI
            go_enter Tryd.func67, Tryd.ntmps67
            go_wp2_with fail
            refine HD.mono ?_
            rintro e w1 ⟨rfl, hw1⟩
            rw [hw1]
            clear hw1 w1
            go_wp2_with fail
            refine HK.mono ?_
            rintro e w1 ⟨rfl, hw1⟩
            rw [hw1]
            clear hw1 w1
            go_wp2_with fail
            refine HM.mono ?_
            rintro e w1 ⟨rfl, hw1⟩
            rw [hw1]
            clear hw1 w1
            go_wp2_with fail
            refine HX5.mono ?_
            rintro e W1 ⟨rfl, -, h1⟩
            go_wp2_with fail
            go_end0
            rw [HE.out, if_neg (by rw [hD]; simp; omega), if_neg (by rw [hK]; simp), if_neg (fun q => z2 q.2), if_neg (by omega), if_neg (by omega)]
            exact ⟨rfl, _, _, _, _, by rw [List.append_nil]; exact h1⟩
        · by_cases d5 : 128 ≤ x.toNat
          · skip
            have hD : isDig x = false := by rw [← Bool.not_eq_true, HI.out.1]; omega
            have hM : isMid x = false := by rw [← Bool.not_eq_true, HI.out.2.1]; omega
            have hK : isMark x.toNat = false := by rw [← Bool.not_eq_true, HI.out.2.2]; omega
            rw [hD] at HD
            rw [hM] at HM
            rw [hK] at HK
            have y128 : (128 : Int) ≤ (x.toNat : Int) := by omega
            clear h
            clear HI
            go_enter Tryd.func67, Tryd.ntmps67
            go_wp2_with fail
            refine HD.mono ?_
            rintro e w1 ⟨rfl, hw1⟩
            rw [hw1]
            clear hw1 w1
            go_wp2_with fail
            refine HK.mono ?_
            rintro e w1 ⟨rfl, hw1⟩
            rw [hw1]
            clear hw1 w1
            go_wp2_with fail
            refine HM.mono ?_
            rintro e w1 ⟨rfl, hw1⟩
            rw [hw1]
            clear hw1 w1
            go_wp2_with fail
            refine HX0.mono ?_
            rintro e W1 ⟨rfl, -, h1⟩
            go_wp2_with fail
            go_end0
            rw [HE.out, if_neg (by rw [hD]; simp; omega), if_neg (by rw [hK]; simp), if_neg (by rw [hM]; simp), if_pos d5]
            exact ⟨rfl, _, _, _, _, by rw [List.append_nil]; exact h1⟩
          · have y128 : ¬ (128 : Int) ≤ (x.toNat : Int) := by omega
            by_cases d6 : 64 ≤ x.toNat
            · skip
              have hD : isDig x = false := by rw [← Bool.not_eq_true, HI.out.1]; omega
              have hM : isMid x = false := by rw [← Bool.not_eq_true, HI.out.2.1]; omega
              have hK : isMark x.toNat = false := by rw [← Bool.not_eq_true, HI.out.2.2]; omega
              rw [hD] at HD
              rw [hM] at HM
              rw [hK] at HK
              have y64 : (64 : Int) ≤ (x.toNat : Int) := by omega
              have kd : Below W.heap.size W W.drew := (Below.refl _ _).drew
              have HEN := end_any (h.below kd) ⟨4, 0, x.toNat, s.mark, s.mid, s.ps, nt⟩ (.slice pa s.ps.length pc) (row_mono (h.below kd).p h.n0) rfl hn
              have HEN2 : Hid (Calls Tryd.prog 79 #[.pointer (some ⟨R, 0, none⟩), .agg #[.int .i64 4, .int .i32 0, .int .u8 (x.toNat : Int), .int .u8 s.mark, .string s.mid, .slice pa s.ps.length pc, .string ⟨#[]⟩]] W.drew fun e W' => e = .returned (.tuple #[]) ∧ RdE w0 R T (bare 0) (es ++ [⟨4, 0, x.toNat, s.mark, s.mid, s.ps, nt⟩]) W') := HEN
              clear HEN
              clear h
              clear HI
              go_enter Tryd.func67, Tryd.ntmps67
              go_wp2_with fail
              refine HD.mono ?_
              rintro e w1 ⟨rfl, hw1⟩
              rw [hw1]
              clear hw1 w1
              go_wp2_with fail
              refine HK.mono ?_
              rintro e w1 ⟨rfl, hw1⟩
              rw [hw1]
              clear hw1 w1
              go_wp2_with fail
              refine HM.mono ?_
              rintro e w1 ⟨rfl, hw1⟩
              rw [hw1]
              clear hw1 w1
              go_wp2_with fail
              go_region_with (go_at_call 79; refine HEN2.out.mono ?_; rintro e W1 ⟨rfl, h1⟩)
              all_goals go_wp2_with fail
              all_goals go_end0
              all_goals rw [HE.out, if_neg (by rw [hD]; simp; omega), if_neg (by rw [hK]; simp), if_neg (by rw [hM]; simp), if_neg d5, if_pos d6]
              all_goals exact ⟨rfl, h1⟩
            · skip
              have hD : isDig x = false := by rw [← Bool.not_eq_true, HI.out.1]; omega
              have hM : isMid x = false := by rw [← Bool.not_eq_true, HI.out.2.1]; omega
              have hK : isMark x.toNat = false := by rw [← Bool.not_eq_true, HI.out.2.2]; omega
              rw [hD] at HD
              rw [hM] at HM
              rw [hK] at HK
              have y64 : ¬ (64 : Int) ≤ (x.toNat : Int) := by omega
              clear h
              clear HI
              go_enter Tryd.func67, Tryd.ntmps67
              go_wp2_with fail
              refine HD.mono ?_
              rintro e w1 ⟨rfl, hw1⟩
              rw [hw1]
              clear hw1 w1
              go_wp2_with fail
              refine HK.mono ?_
              rintro e w1 ⟨rfl, hw1⟩
              rw [hw1]
              clear hw1 w1
              go_wp2_with fail
              refine HM.mono ?_
              rintro e w1 ⟨rfl, hw1⟩
              rw [hw1]
              clear hw1 w1
              go_wp2_with fail
              refine HX5.mono ?_
              rintro e W1 ⟨rfl, -, h1⟩
              go_wp2_with fail
              go_end0
              rw [HE.out, if_neg (by rw [hD]; simp; omega), if_neg (by rw [hK]; simp), if_neg (by rw [hM]; simp), if_neg d5, if_neg d6]
              exact ⟨rfl, _, _, _, _, by rw [List.append_nil]; exact h1⟩
end Prs
end Go.Proofs.YtmgmdijhiplalaaDoor
