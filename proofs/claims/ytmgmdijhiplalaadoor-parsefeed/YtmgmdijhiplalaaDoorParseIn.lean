/- What a reader does behind ESC, with bytes in the middle, and in a text. -/
import Derived.Test.YtmgmdijhiplalaaDoorParseCtl
namespace Go.Proofs.YtmgmdijhiplalaaDoor
open Go.ChangeShapes Go.WideShapes Go.ChangeAt Go.RowKit
namespace Prs
set_option maxHeartbeats 4000000 in
set_option maxRecDepth 100000 in
theorem inEscape_any (x : UInt8) {w0 : World} {R T : Nat} {s : St} {es : List Ev} {W : World} (h : RdE w0 R T s es W) (hn : es.length ≤ 1000000) :
    Calls Tryd.prog 65 #[.pointer (some ⟨R, 0, none⟩), .int .u8 (x.toNat : Int)] W fun e W' => e = .returned (.tuple #[]) ∧ RdE w0 R T (inEscape x).1 (es ++ (inEscape x).2) W' := by
  obtain ⟨N, pv, tv, eqs, h⟩ := h
  have HE : Hid (inEscape x = if x.toNat = 91 then (bare 3, []) else if x.toNat = 93 then (bare 4, []) else if isMid x then ({ bare 2 with mid := one x }, []) else if x.toNat < 128 then (bare 0, [⟨3, 0, x.toNat, 0, nt, [], nt⟩]) else (bare 0, [])) := rfl
  generalize inEscape x = res at HE ⊢
  by_cases x91 : x.toNat = 91
  · have hx : (x.toNat : Int) = 91 := by omega
    have HX := enter_any 3 h
    clear h
    go_enter Tryd.func65, Tryd.ntmps65
    go_wp2_with fail
    refine HX.mono ?_
    rintro e W1 ⟨rfl, -, h1⟩
    go_wp2_with fail
    go_end0
    rw [HE.out, if_pos x91]
    exact ⟨rfl, _, _, _, _, by rw [List.append_nil]; exact h1⟩
  · have y91 : ¬ (x.toNat : Int) = 91 := by omega
    by_cases x93 : x.toNat = 93
    · have hx : (x.toNat : Int) = 93 := by omega
      have HX := enter_any 4 h
      clear h
      go_enter Tryd.func65, Tryd.ntmps65
      go_wp2_with fail
      refine HX.mono ?_
      rintro e W1 ⟨rfl, -, h1⟩
      go_wp2_with fail
      go_end0
      rw [HE.out, if_neg x91, if_pos x93]
      exact ⟨rfl, _, _, _, _, by rw [List.append_nil]; exact h1⟩
    · have y93 : ¬ (x.toNat : Int) = 93 := by omega
      have HM := isMiddle_any x W
      cases hm : isMid x with
      | true =>
        rw [hm] at HM
        have HX := enter_any 2 h
        clear h
        go_enter Tryd.func65, Tryd.ntmps65
        go_wp2_with fail
        refine HM.mono ?_
        rintro e _ ⟨rfl, rfl⟩
        go_wp2_with fail
        refine HX.mono ?_
        rintro e W1 ⟨rfl, -, h1⟩
        go_wp2_with fail
        refine (asText_any x W1).mono ?_
        rintro e W2 ⟨rfl, b2⟩
        have h2 := h1.below b2
        obtain ⟨c0, c1, c2, c3, c4, c5, c6, c7, cf⟩ := h2.cells
        have cf2 := cf 2
        have HF := h2.mids (one x)
        clear h1 h2
        go_wp2_with fail
        go_end0
        rw [HE.out, if_neg x91, if_neg x93, if_pos hm]
        exact ⟨rfl, _, _, _, _, by rw [List.append_nil]; exact HF⟩
      | false =>
        rw [hm] at HM
        by_cases x128 : x.toNat < 128
        · have hx : (x.toNat : Int) < 128 := by omega
          have HX := end_any h ⟨3, 0, x.toNat, 0, nt, [], nt⟩ (.slice none 0 0) (World.ownsRow_nil _ _ _ _) rfl hn
          clear h
          go_enter Tryd.func65, Tryd.ntmps65
          go_wp2_with fail
          refine HM.mono ?_
          rintro e _ ⟨rfl, rfl⟩
          go_wp2_with fail
          refine HX.mono ?_
          rintro e W1 ⟨rfl, h1⟩
          go_wp2_with fail
          go_end0
          rw [HE.out, if_neg x91, if_neg x93, if_neg (by rw [hm]; decide), if_pos x128]
          exact ⟨rfl, h1⟩
        · have hx : ¬ (x.toNat : Int) < 128 := by omega
          have HX := enter_any 0 h
          clear h
          go_enter Tryd.func65, Tryd.ntmps65
          go_wp2_with fail
          refine HM.mono ?_
          rintro e _ ⟨rfl, rfl⟩
          go_wp2_with fail
          refine HX.mono ?_
          rintro e W1 ⟨rfl, -, h1⟩
          go_wp2_with fail
          go_end0
          rw [HE.out, if_neg x91, if_neg x93, if_neg (by rw [hm]; decide), if_neg x128]
          exact ⟨rfl, _, _, _, _, by rw [List.append_nil]; exact h1⟩
set_option maxHeartbeats 4000000 in
set_option maxRecDepth 100000 in
theorem inMiddle_any (x : UInt8) {w0 : World} {R T : Nat} {s : St} {es : List Ev} {W : World} (h : RdE w0 R T s es W) (hn : es.length ≤ 1000000) :
    Calls Tryd.prog 66 #[.pointer (some ⟨R, 0, none⟩), .int .u8 (x.toNat : Int)] W fun e W' => e = .returned (.tuple #[]) ∧ RdE w0 R T (inMiddle s x).1 (es ++ (inMiddle s x).2) W' := by
  obtain ⟨N, pv, tv, eqs, h⟩ := h
  have HE : Hid (inMiddle s x = if isMid x = true ∧ s.mid.size < 2 then ({ s with mid := s.mid ++ one x }, []) else if isMid x = false ∧ x.toNat < 128 then (bare 0, [⟨3, 0, x.toNat, 0, s.mid, [], nt⟩]) else (bare 0, [])) := rfl
  generalize inMiddle s x = res at HE ⊢
  obtain ⟨c0, c1, c2, c3, c4, c5, c6, c7, cf⟩ := h.cells
  have HM := isMiddle_any x W
  cases hm : isMid x with
  | true =>
    rw [hm] at HM
    by_cases h2 : s.mid.size < 2
    · have h2' : (s.mid.size : Int) < 2 := by omega
      have hsz : ¬ 9223372036854775807 < s.mid.size + (one x).size := by show ¬ _ < s.mid.size + 1; omega
      have kd : Below W.heap.size W W.drew := (Below.refl _ _).drew
      have HH : Hid (Rd w0 R T s es W.drew N pv tv eqs) := h.below kd
      clear h
      go_enter Tryd.func66, Tryd.ntmps66
      go_wp2_with fail
      refine HM.mono ?_
      rintro e _ ⟨rfl, rfl⟩
      go_wp2_with fail
      go_region_with (go_at_call 57; refine (asText_any x _).mono ?_; rintro e W1 ⟨rfl, b1⟩; obtain ⟨d0, d1, d2, d3, d4, d5, d6, d7, df⟩ := (HH.out.below b1).cells; have df2 := df 2)
      all_goals go_wp2_with fail
      all_goals go_end0
      all_goals rw [HE.out, if_pos ⟨hm, h2⟩]
      all_goals exact ⟨rfl, _, _, _, _, by rw [List.append_nil]; exact (HH.out.below b1).mids (s.mid ++ one x)⟩
    · have h2' : ¬ (s.mid.size : Int) < 2 := by omega
      have HX := enter_any 0 h
      clear h
      go_enter Tryd.func66, Tryd.ntmps66
      go_wp2_with fail
      refine HM.mono ?_
      rintro e _ ⟨rfl, rfl⟩
      go_wp2_with fail
      refine HM.mono ?_
      rintro e _ ⟨rfl, rfl⟩
      go_wp2_with fail
      refine HX.mono ?_
      rintro e W1 ⟨rfl, -, h1⟩
      go_wp2_with fail
      go_end0
      rw [HE.out, if_neg (by omega), if_neg (by rw [hm]; simp)]
      exact ⟨rfl, _, _, _, _, by rw [List.append_nil]; exact h1⟩
  | false =>
    rw [hm] at HM
    by_cases x128 : x.toNat < 128
    · have hx : (x.toNat : Int) < 128 := by omega
      have HX := end_any h ⟨3, 0, x.toNat, 0, s.mid, [], nt⟩ (.slice none 0 0) (World.ownsRow_nil _ _ _ _) rfl hn
      clear h
      go_enter Tryd.func66, Tryd.ntmps66
      go_wp2_with fail
      refine HM.mono ?_
      rintro e _ ⟨rfl, rfl⟩
      go_wp2_with fail
      refine HM.mono ?_
      rintro e _ ⟨rfl, rfl⟩
      go_wp2_with fail
      refine HX.mono ?_
      rintro e W1 ⟨rfl, h1⟩
      go_wp2_with fail
      go_end0
      rw [HE.out, if_neg (by rw [hm]; simp), if_pos ⟨hm, x128⟩]
      exact ⟨rfl, h1⟩
    · have hx : ¬ (x.toNat : Int) < 128 := by omega
      have HX := enter_any 0 h
      clear h
      go_enter Tryd.func66, Tryd.ntmps66
      go_wp2_with fail
      refine HM.mono ?_
      rintro e _ ⟨rfl, rfl⟩
      go_wp2_with fail
      refine HM.mono ?_
      rintro e _ ⟨rfl, rfl⟩
      go_wp2_with fail
      refine HX.mono ?_
      rintro e W1 ⟨rfl, -, h1⟩
      go_wp2_with fail
      go_end0
      rw [HE.out, if_neg (by rw [hm]; simp), if_neg (by omega)]
      exact ⟨rfl, _, _, _, _, by rw [List.append_nil]; exact h1⟩
set_option maxHeartbeats 4000000 in
set_option maxRecDepth 100000 in
theorem inSystem_any (x : UInt8) {w0 : World} {R T : Nat} {s : St} {es : List Ev} {W : World} (h : RdE w0 R T s es W) (hn : es.length ≤ 1000000) :
    Calls Tryd.prog 68 #[.pointer (some ⟨R, 0, none⟩), .int .u8 (x.toNat : Int)] W fun e W' => e = .returned (.tuple #[]) ∧ RdE w0 R T (inSystem s x).1 (es ++ (inSystem s x).2) W' := by
  obtain ⟨N, pv, tv, eqs, h⟩ := h
  have HE : Hid (inSystem s x = if s.late = true ∨ x.toNat = 7 then (bare 0, [⟨5, 0, 0, 0, nt, [], s.txt⟩]) else if x.toNat = 27 then ({ s with late := true }, []) else if x.toNat = 24 ∨ x.toNat = 26 then (bare 0, []) else if 32 ≤ x.toNat ∧ s.txt.size < 64 then ({ s with txt := s.txt ++ one x }, []) else (s, [])) := rfl
  generalize inSystem s x = res at HE ⊢
  obtain ⟨c0, c1, c2, c3, c4, c5, c6, c7, cf⟩ := h.cells
  have cf6 := cf 6
  by_cases hl : s.late = true
  · have HX := end_any h ⟨5, 0, 0, 0, nt, [], s.txt⟩ (.slice none 0 0) (World.ownsRow_nil _ _ _ _) rfl hn
    clear h
    go_enter Tryd.func68, Tryd.ntmps68
    go_wp2_with fail
    refine HX.mono ?_
    rintro e W1 ⟨rfl, h1⟩
    go_wp2_with fail
    go_end0
    rw [HE.out, if_pos (.inl hl)]
    exact ⟨rfl, h1⟩
  · have hl' : s.late = false := by simpa using hl
    by_cases x7 : x.toNat = 7
    · have hx : (x.toNat : Int) = 7 := by omega
      have HX := end_any h ⟨5, 0, 0, 0, nt, [], s.txt⟩ (.slice none 0 0) (World.ownsRow_nil _ _ _ _) rfl hn
      clear h hl
      go_enter Tryd.func68, Tryd.ntmps68
      go_wp2_with fail
      refine HX.mono ?_
      rintro e W1 ⟨rfl, h1⟩
      go_wp2_with fail
      go_end0
      rw [HE.out, if_pos (.inr x7)]
      exact ⟨rfl, h1⟩
    · have y7 : ¬ (x.toNat : Int) = 7 := by omega
      have HE2 : Hid (res = if x.toNat = 27 then ({ s with late := true }, []) else if x.toNat = 24 ∨ x.toNat = 26 then (bare 0, []) else if 32 ≤ x.toNat ∧ s.txt.size < 64 then ({ s with txt := s.txt ++ one x }, []) else (s, [])) := by
        unfold Hid
        rw [HE.out, if_neg]
        rintro (h | h)
        · exact hl h
        · exact x7 h
      clear HE hl
      by_cases x27 : x.toNat = 27
      · have hx : (x.toNat : Int) = 27 := by omega
        have HF : Hid (Rd w0 R T { s with late := true } es (W.setCell ⟨R, 6, none⟩ (.bool true)) N pv tv eqs) := h.lates true
        clear h
        go_enter Tryd.func68, Tryd.ntmps68
        go_wp2_with fail
        go_end0
        rw [HE2.out, if_pos x27]
        exact ⟨rfl, _, _, _, _, by rw [List.append_nil]; exact HF.out⟩
      · have y27 : ¬ (x.toNat : Int) = 27 := by omega
        by_cases x24 : x.toNat = 24 ∨ x.toNat = 26
        · have HX := enter_any 0 h
          clear h
          rcases x24 with x24 | x24
          · have hx : (x.toNat : Int) = 24 := by omega
            go_enter Tryd.func68, Tryd.ntmps68
            go_wp2_with fail
            refine HX.mono ?_
            rintro e W1 ⟨rfl, -, h1⟩
            go_wp2_with fail
            go_end0
            rw [HE2.out, if_neg x27, if_pos (.inl x24)]
            exact ⟨rfl, _, _, _, _, by rw [List.append_nil]; exact h1⟩
          · have hx : (x.toNat : Int) = 26 := by omega
            go_enter Tryd.func68, Tryd.ntmps68
            go_wp2_with fail
            refine HX.mono ?_
            rintro e W1 ⟨rfl, -, h1⟩
            go_wp2_with fail
            go_end0
            rw [HE2.out, if_neg x27, if_pos (.inr x24)]
            exact ⟨rfl, _, _, _, _, by rw [List.append_nil]; exact h1⟩
        · have y24 : ¬ (x.toNat : Int) = 24 := by omega
          have y26 : ¬ (x.toNat : Int) = 26 := by omega
          have b24 : ((x.toNat : Int) == 24) = false := by rw [beq_eq_false_iff_ne]; exact y24
          have b26 : ((x.toNat : Int) == 26) = false := by rw [beq_eq_false_iff_ne]; exact y26
          by_cases x32 : 32 ≤ x.toNat
          · have hx : (32 : Int) ≤ (x.toNat : Int) := by omega
            by_cases h2 : s.txt.size < 64
            · have h2' : (s.txt.size : Int) < 64 := by omega
              have hsz : ¬ 9223372036854775807 < s.txt.size + (one x).size := by show ¬ _ < s.txt.size + 1; omega
              have kd : Below W.heap.size W W.drew := (Below.refl _ _).drew
              have HH : Hid (Rd w0 R T s es W.drew N pv tv eqs) := h.below kd
              clear h
              go_enter Tryd.func68, Tryd.ntmps68
              go_wp2_with fail
              go_region_with (go_at_call 57; refine (asText_any x _).mono ?_; rintro e W1 ⟨rfl, b1⟩; obtain ⟨d0, d1, d2, d3, d4, d5, d6, d7, df⟩ := (HH.out.below b1).cells; have df2 := df 4)
              all_goals go_wp2_with fail
              all_goals go_end0
              all_goals rw [HE2.out, if_neg x27, if_neg x24, if_pos ⟨x32, h2⟩]
              all_goals exact ⟨rfl, _, _, _, _, by rw [List.append_nil]; exact (HH.out.below b1).txts (s.txt ++ one x)⟩
            · have h2' : ¬ (s.txt.size : Int) < 64 := by omega
              have HF : Hid (Rd w0 R T s es W N pv tv eqs) := h
              clear h
              go_enter Tryd.func68, Tryd.ntmps68
              go_wp2_with fail
              go_end0
              rw [HE2.out, if_neg x27, if_neg x24, if_neg (by omega)]
              exact ⟨rfl, _, _, _, _, by rw [List.append_nil]; exact HF.out⟩
          · have hx : ¬ (32 : Int) ≤ (x.toNat : Int) := by omega
            have HF : Hid (Rd w0 R T s es W N pv tv eqs) := h
            clear h
            go_enter Tryd.func68, Tryd.ntmps68
            go_wp2_with fail
            go_end0
            rw [HE2.out, if_neg x27, if_neg x24, if_neg (by omega)]
            exact ⟨rfl, _, _, _, _, by rw [List.append_nil]; exact HF.out⟩
end Prs
end Go.Proofs.YtmgmdijhiplalaaDoor
