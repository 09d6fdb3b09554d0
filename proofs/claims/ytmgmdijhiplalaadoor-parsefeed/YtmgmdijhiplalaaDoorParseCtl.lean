/- Kinds of bytes; control; what a reader does behind ESC, and where it skips. -/
import Derived.Test.YtmgmdijhiplalaaDoorParseTell
import Derived.Laws.IdiomStrings
namespace Go.Proofs.YtmgmdijhiplalaaDoor
open Go.ChangeShapes Go.WideShapes Go.ChangeAt Go.RowKit
namespace Prs
theorem ret_bool {a b : Bool} (h : a = b) : Ending.returned (.bool a) = Ending.returned (.bool b) := by rw [h]
theorem isControl_any (x : UInt8) (w : World) : Calls Tryd.prog 39 #[.int .u8 (x.toNat : Int)] w fun e w' => e = .returned (.bool (isCtl x)) ∧ w' = w := by
  go_enter Tryd.func39, Tryd.ntmps39
  go_wp2
  all_goals (go_ret; exact ⟨ret_bool (by rw [Bool.eq_iff_iff]; simp [isCtl]; try omega), rfl⟩)
theorem isMiddle_any (x : UInt8) (w : World) : Calls Tryd.prog 52 #[.int .u8 (x.toNat : Int)] w fun e w' => e = .returned (.bool (isMid x)) ∧ w' = w := by
  go_enter Tryd.func52, Tryd.ntmps52
  go_wp2
  all_goals (go_ret; exact ⟨ret_bool (by rw [Bool.eq_iff_iff]; simp [isMid]; try omega), rfl⟩)
theorem isDigit_any (x : UInt8) (w : World) : Calls Tryd.prog 80 #[.int .u8 (x.toNat : Int)] w fun e w' => e = .returned (.bool (isDig x)) ∧ w' = w := by
  go_enter Tryd.func80, Tryd.ntmps80
  go_wp2
  all_goals (go_ret; exact ⟨ret_bool (by rw [Bool.eq_iff_iff]; simp [isDig]; try omega), rfl⟩)
theorem isMark_any (x : Int) (w : World) : Calls Tryd.prog 50 #[.int .u8 x] w fun e w' => e = .returned (.bool (isMark x)) ∧ w' = w := by
  go_enter Tryd.func50, Tryd.ntmps50
  go_wp2
  all_goals (go_ret; exact ⟨ret_bool (by rw [Bool.eq_iff_iff]; simp [isMark]; try omega), rfl⟩)
theorem und_bytes : Tryd.prog.underlying 52 = some (.slice 5) := by kernel_rfl
theorem und_byte : Tryd.prog.underlying 5 = some (.int .u8) := by kernel_rfl
theorem und_string : Tryd.prog.underlying 9 = some .string := by kernel_rfl
set_option maxRecDepth 100000 in
theorem asText_any (x : UInt8) (w : World) : Calls Tryd.prog 57 #[.int .u8 (x.toNat : Int)] w fun e w' => e = .returned (.string (one x)) ∧ Below w.heap.size w w' := by
  have hc : (convert 52 9 (.slice (some ⟨w.heap.size, 0, none⟩) 1 1)).run Tryd.prog (w.alloc (.cells #[.int .u8 (x.toNat : Int)] 5)) = .ok (.string (one x)) (w.alloc (.cells #[.int .u8 (x.toNat : Int)] 5)) :=
    run_convert_bytes_back (w.alloc (.cells #[.int .u8 (x.toNat : Int)] 5)) 52 9 5 ⟨w.heap.size, 0, none⟩ 1 [x] und_bytes und_byte und_string (fun j hj => by
      match j, hj with
      | 0, _ => exact (cell1 (heap_alloc_new w _)).1)
  have kb : Below w.heap.size w (w.alloc (.cells #[.int .u8 (x.toNat : Int)] 5)) := (Below.refl _ _).alloc (Nat.le_refl _) _
  go_enter Tryd.func57, Tryd.ntmps57
  go_wp2
  go_ret
  exact ⟨rfl, kb⟩
set_option maxHeartbeats 1000000 in
set_option maxRecDepth 100000 in
theorem inSkip_any (x : UInt8) {w0 : World} {R T : Nat} {s : St} {es : List Ev} {W : World} (h : RdE w0 R T s es W) :
    Calls Tryd.prog 69 #[.pointer (some ⟨R, 0, none⟩), .int .u8 (x.toNat : Int)] W fun e W' => e = .returned (.tuple #[]) ∧ RdE w0 R T (inSkip s x).1 (es ++ (inSkip s x).2) W' := by
  obtain ⟨N, pv, tv, eqs, h⟩ := h
  by_cases hx : 64 ≤ x.toNat
  · have e : inSkip s x = (bare 0, []) := if_pos hx
    simp only [e, List.append_nil]
    have hx' : (64 : Int) ≤ (x.toNat : Int) := by omega
    have HE := enter_any 0 h
    clear h e
    go_enter Tryd.func69, Tryd.ntmps69
    go_wp2_with fail
    refine HE.mono ?_
    rintro e W1 ⟨rfl, -, h1⟩
    go_wp2_with fail
    go_end0
    exact ⟨rfl, _, _, _, _, h1⟩
  · have e : inSkip s x = (s, []) := if_neg hx
    simp only [e, List.append_nil]
    have hx' : ¬ (64 : Int) ≤ (x.toNat : Int) := by omega
    have HH : Hid (Rd w0 R T s es W N pv tv eqs) := h
    clear h e
    go_enter Tryd.func69, Tryd.ntmps69
    go_wp2_with fail
    go_end0
    exact ⟨rfl, _, _, _, _, HH.out⟩
/-- One of the reader's texts is another. -/
theorem Rd.left {w0 : World} {R T : Nat} {s : St} {es : List Ev} {W : World} {N : Nat} {pv tv : Value} {eqs : List (Ev × Value)} (h : Rd w0 R T s es W N pv tv eqs) (l : ByteArray) : Rd w0 R T { s with left := l } es (W.setCell ⟨R, 5, none⟩ (.string l)) N pv tv eqs :=
  h.turn (h.low.setCell h.rb _) (heap_setCell_same W R 5 _ _ (.string l) h.r) (fun k _ hk => heap_setCell_other _ _ _ _ hk) (by simp) (.inl ⟨rfl, rfl⟩)
theorem Rd.mids {w0 : World} {R T : Nat} {s : St} {es : List Ev} {W : World} {N : Nat} {pv tv : Value} {eqs : List (Ev × Value)} (h : Rd w0 R T s es W N pv tv eqs) (l : ByteArray) : Rd w0 R T { s with mid := l } es (W.setCell ⟨R, 2, none⟩ (.string l)) N pv tv eqs :=
  h.turn (h.low.setCell h.rb _) (heap_setCell_same W R 2 _ _ (.string l) h.r) (fun k _ hk => heap_setCell_other _ _ _ _ hk) (by simp) (.inl ⟨rfl, rfl⟩)
theorem Rd.txts {w0 : World} {R T : Nat} {s : St} {es : List Ev} {W : World} {N : Nat} {pv tv : Value} {eqs : List (Ev × Value)} (h : Rd w0 R T s es W N pv tv eqs) (l : ByteArray) : Rd w0 R T { s with txt := l } es (W.setCell ⟨R, 4, none⟩ (.string l)) N pv tv eqs :=
  h.turn (h.low.setCell h.rb _) (heap_setCell_same W R 4 _ _ (.string l) h.r) (fun k _ hk => heap_setCell_other _ _ _ _ hk) (by simp) (.inl ⟨rfl, rfl⟩)
theorem Rd.lates {w0 : World} {R T : Nat} {s : St} {es : List Ev} {W : World} {N : Nat} {pv tv : Value} {eqs : List (Ev × Value)} (h : Rd w0 R T s es W N pv tv eqs) (b : Bool) : Rd w0 R T { s with late := b } es (W.setCell ⟨R, 6, none⟩ (.bool b)) N pv tv eqs :=
  h.turn (h.low.setCell h.rb _) (heap_setCell_same W R 6 _ _ (.bool b) h.r) (fun k _ hk => heap_setCell_other _ _ _ _ hk) (by simp) (.inl ⟨rfl, rfl⟩)
theorem Rd.marks {w0 : World} {R T : Nat} {s : St} {es : List Ev} {W : World} {N : Nat} {pv tv : Value} {eqs : List (Ev × Value)} (h : Rd w0 R T s es W N pv tv eqs) (b : Int) : Rd w0 R T { s with mark := b } es (W.setCell ⟨R, 1, none⟩ (.int .u8 b)) N pv tv eqs :=
  h.turn (h.low.setCell h.rb _) (heap_setCell_same W R 1 _ _ (.int .u8 b) h.r) (fun k _ hk => heap_setCell_other _ _ _ _ hk) (by simp) (.inl ⟨rfl, rfl⟩)
theorem Rd.cells {w0 : World} {R T : Nat} {s : St} {es : List Ev} {W : World} {N : Nat} {pv tv : Value} {eqs : List (Ev × Value)} (h : Rd w0 R T s es W N pv tv eqs) : W.cell? ⟨R, 0, none⟩ = some (.int .i64 s.at') ∧ W.cell? ⟨R, 1, none⟩ = some (.int .u8 s.mark) ∧ W.cell? ⟨R, 2, none⟩ = some (.string s.mid) ∧ W.cell? ⟨R, 3, none⟩ = some pv ∧ W.cell? ⟨R, 4, none⟩ = some (.string s.txt) ∧ W.cell? ⟨R, 5, none⟩ = some (.string s.left) ∧ W.cell? ⟨R, 6, none⟩ = some (.bool s.late) ∧ W.cell? ⟨R, 7, none⟩ = some (.func (.func 18) #[] #[.pointer (some ⟨T, 0, none⟩)]) ∧ ∀ i, W.frozen? ⟨R, i, none⟩ = false := cells8 h.r
theorem rep_snoc (k : Nat) (e : Ev) (es : List Ev) : es ++ List.replicate (k + 1) e = (es ++ List.replicate k e) ++ [e] := by rw [List.replicate_succ', List.append_assoc]
set_option maxHeartbeats 4000000 in
set_option maxRecDepth 100000 in
theorem control_any (x : UInt8) {w0 : World} {R T : Nat} {s : St} {es : List Ev} {W : World} (h : RdE w0 R T s es W) (hn : es.length + s.left.size ≤ 1000000) :
    Calls Tryd.prog 40 #[.pointer (some ⟨R, 0, none⟩), .int .u8 (x.toNat : Int)] W fun e W' => e = .returned (.tuple #[]) ∧ RdE w0 R T (control s x).1 (es ++ (control s x).2) W' := by
  obtain ⟨N, pv, tv, eqs, h⟩ := h
  obtain ⟨c0, c1, c2, c3, c4, c5, c6, c7, cf⟩ := h.cells
  have HH : Hid (Rd w0 R T s es W N pv tv eqs) := h
  obtain ⟨L, hL⟩ : ∃ L, s.left.size = L := ⟨_, rfl⟩
  rw [hL] at hn
  have HE : Hid (control s x = if x.toNat = 27 then (bare 1, List.replicate L (evP 65533)) else if x.toNat = 24 ∨ x.toNat = 26 then (bare 0, List.replicate L (evP 65533)) else if x.toNat = 127 then ({ s with left := nt }, List.replicate L (evP 65533)) else ({ s with left := nt }, List.replicate L (evP 65533) ++ [evC x.toNat])) := by rw [← hL]; rfl
  generalize control s x = res at HE ⊢
  clear h
  go_enter Tryd.func40, Tryd.ntmps40
  go_wp2_with fail
  go_loopg [10] L (fun q i wr => ∃ (k : Nat) (tv' : Value) (eqs' : List (Ev × Value)), i = .int .i64 (k : Int) ∧ k ≤ L ∧ L - k ≤ q ∧ Rd w0 R T s (es ++ List.replicate k (evP 65533)) wr N pv tv' eqs')
  case atStart => exact ⟨0, tv, eqs, rfl, by omega, by omega, by simpa using HH.out⟩
  case round =>
    obtain ⟨k, tv', eqs', rfl, hk, hq, hR⟩ := hrel
    clear c0 c1 c2 c3 c4 c5 c6 c7 cf
    by_cases hlt : k < L
    · have lt1 : ((k : Int) < (L : Int)) := by omega
      have HP := print_any 65533 hR (by simp; omega)
      clear hR
      go_wp2_with fail
      refine HP.mono ?_
      rintro e W1 ⟨rfl, tv2, eqs2, h1⟩
      go_wp2_with fail
      go_roundg (L - (k + 1))
      case measure => omega
      case rel => exact ⟨k + 1, tv2, eqs2, rfl, by omega, by omega, by rw [rep_snoc]; exact h1⟩
    · have lt1 : ¬ ((k : Int) < (L : Int)) := by omega
      have hkL : k = L := by omega
      subst hkL
      obtain ⟨c0, c1, c2, c3, c4, c5, c6, c7, cf⟩ := hR.cells
      have cf5 := cf 5
      have hR5 := hR.left nt
      have HR5 : Hid (Rd w0 R T { s with left := nt } (es ++ List.replicate k (evP 65533)) (wr.setCell ⟨R, 5, none⟩ (.string nt)) N pv tv' eqs') := hR5
      have HN : Hid ((es ++ List.replicate k (evP 65533)).length ≤ 1000000) := by unfold Hid; simp; omega
      obtain ⟨d0, d1, d2, d3, d4, d5, d6, d7, df⟩ := hR5.cells
      clear hR hR5 hlt
      unfold nt at d0 d1 d2 d3 d4 d5 d6 d7 df
      by_cases x27 : x.toNat = 27
      · have hx : (x.toNat : Int) = 27 := by omega
        have HX := enter_any 1 HR5.out
        unfold nt at HX
        go_wp2_with fail
        refine HX.mono ?_
        rintro e W1 ⟨rfl, -, h1⟩
        go_wp2_with fail
        go_end0
        rw [HE.out, if_pos x27]
        exact ⟨rfl, _, _, _, _, h1⟩
      · have y27 : ¬ (x.toNat : Int) = 27 := by omega
        by_cases x24 : x.toNat = 24
        · have hx : (x.toNat : Int) = 24 := by omega
          have HX := enter_any 0 HR5.out
          unfold nt at HX
          go_wp2_with fail
          refine HX.mono ?_
          rintro e W1 ⟨rfl, -, h1⟩
          go_wp2_with fail
          go_end0
          rw [HE.out, if_neg x27, if_pos (.inl x24)]
          exact ⟨rfl, _, _, _, _, h1⟩
        · have y24 : ¬ (x.toNat : Int) = 24 := by omega
          by_cases x26 : x.toNat = 26
          · have hx : (x.toNat : Int) = 26 := by omega
            have HX := enter_any 0 HR5.out
            unfold nt at HX
            go_wp2_with fail
            refine HX.mono ?_
            rintro e W1 ⟨rfl, -, h1⟩
            go_wp2_with fail
            go_end0
            rw [HE.out, if_neg x27, if_pos (.inr x26)]
            exact ⟨rfl, _, _, _, _, h1⟩
          · have y26 : ¬ (x.toNat : Int) = 26 := by omega
            by_cases x127 : x.toNat = 127
            · have hx : (x.toNat : Int) = 127 := by omega
              go_wp2_with fail
              go_end0
              rw [HE.out, if_neg x27, if_neg (by omega), if_pos x127]
              exact ⟨rfl, _, _, _, _, HR5.out⟩
            · have y127 : ¬ (x.toNat : Int) = 127 := by omega
              have hx8 := x.toNat_lt
              have hw : wrap32 (x.toNat : Int) = (x.toNat : Int) := by first | (unfold wrap32; omega) | (simp only [wrap32]; omega)
              have HX := tell_any HR5.out (evC x.toNat) (.slice none 0 0) (psNil _ _ _) rfl HN.out
              unfold nt at HX
              go_wp2_with fail
              refine HX.mono ?_
              rintro e W1 ⟨rfl, tv2, h1⟩
              go_wp2_with fail
              go_end0
              rw [HE.out, if_neg x27, if_neg (by omega), if_neg x127]
              exact ⟨rfl, _, _, _, _, by rw [← List.append_assoc]; exact h1⟩
end Prs
end Go.Proofs.YtmgmdijhiplalaaDoor
