/- A reader in its ground. -/
import Derived.Test.YtmgmdijhiplalaaDoorParseFull
import Derived.Test.YtmgmdijhiplalaaDoorShelf
namespace Go.Proofs.YtmgmdijhiplalaaDoor
open Go.ChangeShapes Go.WideShapes Go.ChangeAt Go.RowKit
namespace Prs
def Tabs (w : World) : Prop := Lib.Utf8Tabs 0 1 w
theorem cell_stay {w w' : World} {p i : Nat} {v : Value} (hb : Below w.heap.size w w') (h : w.cell? ⟨p, i, none⟩ = some v) : w'.cell? ⟨p, i, none⟩ = some v := by
  have := World.block_lt_of_cell? w _ h
  unfold World.cell? at h ⊢
  rw [hb.block p this]
  exact h
theorem Tabs.next {w w' : World} (h : Tabs w) (hb : Below w.heap.size w w') : Tabs w' :=
  ⟨fun c hc => cell_stay hb (h.1 c hc), fun i hi => ⟨cell_stay hb (h.2 i hi).1, cell_stay hb (h.2 i hi).2⟩⟩
theorem empty_iff (s : ByteArray) : (s.toList == []) = decide (s.size = 0) := by
  rw [ByteArray.toList_eq]
  have : s.size = s.data.toList.length := (Array.length_toList (xs := s.data)).symm
  rw [this]
  cases s.data.toList with
  | nil => rfl
  | cons a l => simp
set_option maxHeartbeats 1000000 in
set_option maxRecDepth 100000 in
theorem next_any (s : ByteArray) (w : World) (hT : Tabs w) (h0 : s.size ≠ 0) :
    Calls Tryd.prog 78 #[.string s] w fun e w' => e = .returned (.tuple #[.int .i32 (Lib.decodeGo s).1, .int .i64 (Lib.decodeGo s).2]) ∧ Below w.heap.size w w' := by
  have he : (s.toList == []) = false := by rw [empty_iff, decide_eq_false_iff_not]; exact h0
  have HD := Tryd.utf8_DecodeRuneInString s w hT
  go_enter Tryd.func78, Tryd.ntmps78
  go_wp2_with fail
  refine HD.mono ?_
  rintro e W1 ⟨rfl, b1⟩
  go_wp2_with fail
  go_ret2
  exact ⟨rfl, b1⟩
theorem decN_pos (n b0 b1 b2 b3 : Nat) : 1 ≤ (Lib.decodeN n b0 b1 b2 b3).2 := by
  unfold Lib.decodeN
  repeat' split
  all_goals simp
theorem decN_le (n b0 b1 b2 b3 : Nat) (hn : 1 ≤ n) : (Lib.decodeN n b0 b1 b2 b3).2 ≤ n := by
  unfold Lib.decodeN
  repeat' split
  all_goals simp
  all_goals omega
theorem dec_pos (s : ByteArray) (h : s.size ≠ 0) : 1 ≤ (Lib.decodeGo s).2 ∧ (Lib.decodeGo s).2 ≤ s.size := by
  have e : Lib.decodeGo s = Utf8.decode s 0 := if_neg h
  rw [e, Lib.decode_at]
  exact ⟨decN_pos _ _ _ _ _, decN_le _ _ _ _ _ (by omega)⟩
theorem drain_stop (q : Nat) (D : ByteArray) (h : full D = false) : drain q D = ([], D) := by
  cases q with
  | zero => rfl
  | succ q => unfold drain; rw [h]; rfl
theorem drain_go (q : Nat) (D : ByteArray) (h : full D = true) : drain (q + 1) D = ((evP (Lib.decodeGo D).1) :: (drain q (D.extract (Lib.decodeGo D).2 D.size)).1, (drain q (D.extract (Lib.decodeGo D).2 D.size)).2) := by
  rw [drain, if_pos h]
theorem full_pos {s : ByteArray} (h : full s = true) : s.size ≠ 0 := by
  intro e
  unfold full at h
  rw [if_pos e] at h
  exact absurd h (by decide)
set_option maxHeartbeats 4000000 in
set_option maxRecDepth 100000 in
theorem inGround_any (x : UInt8) {w0 : World} {R T : Nat} {s : St} {es : List Ev} {W : World} (hT : Tabs w0) (h : RdE w0 R T s es W) (hn : es.length + s.left.size ≤ 1000000) :
    Calls Tryd.prog 64 #[.pointer (some ⟨R, 0, none⟩), .int .u8 (x.toNat : Int)] W fun e W' => e = .returned (.tuple #[]) ∧ RdE w0 R T (inGround s x).1 (es ++ (inGround s x).2) W' := by
  obtain ⟨N, pv, tv, eqs, h⟩ := h
  obtain ⟨c0, c1, c2, c3, c4, c5, c6, c7, cf⟩ := h.cells
  have HT : Hid (∀ W, Below w0.heap.size w0 W → Tabs W) := fun W k => hT.next k
  have hsz : ¬ 9223372036854775807 < s.left.size + (one x).size := by show ¬ _ < s.left.size + 1; omega
  have kd : Below W.heap.size W W.drew := (Below.refl _ _).drew
  have HH : Hid (Rd w0 R T s es W.drew N pv tv eqs) := h.below kd
  obtain ⟨D, hD⟩ : ∃ D, s.left ++ one x = D := ⟨_, rfl⟩
  have hDs : D.size = s.left.size + 1 := by rw [← hD, ByteArray.size_append]; rfl
  have HE : Hid (inGround s x = ({ s with left := (drain D.size D).2 }, (drain D.size D).1)) := by rw [← hD]; rfl
  generalize inGround s x = res at HE ⊢
  clear h hT
  go_enter Tryd.func64, Tryd.ntmps64
  go_wp2_with fail
  go_cut [4] from 6 to 16 (fun _ wx => Rd w0 R T { s with left := D } es wx N pv tv eqs)
  case first =>
    go_region_with (go_at_call 57; refine (asText_any x _).mono ?_; rintro e W1 ⟨rfl, b1⟩; obtain ⟨d0, d1, d2, d3, d4, d5, d6, d7, df⟩ := (HH.out.below b1).cells; have df5 := df 5)
    all_goals go_wp2_with fail
    all_goals go_meet
    all_goals (rw [← hD]; exact (HH.out.below b1).left (s.left ++ one x))
  case rest =>
    clear c0 c1 c2 c3 c4 c5 c6 c7 cf kd HH
    have HC : Hid (Rd w0 R T { s with left := D } es wc N pv tv eqs) := hcut
    clear hcut
    go_wp2_with fail
    go_loopg [4] D.size (fun q _ wr => ∃ (D' : ByteArray) (pre : List Ev) (tv' : Value) (eqs' : List (Ev × Value)), D'.size ≤ q ∧ drain D.size D = (pre ++ (drain q D').1, (drain q D').2) ∧ pre.length + D'.size ≤ D.size ∧ Rd w0 R T { s with left := D' } (es ++ pre) wr N pv tv' eqs')
    case atStart => exact ⟨D, [], tv, eqs, Nat.le_refl _, rfl, by simp, by rw [List.append_nil]; exact HC.out⟩
    case round =>
      obtain ⟨D', pre, tv', eqs', hq, hdr, hpl, hR⟩ := hrel
      obtain ⟨c0, c1, c2, c3, c4, c5, c6, c7, cf⟩ := hR.cells
      have HFR := fullRune_any D' wr (HT.out _ hR.low)
      have HD : Hid (drain D.size D = (pre ++ (drain gk D').1, (drain gk D').2)) := hdr
      have HRR : Hid (Rd w0 R T { s with left := D' } (es ++ pre) wr N pv tv' eqs') := hR
      clear hR hdr
      cases hf : full D' with
      | true =>
        rw [hf] at HFR
        have hz := full_pos hf
        have ⟨p1, p2⟩ := dec_pos D' hz
        go_wp2_with fail
        refine HFR.mono ?_
        rintro e W1 ⟨rfl, b1⟩
        have hR1 := HRR.out.below b1
        have HN := next_any D' W1 (HT.out _ hR1.low) hz
        obtain ⟨d0, d1, d2, d3, d4, d5, d6, d7, df⟩ := hR1.cells
        clear c0 c1 c2 c3 c4 c5 c6 c7 cf
        have HR1 : Hid (Rd w0 R T { s with left := D' } (es ++ pre) W1 N pv tv' eqs') := hR1
        clear hR1
        go_wp2_with fail
        refine HN.mono ?_
        rintro e W2 ⟨rfl, b2⟩
        have HP := print_any (Lib.decodeGo D').1 (HR1.out.below b2) (by rw [List.length_append]; omega)
        clear d0 d1 d2 d3 d4 d5 d6 d7 df
        go_wp2_with fail
        refine HP.mono ?_
        rintro e W3 ⟨rfl, tv3, eqs3, hR3⟩
        obtain ⟨f0, f1, f2, f3, f4, f5, f6, f7, ff⟩ := hR3.cells
        have ff5 := ff 5
        have g1 : (0 : Int) ≤ ((Lib.decodeGo D').2 : Int) := by omega
        have g2 : ((Lib.decodeGo D').2 : Int) ≤ (D'.size : Int) := by omega
        have HR3 : Hid (Rd w0 R T { s with left := D' } (es ++ pre ++ [evP (Lib.decodeGo D').1]) W3 N pv tv3 eqs3) := hR3
        clear hR3
        go_wp2_with fail
        go_roundg (gk - 1)
        case measure => omega
        case rel =>
          have e1 := HD.out
          rw [show gk = (gk - 1) + 1 by omega, drain_go _ _ hf] at e1
          have hsz2 : (D'.extract (Lib.decodeGo D').2 D'.size).size = D'.size - (Lib.decodeGo D').2 := by rw [ByteArray.size_extract]; omega
          refine ⟨D'.extract (Lib.decodeGo D').2 D'.size, pre ++ [evP (Lib.decodeGo D').1], tv3, eqs3, by rw [hsz2]; omega, ?_, by rw [hsz2, List.length_append, List.length_singleton]; omega, ?_⟩
          · rw [e1, List.append_assoc]
            rfl
          · rw [← List.append_assoc]
            exact HR3.out.left (D'.extract (Lib.decodeGo D').2 D'.size)
      | false =>
        rw [hf] at HFR
        go_wp2_with fail
        refine HFR.mono ?_
        rintro e W1 ⟨rfl, b1⟩
        go_wp2_with fail
        go_end0
        rw [HE.out]
        have e1 := HD.out
        rw [drain_stop _ _ hf, List.append_nil] at e1
        rw [e1]
        exact ⟨rfl, _, _, _, _, HRR.out.below b1⟩
end Prs
end Go.Proofs.YtmgmdijhiplalaaDoor
