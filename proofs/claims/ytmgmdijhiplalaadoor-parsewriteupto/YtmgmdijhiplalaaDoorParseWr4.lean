/- Write. -/
import Derived.Test.YtmgmdijhiplalaaDoorParseWr3
namespace Go.Proofs.YtmgmdijhiplalaaDoor
open Go.ChangeShapes Go.WideShapes Go.ChangeAt Go.RowKit
namespace Prs
/-- Events written behind what is written: the bytes and an error's number. -/
def run : List Ev → List UInt8 → List UInt8 × Int
  | [], acc => (acc, 0)
  | e :: es, acc => if tellB (bs (evB e)) e = false then ([], 5) else if 4000 < acc.length + (evB e).length then ([], 2) else run es (acc ++ evB e)
theorem tell_len {l : List UInt8} {e : Ev} (h : tellB (bs l) e = true) : l.length ≤ 4000 := by
  unfold tellB at h
  rw [Bool.and_eq_true, decide_eq_true_eq, bs_size] at h
  exact h.1
theorem drop_ev (es : List Ev) (k : Nat) (h : k < es.length) : es.drop k = es[k] :: es.drop (k + 1) := List.drop_eq_getElem_cons h
set_option maxHeartbeats 8000000 in
set_option maxRecDepth 100000 in
theorem write_any (es : List Ev) (v : Value) (w : World) (hT : Tabs w) (hP : P10 w) (hE : EvsR w v es) (hf : ∀ e, e ∈ es → Fine e) (hn : es.length ≤ 1048576) :
    Calls Tryd.prog 14 #[v] w fun r w' => r = .returned (.tuple #[.string (bs (run es []).1), .int .i64 (run es []).2]) ∧ Below w.heap.size w w' := by
  obtain ⟨pa, pc, hpv⟩ := hE.slice
  have HE : Hid (EvsR w v es) := hE
  have HT : Hid (Tabs w) := hT
  have HP : Hid (P10 w) := hP
  have HF : Hid (∀ e, e ∈ es → Fine e) := hf
  obtain ⟨R, hR⟩ : ∃ R, run es [] = R := ⟨_, rfl⟩
  rw [hR]
  have HR : Hid (run es [] = R) := hR
  subst hpv
  clear hE hT hP hf hR
  go_enter Tryd.func14, Tryd.ntmps14
  go_wp2_with fail
  go_loopg [10] es.length (fun g i wr => ∃ (k : Nat) (acc : List UInt8), k ≤ es.length ∧ es.length - k ≤ g ∧ i = .int .i64 k ∧ Lib.IsBuilderF 61 5 w.heap.size w.heap.size (Lib.byteCells acc) wr ∧ Below w.heap.size w wr ∧ w.heap.size + 1 ≤ wr.heap.size ∧ run (es.drop k) acc = R ∧ acc.length ≤ 4000)
  case atStart => exact ⟨0, [], by omega, by omega, rfl, Lib.IsBuilderF.of (Lib.fresh_isBuilder 61 5 w), (Below.refl _ w).alloc (Nat.le_refl _) _, by simp, HR.out, by simp⟩
  case round =>
    obtain ⟨k, acc, hk, hg, rfl, hI, hb, hsz, hacc, hal⟩ := hrel
    have HC : Hid (run (es.drop k) acc = R) := hacc
    have HBI : Hid (Lib.IsBuilderF 61 5 w.heap.size w.heap.size (Lib.byteCells acc) wr) := hI
    have HB : Hid (Below w.heap.size w wr) := hb
    clear hacc hI hb
    by_cases hlt : k < es.length
    · have lt1 : ((k : Int) < (es.length : Int)) := by omega
      rcases HE.out with ⟨he, -⟩ | ⟨b, o, c, hvv, hc⟩
      · rw [he] at hlt
        exact absurd hlt (by simp)
      injection hvv with hvv1 hvv2 hvv3
      subst hvv1 hvv3
      obtain ⟨q0, h0⟩ := hc k hlt
      have HFI : Hid (Fine es[k]) := HF.out _ (List.getElem_mem hlt)
      have HD : Hid (es.drop k = es[k] :: es.drop (k + 1)) := drop_ev es k hlt
      obtain ⟨qa, qc, rfl⟩ := h0.ps.slice
      have g0 := h0.next HB.out
      generalize es[k] = ev at *
      have y0 := g0.c0
      have y1 := g0.c1
      have y2 := g0.c2
      have y3 := g0.c3
      have y4 := g0.c4
      have y5 := g0.c5
      have y6 := g0.c6
      have HKA : Hid (Below wr.heap.size wr (wr.alloc (.cells #[.int .i64 ev.kind, .int .i32 ev.r, .int .u8 ev.fin, .int .u8 ev.mark, .string ev.mid, .slice qa ev.ps.length qc, .string ev.txt] 37))) := (Below.refl _ _).alloc (Nat.le_refl _) _
      have HKW : Hid (Below w.heap.size w (wr.alloc (.cells #[.int .i64 ev.kind, .int .i32 ev.r, .int .u8 ev.fin, .int .u8 ev.mark, .string ev.mid, .slice qa ev.ps.length qc, .string ev.txt] 37))) := HB.out.trans (HKA.out.mono HB.out.size)
      have HN : Hid ((wr.alloc (.cells #[.int .i64 ev.kind, .int .i32 ev.r, .int .u8 ev.fin, .int .u8 ev.mark, .string ev.mid, .slice qa ev.ps.length qc, .string ev.txt] 37)).heap[wr.heap.size]? = some (.cells #[.int .i64 ev.kind, .int .i32 ev.r, .int .u8 ev.fin, .int .u8 ev.mark, .string ev.mid, .slice qa ev.ps.length qc, .string ev.txt] 37 (0, 0))) := heap_alloc_new wr _
      have HPS : Hid (∀ W, Below w.heap.size w W → IntsV W (.slice qa ev.ps.length qc) ev.ps) := fun W hW => h0.ps.next hW
      clear hc h0 g0
      go_wp2_with fail
      refine (bytesOf_any ev qa qc _ (HP.out.below HKW.out) (HPS.out _ HKW.out) HFI.out).mono ?_
      rintro r W1 ⟨rfl, b1⟩
      have HK1 : Hid (Below w.heap.size w W1) := HKW.out.trans (b1.mono HKW.out.size)
      have HN1 : Hid (W1.heap[wr.heap.size]? = _) := stay HN.out b1
      have HB1 : Hid (Below wr.heap.size wr W1) := HKA.out.trans (b1.mono HKA.out.size)
      obtain ⟨c0, c1, c2, c3, c4, c5, c6⟩ := open7 (stay HN.out b1)
      clear y0 y1 y2 y3 y4 y5 y6 b1 HKA HKW HN
      go_wp2_with fail
      have HTJ := tellJust_any (bs (evB ev)) ev qa qc W1 (HT.out.next HK1.out) (HPS.out _ HK1.out) (by have := HFI.out.pl; omega)
      cases ht : tellB (bs (evB ev)) ev with
      | false =>
        rw [ht] at HTJ
        refine HTJ.mono ?_
        rintro r W2 ⟨rfl, b2⟩
        have HRR : Hid (([], 5) = R) := by
          unfold Hid
          rw [← HC.out, HD.out]
          show _ = (if tellB (bs (evB ev)) ev = false then ([], 5) else _)
          rw [if_pos ht]
        clear c0 c1 c2 c3 c4 c5 c6
        go_wp2_with fail
        go_ret2
        exact ⟨by rw [← HRR.out]; rfl, HK1.out.trans (b2.mono HK1.out.size)⟩
      | true =>
        rw [ht] at HTJ
        refine HTJ.mono ?_
        rintro r W2 ⟨rfl, b2⟩
        have hlen := tell_len ht
        have HK2 : Hid (Below w.heap.size w W2) := HK1.out.trans (b2.mono HK1.out.size)
        have HB2 : Hid (Below wr.heap.size wr W2) := HB1.out.trans (b2.mono HB1.out.size)
        have HBI2 : Hid (Lib.IsBuilderF 61 5 w.heap.size w.heap.size (Lib.byteCells acc) W2) := builder_below HBI.out HB2.out
        have HLN := Tryd.Builder_Len_f w.heap.size w.heap.size (Lib.byteCells acc) W2 HBI2.out
        rw [Lib.byteCells_length] at HLN
        have hbz : (bs (evB ev)).size = (evB ev).length := bs_size _
        clear c0 c1 c2 c3 c4 c5 c6 b2 HTJ
        by_cases hmany : 4000 < acc.length + (evB ev).length
        · have hm1 : (4000 : Int) < (acc.length : Int) + ((bs (evB ev)).size : Int) := by rw [hbz]; omega
          have HRR : Hid (([], 2) = R) := by
            unfold Hid
            rw [← HC.out, HD.out]
            show _ = (if tellB (bs (evB ev)) ev = false then ([], 5) else if 4000 < acc.length + (evB ev).length then ([], 2) else _)
            rw [if_neg (by rw [ht]; simp), if_pos hmany]
          have hz0 : (bs (evB ev)).size ≤ 4000 := by omega
          go_wp2_with fail
          refine HLN.mono ?_
          rintro r W3 ⟨rfl, e3⟩
          rw [e3]
          clear e3 W3
          go_wp2_with fail
          go_ret2
          exact ⟨by rw [← HRR.out]; rfl, HK2.out⟩
        · have hm1 : ¬ (4000 : Int) < (acc.length : Int) + ((bs (evB ev)).size : Int) := by rw [hbz]; omega
          have hz0 : (bs (evB ev)).size ≤ 4000 := by omega
          have HNX : Hid (run (es.drop (k + 1)) (acc ++ evB ev) = R) := by
            unfold Hid
            rw [← HC.out, HD.out]
            show _ = (if tellB (bs (evB ev)) ev = false then ([], 5) else if 4000 < acc.length + (evB ev).length then ([], 2) else run (es.drop (k + 1)) (acc ++ evB ev))
            rw [if_neg (by rw [ht]; simp), if_neg hmany]
          have HWS := Tryd.Builder_WriteString_k w.heap.size w.heap.size _ (bs (evB ev)) W2 HBI2.out (by rw [Lib.byteCells_length, hbz]; omega) HK2.out.size
          go_wp2_with fail
          refine HLN.mono ?_
          rintro r W3 ⟨rfl, e3⟩
          rw [e3]
          clear e3 W3
          go_wp2_with fail
          refine HWS.mono ?_
          rintro r W4 ⟨rfl, h4, b4, k4⟩
          have hs4 := b4.size
          have hs2 := HB2.out.size
          go_wp2_with fail
          go_roundg (es.length - (k + 1))
          case measure => omega
          case rel =>
            refine ⟨k + 1, acc ++ evB ev, by omega, by omega, by go_num, ?_, HK2.out.trans b4, by omega, HNX.out, by rw [List.length_append]; omega⟩
            rw [Lib.byteCells_append]
            exact Or.inr h4
    · have lt1 : ¬ ((k : Int) < (es.length : Int)) := by omega
      have HRR : Hid ((acc, 0) = R) := by
        have h := HC.out
        rw [show es.drop k = [] from List.drop_eq_nil_of_le (by omega)] at h
        exact h
      have HST := Tryd.Builder_String_any_k w.heap.size w.heap.size acc wr HBI.out (by omega)
      go_wp2_with fail
      refine HST.mono ?_
      rintro r W2 ⟨rfl, _, b2, _⟩
      go_wp2_with fail
      go_ret2
      exact ⟨by rw [← HRR.out]; rfl, HB.out.trans b2⟩
end Prs
end Go.Proofs.YtmgmdijhiplalaaDoor
