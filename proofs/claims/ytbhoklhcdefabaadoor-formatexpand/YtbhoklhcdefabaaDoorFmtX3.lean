/- The reference's expander: a Value; text when it can't go on any more. -/
import Derived.Test.YtbhoklhcdefabaaDoorFmtX2
namespace Go.Proofs.YtbhoklhcdefabaaDoor
open Go.ChangeShapes Go.WideShapes Go.ChangeAt Go.RowKit Go.Maps Go.Sort
namespace Fmt
/-- How a piece of the expander ends; B: a bound of what it hands back where it can't go on. -/
def PostX (X : Nat) (t : ByteArray) (iv : Value) (B : Nat) (w : World) : Res → Ending → World → Prop
  | .bad q, e, w' => ∃ z : ByteArray, e = .returned (.string z) ∧ z.size ≤ B ∧ ExAt w' X t iv t.size q ∧ But X w w'
  | .ok o q, e, w' => e = .returned (.string ⟨o.toArray⟩) ∧ ExAt w' X t iv q (-1) ∧ But X w w'
theorem name_empty (t : ByteArray) (p q : Nat) (hp : p ≤ q) (hq : q ≤ t.size) : ((t.extract p q).toList == []) = decide (q = p) := by
  rw [Lib.toList_data]
  have hl : (t.extract p q).data.toList.length = q - p := by
    have h1 : (t.extract p q).data.toList.length = (t.extract p q).size := Array.length_toList
    rw [h1, ByteArray.size_extract]
    omega
  by_cases h : q = p
  · rw [decide_eq_true h]
    cases hx : (t.extract p q).data.toList with
    | nil => rfl
    | cons a l => rw [hx] at hl; simp at hl; omega
  · rw [decide_eq_false h]
    cases hx : (t.extract p q).data.toList with
    | nil => rw [hx] at hl; simp at hl; omega
    | cons a l => rfl
set_option maxHeartbeats 8000000 in
set_option maxRecDepth 100000 in
theorem valueX_any (w0 : World) (X : Nat) (t : ByteArray) (iv : Value) (p : Nat) (I : List (ByteArray × ByteArray)) (w : World) (E : Env w0 X iv I) (hb : Below w0.heap.size w0 w) (h : ExAt w X t iv p (-1)) (hp : p ≤ t.size) (hs : t.size ≤ 4000) :
    Calls Tryd.prog 37 #[.pointer (some ⟨X, 0, none⟩)] w fun e w' => PostX X t iv 0 w (vaR t I p) e w' := by
  have HEB : Hid (∀ W, But X w W → Below w0.heap.size w0 W) := fun W h => E.but hb h
  have HW := word_any X t iv p w h hp hs
  obtain ⟨⟨c0, c1, c2, c3⟩, _⟩ := h.cells
  have hge := run_ge isN t t.size p
  have hle := run_le isN t t.size p hp
  have hne := name_empty t p (nm t p) hge hle
  have hXw : X < w.heap.size := (Array.getElem?_eq_some_iff.1 h).1
  unfold vaR
  have HVV : Hid (val I (t.extract p (nm t p)) = ((I.find? (fun x => x.1.toList == (t.extract p (nm t p)).toList)).map (·.2)).getD ⟨#[]⟩) := rfl
  unfold nmS at HW
  clear h hge hle hb
  by_cases hn : nm t p = p
  · rw [if_pos hn]
    rw [decide_eq_true hn] at hne
    have HF := fun W h => fail_any X t iv (nm t p) p W h
    generalize t.extract p (nm t p) = n at *
    clear hn HVV
    generalize nm t p = f at *
    go_enter Tryd.func37, Tryd.ntmps37
    go_wp2_with fail
    refine HW.mono ?_
    rintro e W ⟨rfl, r, b⟩
    go_wp2_with fail
    refine (HF _ r).mono ?_
    rintro e W2 ⟨rfl, r2, b2⟩
    go_wp2_with fail
    go_ret
    exact ⟨_, rfl, Nat.le_refl _, r2, b.trans b2⟩
  · rw [if_neg hn]
    rw [decide_eq_false hn] at hne
    show Calls _ _ _ _ fun e w' => e = .returned (.string ⟨(val I (t.extract p (nm t p))).data.toList.toArray⟩) ∧ ExAt w' X t iv (nm t p) (-1) ∧ But X w w'
    rw [self_bytes]
    generalize val I (t.extract p (nm t p)) = vv at *
    generalize t.extract p (nm t p) = n at *
    generalize nm t p = f at *
    clear hn
    obtain ⟨a, c, rfl, _⟩ := E.it _ (HEB.out _ (But.refl X w))
    go_enter Tryd.func37, Tryd.ntmps37
    go_wp2_with fail
    refine HW.mono ?_
    rintro e W ⟨rfl, r, b⟩
    obtain ⟨⟨c0, c1, c2, c3⟩, _⟩ := r.cells
    have HR1 : Hid (ExAt W X t (.slice a I.length c) f (-1) ∧ But X w W) := ⟨r, b⟩
    have hXW : X < W.heap.size := Nat.lt_of_lt_of_le hXw b.size
    clear HW r b
    go_wp2_with fail
    clear c0 c1 c2 c3
    go_loopg [23] (I.length + 1) (fun g u23 wr => ∃ i : Nat, u23 = .int .i64 (i : Int) ∧ i ≤ I.length ∧ I.length - i < g ∧ Below W.heap.size W wr ∧ ((I.drop i).find? (fun x => x.1.toList == n.toList)) = I.find? (fun x => x.1.toList == n.toList))
    case atStart => exact ⟨0, rfl, Nat.zero_le _, by omega, Below.refl _ _, rfl⟩
    case round =>
      obtain ⟨i, rfl, hi, hg, hbW, hf⟩ := hrel
      have HFD : Hid ((I.drop i).find? (fun x => x.1.toList == n.toList) = I.find? (fun x => x.1.toList == n.toList)) := hf
      have HBW : Hid (Below W.heap.size W wr) := hbW
      have r2 := HR1.out.1.below hbW
      have b2 := HR1.out.2.trans (But.of_below hbW)
      have HO : Hid (ExAt wr X t (.slice a I.length c) f (-1) ∧ But X w wr) := ⟨r2, b2⟩
      clear hf hbW
      by_cases hil : i < I.length
      · have iin : (i : Int) < (I.length : Int) := Int.ofNat_lt.2 hil
        obtain ⟨a', c', hv, hcell⟩ := E.it _ (HEB.out _ b2)
        injection hv with e1 e2 e3
        obtain ⟨b', o', e4, hc⟩ := hcell.resolve_left (by intro h; rw [h] at hil; simp at hil)
        subst e1 e3
        subst e4
        have q0 := (hc i I[i] (List.getElem?_eq_getElem hil)).1
        have q1 := (hc i I[i] (List.getElem?_eq_getElem hil)).2
        have hd : I.drop i = I[i] :: I.drop (i + 1) := List.drop_eq_getElem_cons hil
        have hff := HFD.out
        rw [hd, List.find?_cons] at hff
        obtain ⟨x, hx⟩ : ∃ x, I[i] = x := ⟨_, rfl⟩
        rw [hx] at q0 q1 hff
        have kA := own_of_below (w := wr) (.cells #[.string x.1, .string x.2] 27)
        obtain ⟨z0, z1⟩ := cells2 (heap_alloc_new wr (.cells #[.string x.1, .string x.2] 27))
        have r3 := r2.below kA
        have b3 := b2.trans (But.of_below kA)
        have k3 := HBW.out.trans (kA.mono HBW.out.size)
        have hi20 := E.len
        cases hp : (x.1.toList == n.toList)
        · rw [hp] at hff
          have HFF : Hid ((I.drop (i + 1)).find? (fun x => x.1.toList == n.toList) = I.find? (fun x => x.1.toList == n.toList)) := hff
          clear hff hd hc hcell hx r2 b2 r3 b3
          go_wp2_with fail
          go_roundg (I.length - i)
          case measure => omega
          case rel => exact ⟨i + 1, by go_num, by omega, by omega, k3, HFF.out⟩
        · rw [hp] at hff
          have hvv : vv = x.2 := by
            rw [HVV.out, ← hff]
            rfl
          subst hvv
          have HO3 : Hid (ExAt _ X t (.slice (some ⟨b', o', none⟩) I.length c) f (-1) ∧ But X w _) := ⟨r3, b3⟩
          clear hff hd hc hcell hx r2 b2 r3 b3
          go_wp2_with fail
          go_ret
          exact ⟨rfl, HO3.out⟩
      · have iex : ¬ (i : Int) < (I.length : Int) := fun h => hil (Int.ofNat_lt.1 h)
        have hvv : vv = ⟨#[]⟩ := by
          rw [HVV.out, ← HFD.out, List.drop_of_length_le (by omega)]
          rfl
        subst hvv
        clear r2 b2
        go_wp2_with fail
        go_ret
        exact ⟨rfl, HO.out⟩
end Fmt
end Go.Proofs.YtbhoklhcdefabaaDoor
