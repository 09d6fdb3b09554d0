/- The walk of the reference's CutOf. -/
import Derived.Test.YtbhoklhcdefabaaDoorTextRunesW
import Derived.Test.YtbhoklhcdefabaaDoorTextWidthOf
namespace Go.Proofs.YtbhoklhcdefabaaDoor
open Go.ChangeShapes Go.WideShapes Go.ChangeAt Go.RowKit Go.Maps
namespace Txt
theorem own_slice {w : World} {base : Nat} {e : TypeId} {v : Value} {n : Nat} {xs : List Value} (h : w.ownsRow base e 1 v n xs) :
    ∃ ao cap, v = .slice ao n cap ∧ (0 < n → ∃ g, ao = some ⟨g, 0, none⟩ ∧ g < w.heap.size ∧ ∀ j, j < n → w.cell? ⟨g, j, none⟩ = xs[j]?) := by
  rcases h.2 with ⟨rfl, rfl⟩ | ⟨g, cap, cur, rfl, hb, hh, hr⟩
  · exact ⟨none, 0, rfl, fun h => absurd h (Nat.lt_irrefl _)⟩
  · exact ⟨some ⟨g, 0, none⟩, cap, rfl, fun _ => ⟨g, rfl, (Array.getElem?_eq_some_iff.1 hh).1, fun j hj => h.cellAt j (by omega)⟩⟩
theorem drop_at {α : Type} (l : List α) (k : Nat) (h : k < l.length) : l.drop k = l[k] :: l.drop (k + 1) := (List.getElem_cons_drop h).symm

set_option maxHeartbeats 2000000 in
set_option maxRecDepth 100000 in
theorem cutOf_any (s : ByteArray) (n : Int) (w : World) (hs : s.size ≤ 17592186044416) :
    Calls Tryd.prog 9 #[.string s, .int .i64 n] w fun e w' => e = .returned (.string (bs (cutB s.data.toList n))) ∧ Below w.heap.size w w' := by
  have hcl := cut_le n s.data.toList 0
  have hrl := rs_length s s.size 0 (Nat.zero_le _)
  have HX : Hid (s.extract 0 (cutL n (runes s) 0) = bs (cutB s.data.toList n)) := by unfold Hid cutB; rw [runes_rn, extract_take]; rfl
  rw [← runes_rn] at hcl
  have hcl2 : cutL n (runes s) 0 ≤ s.size := by rw [Lib.size_eq]; exact hcl
  have hrl2 : (runes s).length ≤ s.size := by unfold runes; omega
  clear hcl hrl
  have HRU := fun w0 => runes_any s w0 hs
  have HRU : Hid (∀ w0, _) := HRU
  generalize runes s = L at *
  go_enter Tryd.func9, Tryd.ntmps9
  go_wp2_with fail
  refine (HRU.out _).mono ?_
  rintro e W1 ⟨v1, v2, rfl, hA, hB, b1⟩
  obtain ⟨ao, capA, rfl, hcA⟩ := own_slice hA
  obtain ⟨bo, capB, rfl, hcB⟩ := own_slice hB
  clear hA hB HRU
  by_cases hn0 : L.length = 0
  · have hL : L = [] := List.eq_nil_of_length_eq_zero hn0
    subst hL
    clear hcA hcB
    go_wp2
    refine wp_loop_rounds 1 ?_
    rw [rounds_succ]
    go_wp2
    go_ret
    exact ⟨ret_str (by rw [← HX.out]; simp [cutL]), b1⟩
  · obtain ⟨g1, rfl, hg1, hcA⟩ := hcA (by omega)
    obtain ⟨g2, rfl, hg2, hcB⟩ := hcB (by omega)
    have HCA : Hid (∀ j, j < L.length → W1.cell? ⟨g1, j, none⟩ = (L.map fun x => Value.int .i32 x.1)[j]?) := hcA
    have HCB : Hid (∀ j, j < L.length → W1.cell? ⟨g2, j, none⟩ = (L.map fun x => Value.int .i64 x.2)[j]?) := hcB
    clear hcA hcB
    go_wp2_with fail
    go_loopw [7, 8, 18] (fun a b i wr => ∃ (k en : Nat) (c : Int), k ≤ L.length ∧ i = .int .i64 k ∧ b = .int .i64 c ∧ a = .int .i64 en ∧ Below W1.heap.size W1 wr ∧ en + cutL n (L.drop k) c = cutL n L 0 ∧ 0 ≤ c ∧ c ≤ 2 * k) (fun _ _ i _ => L.length - (intOf i).toNat)
    case atStart => exact ⟨0, 0, 0, Nat.zero_le _, rfl, rfl, rfl, Below.refl _ _, by simp, by omega, by omega⟩
    case round =>
      obtain ⟨k, en, c, hk, rfl, rfl, rfl, hb, hc, hc0, hc1⟩ := hrel
      have hen : en ≤ s.size := by omega
      have HC : Hid (en + cutL n (L.drop k) c = cutL n L 0) := hc
      clear hc
      by_cases hlt : k < L.length
      · have g1c : wr.cell? ⟨g1, k, none⟩ = some (.int .i32 L[k].1) := by rw [hb.cell (by exact hg1), HCA.out k hlt]; simp [hlt]
        have g2c : wr.cell? ⟨g2, k, none⟩ = some (.int .i64 L[k].2) := by rw [hb.cell (by exact hg2), HCB.out k hlt]; simp [hlt]
        have HD : Hid (L.drop k = L[k] :: L.drop (k + 1)) := drop_at L k hlt
        have hw := wd_range L[k].1
        have hsum : cutL n (L.drop k) c = cutL n (L[k] :: L.drop (k + 1)) c := by rw [HD.out]
        generalize L[k] = x at *
        by_cases hn : n < c + wd x.1
        · go_wp2_with (go_at_call 26; refine (widthOf_any _ _).mono ?_; rintro e W2 ⟨rfl, b2⟩)
          go_ret
          refine ⟨ret_str ?_, b1.trans ((hb.trans (b2.mono hb.size)).mono b1.size)⟩
          have := HC.out
          rw [hsum] at this
          simp only [cutL] at this
          rw [if_pos hn] at this
          rw [← HX.out, ← this]
          rfl
        · have hn : c + wd x.1 ≤ n := by omega
          have hxb : en + x.2 ≤ s.size := by
            have := HC.out
            rw [hsum] at this
            simp only [cutL] at this
            rw [if_neg (by omega)] at this
            omega
          have hg2w : g2 < wr.heap.size := Nat.lt_of_lt_of_le hg2 hb.size
          have HS : Hid (cutL n (L.drop k) c = cutL n (x :: L.drop (k + 1)) c) := hsum
          clear hsum
          go_wp2_with (go_at_call 26; refine (widthOf_any _ _).mono ?_; rintro e W2 ⟨rfl, b2⟩; have g2d := (b2.cell (p := ⟨g2, k, none⟩) hg2w).trans g2c)
          go_roundw
          case rel =>
            refine ⟨k + 1, en + x.2, c + wd x.1, by omega, by go_num, rfl, by go_num, hb.trans (b2.mono hb.size), ?_, by omega, by omega⟩
            have := HC.out
            rw [HS.out] at this
            simp only [cutL] at this
            rw [if_neg (by omega)] at this
            omega
          case measure => simp [intOf]; omega
      · have : k = L.length := by omega
        subst this
        go_wp2
        go_ret
        refine ⟨ret_str ?_, b1.trans (hb.mono b1.size)⟩
        have := HC.out
        rw [List.drop_length, cutL] at this
        rw [← HX.out, ← this]
        rfl
end Txt
end Go.Proofs.YtbhoklhcdefabaaDoor
