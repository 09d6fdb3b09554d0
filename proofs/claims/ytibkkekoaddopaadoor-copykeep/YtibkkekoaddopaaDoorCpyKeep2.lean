/- Package copying: Keep. -/
import Derived.Test.YtibkkekoaddopaaDoorCpyKeep
namespace Go.Proofs.YtibkkekoaddopaaDoor
open Go.ChangeShapes Go.WideShapes Go.ChangeAt Go.RowKit Go.Maps Go.Sort
namespace Cpy
open Txt (bs)
/-- Texts in a row of one's own. -/
def Own (w : World) (base : Nat) (v : Value) (L : List ByteArray) : Prop := w.ownsRow base 9 1 v L.length (L.map Value.string)
theorem Own.below {w w' : World} {base : Nat} {v : Value} {L : List ByteArray} (h : Own w base v L) (hb : Below w.heap.size w w') : Own w' base v L := Txt.own_below h hb
theorem own_one (w : World) (base : Nat) (hb : base ≤ w.heap.size) (s : ByteArray) : Own (w.alloc (.cells #[.string s] 9)) base (.slice (some ⟨w.heap.size, 0, none⟩) 1 1) [s] :=
  ⟨rfl, .inr ⟨w.heap.size, 1, _, rfl, hb, heap_alloc_new w _, Nat.le_refl _, by unfold maxLen; omega, rfl, rfl⟩⟩
theorem Own.open {w : World} {base : Nat} {v : Value} {L : List ByteArray} (h : Own w base v L) : ∃ a c, v = .slice a L.length c ∧ L.length ≤ c ∧ (L = [] ∨ ∃ b o, a = some ⟨b, o, none⟩ ∧ ∀ j x, L[j]? = some x → w.cell? ⟨b, o + j, none⟩ = some (.string x)) := by
  rcases h.2 with ⟨hv, hn⟩ | ⟨g, cap, cur, hv, hg, hh, hcap, _, _, ht⟩
  · have : L = [] := List.length_eq_zero_iff.1 (by simpa using hn)
    subst this
    exact ⟨none, 0, hv, Nat.le_refl _, .inl rfl⟩
  · refine ⟨_, _, hv, hcap, .inr ⟨g, 0, rfl, fun j x hx => ?_⟩⟩
    rw [Nat.mul_one] at ht
    obtain ⟨hj, _⟩ := List.getElem?_eq_some_iff.1 hx
    have h1 : (cur.toList.take L.length)[j]? = some (.string x) := by rw [ht, List.getElem?_map, hx]; rfl
    rw [List.getElem?_take_of_lt hj, Array.getElem?_toList] at h1
    unfold World.cell?
    rw [hh, Nat.zero_add]
    exact h1
def keepL (L : List ByteArray) (s : ByteArray) : List ByteArray := s :: L.take 4
def keepE (L : List ByteArray) (s : ByteArray) : Int := if 5 < L.length ∨ 4000 < s.size then 2 else 0
set_option maxHeartbeats 8000000 in
set_option maxRecDepth 100000 in
theorem keep_any (L : List ByteArray) (a : Option Addr) (c : Nat) (s : ByteArray) (w : World) (hc : L.length ≤ c) (h : L = [] ∨ ∃ b o, a = some ⟨b, o, none⟩ ∧ ∀ j x, L[j]? = some x → w.cell? ⟨b, o + j, none⟩ = some (.string x)) (hL : ∀ x ∈ L, x.size ≤ 281474976710656) :
    Calls Tryd.prog 22 #[.slice a L.length c, .string s] w fun e w' => ∃ v', e = .returned (.tuple #[v', .int .i64 (keepE L s)]) ∧ (if keepE L s = 0 then Own w' w.heap.size v' (keepL L s) else v' = .slice none 0 0) ∧ Below w.heap.size w w' := by
  obtain ⟨e0, he⟩ : ∃ e0, keepE L s = e0 := ⟨_, rfl⟩
  rw [he]
  unfold keepE at he
  by_cases h5 : 5 < L.length
  · rw [if_pos (.inl h5)] at he
    subst he
    simp only [show ((2 : Int) = 0) = False by simp, if_false]
    have is : (5 : Int) < (L.length : Int) := by omega
    go_enter Tryd.func22, Tryd.ntmps22
    go_wp2_with fail
    go_ret2
    exact ⟨_, rfl, rfl, Below.refl _ _⟩
  · have i5 : ¬ (5 : Int) < (L.length : Int) := by omega
    by_cases h4 : 4000 < s.size
    · rw [if_pos (.inr h4)] at he
      subst he
      simp only [show ((2 : Int) = 0) = False by simp, if_false]
      have is : (4000 : Int) < (s.size : Int) := by omega
      go_enter Tryd.func22, Tryd.ntmps22
      go_wp2_with fail
      go_ret2
      exact ⟨_, rfl, rfl, Below.refl _ _⟩
    · rw [if_neg (by rintro (h | h); exact h5 h; exact h4 h)] at he
      subst he
      simp only [if_true]
      have is : ¬ (4000 : Int) < (s.size : Int) := by omega
      have HCS := Txt.clone_any s w (by omega)
      have HCL := fun x (hx : x ∈ L) V => Txt.clone_any x V (hL x hx)
      have HH : Hid (L = [] ∨ ∃ b o, a = some ⟨b, o, none⟩ ∧ ∀ j x, L[j]? = some x → w.cell? ⟨b, o + j, none⟩ = some (.string x)) := h
      obtain ⟨i0, hi, hzz⟩ := Option.map_eq_some_iff.1 info_st
      simp only [Prod.mk.injEq] at hzz
      obtain ⟨hz0, hz1, hz2⟩ := hzz
      obtain ⟨n, hn⟩ : ∃ n : Nat, min (L.length : Int) 4 = (n : Int) := ⟨min L.length 4, by omega⟩
      have hnl : n ≤ L.length := by omega
      have hn4 : n ≤ 4 := by omega
      have hnc : (n : Int) ≤ (c : Int) := by omega
      have hn0 : (0 : Int) ≤ (n : Int) := by omega
      have HT : Hid (L.take 4 = L.take n) := by
        show L.take 4 = L.take n
        by_cases hh : L.length ≤ 4
        · rw [List.take_of_length_le hh, List.take_of_length_le (by omega)]
        · rw [show n = 4 by omega]
      have HNN : Hid (min (L.length : Int) 4 = (n : Int)) := hn
      clear h hL
      go_enter Tryd.func22, Tryd.ntmps22
      go_wp2_with fail
      refine HCS.mono ?_
      rintro e W1 ⟨rfl, b1⟩
      have o1 := own_one W1 w.heap.size b1.size s
      have kA : Below W1.heap.size W1 (W1.alloc (.cells #[.string s] 9)) := (Below.refl _ _).alloc (Nat.le_refl _) _
      have k1 := b1.trans (kA.mono b1.size)
      clear HCS b1 kA
      go_wp2_with fail
      generalize W1.alloc (.cells #[.string s] 9) = W2 at *
      clear HNN hn
      go_loopg [6, 26] n (fun g u6 u26 wr => ∃ i : Nat, u26 = .int .i64 (i : Int) ∧ i ≤ n ∧ n - i ≤ g ∧ Own wr w.heap.size u6 (s :: L.take i) ∧ Below w.heap.size w wr)
      case atStart => exact ⟨0, rfl, Nat.zero_le _, Nat.le_refl _, o1, k1⟩
      case round =>
        obtain ⟨i, rfl, hin, hg, hown, kb⟩ := hrel
        have HO : Hid (Own wr w.heap.size u6 (s :: L.take i)) := hown
        by_cases hlt : i < n
        · have ii : (i : Int) < (n : Int) := by omega
          have hil : i < L.length := by omega
          obtain ⟨b, o, rfl, hcl⟩ := HH.out.resolve_left (by intro h; rw [h] at hil; simp at hil)
          have q := CK.below kb _ _ _ (hcl i L[i] (List.getElem?_eq_getElem hil))
          have hmem : L[i] ∈ L := List.getElem_mem _
          have HC := HCL L[i] hmem
          have hts : L.take (i + 1) = L.take i ++ [L[i]] := by rw [List.take_succ_eq_append_getElem hil]
          have HTS : Hid (L.take (i + 1) = L.take i ++ [L[i]]) := hts
          have hln : (L.take i).length = i := by rw [List.length_take]; omega
          generalize L[i] = x at *
          clear hts hmem hcl hown k1 o1
          go_wp2_with fail
          refine (HC _).mono ?_
          rintro e W3 ⟨rfl, b3⟩
          have k3 := kb.trans (b3.mono kb.size)
          have hown := HO.out.below b3
          have hlen : (s :: L.take i).length = i + 1 := by rw [List.length_cons, hln]
          have hbs := b3.size
          have hks := kb.size
          clear HCL HO
          go_wp2_with (first | (at_builtin; refine wpList_append_own _ rfl _ _ 22 rfl w.heap.size 9 i0 (.string ByteArray.empty) 1 16 und_st hi hz0 hz1 hz2 rfl (by decide) _ _ _ rfl (World.ownsRow.alloc hown _) ⟨W3.heap.size, 0, none⟩ 1 1 [.string x] rfl rfl (cell_one_new _ _ _) (by intro u hu; simp at hu; rw [hu]; rfl) (by rw [hlen]; unfold maxLen; omega) (by rw [hlen]; omega) (by simp; omega) ?_; intro v' w2 hown' hgrow hnil))
          have hlt2 := hown.lt
          have k4 : Below w.heap.size w w2 := (k3.alloc (Nat.le_trans hks hbs) _).grown hgrow (by simp; omega) (fun k hk => by have := (hlt2 k hk).1; omega)
          have ho2 : Own w2 w.heap.size v' (s :: L.take (i + 1)) := by
            rw [HTS.out]
            unfold Own
            simpa using hown'
          go_roundg (n - (i + 1))
          case measure => omega
          case rel => exact ⟨i + 1, by go_num, by omega, Nat.le_refl _, ho2, k4⟩
        · have ii : ¬ (i : Int) < (n : Int) := by omega
          obtain rfl : i = n := by omega
          have hf : Own wr w.heap.size u6 (keepL L s) := by
            unfold keepL
            rw [HT.out]
            exact hown
          go_wp2_with fail
          go_ret2
          exact ⟨_, rfl, hf, kb⟩
end Cpy
end Go.Proofs.YtibkkekoaddopaaDoor
