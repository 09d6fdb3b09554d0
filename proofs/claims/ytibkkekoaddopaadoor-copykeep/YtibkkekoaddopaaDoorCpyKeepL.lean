/- The law CopyKeep. (Written by gen_cpykeepl.py.) -/
import Derived.Test.YtibkkekoaddopaaDoorCpyApp
import Derived.Test.YtibkkekoaddopaaDoorCpyCopied
namespace Go.Proofs.YtibkkekoaddopaaDoor
open Go.ChangeShapes Go.WideShapes Go.ChangeAt Go.RowKit Go.Maps Go.Sort
namespace Cpy
open Txt (Tab bs)
attribute [local go_sem ↓] app_go
theorem tell_take (m : Bool) (l : List UInt8) (i : Nat) (h : i < l.length) : tell m (l.take (i + 1)) = tell m (l.take i) ++ (if l[i] = 10 then [13] else if !m || l[i] != 27 then [l[i]] else []) := by
  unfold tell
  rw [List.take_succ_eq_append_getElem h, List.flatMap_append]
  simp
theorem one_byte (s : ByteArray) (i : Nat) (h : i < s.size) : s.extract i (i + 1) = bs [s[i]] := by
  apply ByteArray.ext
  rw [ByteArray.data_extract]
  apply Array.ext'
  rw [Array.toList_extract, List.extract_eq_take_drop]
  show ((s.data.toList.drop i).take (i + 1 - i)) = [s[i]]
  rw [List.drop_eq_getElem_cons (show i < s.data.toList.length by rw [Array.length_toList]; exact h)]
  rw [show i + 1 - i = 1 by omega]
  simp
  rfl
theorem tell_len (m : Bool) : ∀ l : List UInt8, (tell m l).length ≤ l.length
  | [] => by simp [tell]
  | b :: t => by
    have ih := tell_len m t
    unfold tell at ih ⊢
    rw [List.flatMap_cons, List.length_append, List.length_cons]
    split
    · rw [List.length_singleton]; omega
    · split
      · rw [List.length_singleton]; omega
      · rw [List.length_nil]; omega
theorem equal_texts {W : World} {b1 b2 : Nat} {x y : Value} {K : List ByteArray} (hx : Own W b1 x K) (hy : Own W b2 y K) (hK : K ≠ []) (hn : K.length ≤ 100000) : Calls Tryd.prog 25 #[x, y] W fun e w' => e = .returned (.bool true) ∧ Below W.heap.size W w' := by
  obtain ⟨p, c, rfl, _, h1⟩ := hx.open
  obtain ⟨q, d, rfl, _, h2⟩ := hy.open
  obtain ⟨b, o, rfl, g1⟩ := h1.resolve_left hK
  obtain ⟨b', o', rfl, g2⟩ := h2.resolve_left hK
  refine (Tryd.slices_Equal_string b o K.length c b' o' K.length d K K W (Nat.le_refl _) (Nat.le_refl _) (by omega) (by omega) ?_ ?_).mono ?_
  · intro j hj
    rw [g1 j _ (List.getElem?_eq_getElem hj), List.getD_eq_getElem?_getD, List.getElem?_eq_getElem hj]
    rfl
  · intro j hj
    rw [g2 j _ (List.getElem?_eq_getElem hj), List.getD_eq_getElem?_getD, List.getElem?_eq_getElem hj]
    rfl
  · rintro e w' ⟨rfl, z, rfl⟩
    exact ⟨by rw [decide_eq_true rfl], ⟨rfl, rfl, rfl, Nat.le_refl _, fun _ _ => rfl⟩⟩
set_option maxHeartbeats 16000000 in
set_option maxRecDepth 100000 in
theorem copyKeep_walk (L : List ByteArray) (a : Option Addr) (c : Nat) (s : ByteArray) (marked : Bool) (w : World) (hc : L.length ≤ c) (ha : a = none → c = 0) (h : L = [] ∨ ∃ b o, a = some ⟨b, o, none⟩ ∧ ∀ j x, L[j]? = some x → w.cell? ⟨b, o + j, none⟩ = some (.string x))
    (hL : ∀ x ∈ L, x.size ≤ 281474976710656) (hbig : L.length * 16 ≤ 140737488355328) (hT : Tab w) (hM : MaxAt w) :
    Calls Tryd.prog 6 #[.slice a L.length c, .string s, .bool marked] w fun e w' => e = .returned (.bool true) ∧ Below w.heap.size w w' := by
  have HTB : Hid (∀ V, Below w.heap.size w V → Tab V) := fun V hV => hT.below hV hT.pos
  have HMB : Hid (∀ V, Below w.heap.size w V → MaxAt V) := fun V hV => hM.below hV
  have HCC := fun V (hV : Below w.heap.size w V) => copied_any V (HTB.out V hV) (HMB.out V hV)
  have HCL := clone_texts L a c w hbig h
  have HKP := fun a' c' V hc' h' => keep_any L a' c' s V hc' h' hL
  have HBY := fun V hm => bytes_any s marked V hm
  have HH : Hid (∀ V, Below w.heap.size w V → (L = [] ∨ ∃ b o, a = some ⟨b, o, none⟩ ∧ ∀ j x, L[j]? = some x → V.cell? ⟨b, o + j, none⟩ = some (.string x))) := fun V hV => h.imp id (by
    rintro ⟨b, o, e, hx⟩
    exact ⟨b, o, e, fun j x hj => CK.below hV _ _ _ (hx j x hj)⟩)
  clear hT hM h hL hbig
  by_cases h4 : 4000 < s.size
  · have is : (4000 : Int) < (s.size : Int) := by omega
    unfold bytesT bytesE at HBY
    simp only [if_pos h4] at HBY
    unfold keepE at HKP
    simp only [if_pos (Or.inr h4 : 5 < L.length ∨ 4000 < s.size), show ((2 : Int) = 0) = False by simp, if_false] at HKP
    go_enter Tryd.func6, Tryd.ntmps6
    go_wp2_with fail
    refine HCL.mono ?_
    rintro e W1 ⟨a', c', rfl, hc', hh', b1⟩
    go_wp2_with fail
    refine (HKP a' c' _ hc' hh').mono ?_
    rintro e W2 ⟨v', rfl, hv', b2⟩
    have k2 := b1.trans (b2.mono b1.size)
    subst hv'
    go_wp2_with fail
    refine (HBY _ (HMB.out _ k2)).mono ?_
    rintro e W3 ⟨rfl, b3⟩
    have k3 := k2.trans (b3.mono k2.size)
    clear HKP HBY
    go_wp2_with fail
    refine (HCC _ k3).mono ?_
    rintro e W4 ⟨rfl, b4⟩
    have k4 := k3.trans (b4.mono k3.size)
    clear HTB
    go_wp2_with fail
    go_ret
    exact ⟨rfl, k4⟩
  · have is : ¬ (4000 : Int) < (s.size : Int) := by omega
    unfold bytesT bytesE at HBY
    simp only [if_neg h4] at HBY
    by_cases h5 : 5 < L.length
    · have i5 : (5 : Int) < (L.length : Int) := by omega
      unfold keepE at HKP
      simp only [if_pos (Or.inl h5 : 5 < L.length ∨ 4000 < s.size), show ((2 : Int) = 0) = False by simp, if_false] at HKP
      go_enter Tryd.func6, Tryd.ntmps6
      go_wp2_with fail
      refine HCL.mono ?_
      rintro e W1 ⟨a', c', rfl, hc', hh', b1⟩
      go_wp2_with fail
      refine (HKP a' c' _ hc' hh').mono ?_
      rintro e W2 ⟨v', rfl, hv', b2⟩
      have k2 := b1.trans (b2.mono b1.size)
      subst hv'
      go_wp2_with fail
      refine (HBY _ (HMB.out _ k2)).mono ?_
      rintro e W3 ⟨rfl, b3⟩
      have k3 := k2.trans (b3.mono k2.size)
      skip
      go_wp2_with fail
      refine (HCC _ k3).mono ?_
      rintro e W4 ⟨rfl, b4⟩
      have k4 := k3.trans (b4.mono k3.size)
      skip
      go_wp2_with fail
      have HK9 : Hid (Below w.heap.size w W4) := k4
      clear HCC HKP HBY HCL
      go_loopg [12, 69] s.size (fun g u12 u69 wr => ∃ i : Nat, u69 = .int .i64 (i : Int) ∧ i ≤ s.size ∧ s.size - i ≤ g ∧ u12 = .string (bs (tell marked (s.data.toList.take i))) ∧ Below w.heap.size w wr)
      case atStart => exact ⟨0, rfl, Nat.zero_le _, Nat.le_refl _, rfl, HK9.out⟩
      case round =>
        obtain ⟨i, rfl, hi, hg, rfl, kb⟩ := hrel
        clear HK9
        by_cases hlt : i < s.size
        · have ii : (i : Int) < (s.size : Int) := by omega
          have ii0 : (0 : Int) ≤ (i : Int) := by omega
          have hl : i < s.data.toList.length := by rw [Array.length_toList]; exact hlt
          have HT1 : Hid (tell marked (s.data.toList.take (i + 1)) = tell marked (s.data.toList.take i) ++ (if s.data.toList[i] = 10 then [13] else if !marked || s.data.toList[i] != 27 then [s.data.toList[i]] else [])) := tell_take marked _ i hl
          have HB : Hid (s.data.toList[i] = s[i]) := rfl
          have HX := one_byte s i hlt
          have htl := tell_len marked (s.data.toList.take i)
          have htl2 : (bs (tell marked (s.data.toList.take i))).size ≤ 4000 := by
            rw [bs_size]
            have : (s.data.toList.take i).length ≤ i := by rw [List.length_take]; omega
            omega
          have ix : (i : Int) + 1 ≤ (s.size : Int) := by omega
          by_cases h10 : s[i] = 10
          · have j10 : (((s[i]'hlt).toNat : Int) == 10) = true := by rw [beq_iff_eq, h10]; rfl
            have hs : tell marked (s.data.toList.take (i + 1)) = tell marked (s.data.toList.take i) ++ [13] := by rw [HT1.out, HB.out, if_pos h10]
            have hcat : bs (tell marked (s.data.toList.take i)) ++ ⟨#[13]⟩ = bs (tell marked (s.data.toList.take (i + 1))) := by
              rw [hs, ← bs_append]; rfl
            have HCAT : Hid (bs (tell marked (s.data.toList.take i)) ++ ⟨#[13]⟩ = bs (tell marked (s.data.toList.take (i + 1)))) := hcat
            clear HX hcat hs
            go_wp2_with fail
            go_roundg (s.size - (i + 1))
            case measure => omega
            case rel => exact ⟨i + 1, by go_num, by omega, Nat.le_refl _, congrArg Value.string HCAT.out, kb⟩
          · have j10 : (((s[i]'hlt).toNat : Int) == 10) = false := by
              rw [beq_eq_false_iff_ne]
              intro e
              exact h10 (UInt8.toNat_inj.1 (by show _ = 10; omega))
            by_cases hm : (!marked || s[i] != 27) = true
            · have hs : tell marked (s.data.toList.take (i + 1)) = tell marked (s.data.toList.take i) ++ [s[i]] := by rw [HT1.out, HB.out, if_neg h10, if_pos hm]
              have hcat : bs (tell marked (s.data.toList.take i)) ++ s.extract i (i + 1) = bs (tell marked (s.data.toList.take (i + 1))) := by
                rw [hs, HX, ← bs_append]
              have hxs : (s.extract i (i + 1)).size ≤ 1 := by rw [HX, bs_size]; exact Nat.le_refl 1
              have HM2 : Hid ((!marked || s[i] != 27) = true) := hm
              have HCAT : Hid (bs (tell marked (s.data.toList.take i)) ++ s.extract i (i + 1) = bs (tell marked (s.data.toList.take (i + 1)))) := hcat
              clear HX hm hcat hs
              have hii : (i : Int) ≤ (i : Int) + 1 := by omega
              have hii0 : (0 : Int) ≤ (i : Int) + 1 := by omega
              cases marked
              · go_wp2_with fail
                go_roundg (s.size - (i + 1))
                case measure => omega
                case rel => exact ⟨i + 1, by go_num, by omega, Nat.le_refl _, congrArg Value.string HCAT.out, kb⟩
              · have j27 : (((s[i]'hlt).toNat : Int) == 27) = false := by
                  rw [beq_eq_false_iff_ne]
                  intro e
                  have h27 : s[i] = 27 := UInt8.toNat_inj.1 (by show _ = 27; omega)
                  have := HM2.out
                  rw [h27] at this
                  exact absurd this (by decide)
                have n27 : (((s[i]'hlt).toNat : Int) != 27) = true := by rw [bne, j27]; rfl
                go_wp2_with fail
                go_roundg (s.size - (i + 1))
                case measure => omega
                case rel => exact ⟨i + 1, by go_num, by omega, Nat.le_refl _, congrArg Value.string HCAT.out, kb⟩
            · have hs : tell marked (s.data.toList.take (i + 1)) = tell marked (s.data.toList.take i) := by rw [HT1.out, HB.out, if_neg h10, if_neg hm, List.append_nil]
              have hmm : marked = true ∧ s[i] = 27 := by
                cases marked
                · exact absurd rfl hm
                · refine ⟨rfl, ?_⟩
                  by_cases h27 : s[i] = 27
                  · exact h27
                  · exact absurd (by simp [h27]) hm
              obtain ⟨rfl, h27⟩ := hmm
              have j27 : (((s[i]'hlt).toNat : Int) == 27) = true := by rw [beq_iff_eq, h27]; rfl
              have n27 : (((s[i]'hlt).toNat : Int) != 27) = false := by rw [bne, j27]; rfl
              have HS : Hid (tell true (s.data.toList.take (i + 1)) = tell true (s.data.toList.take i)) := hs
              clear HX hm hs
              go_wp2_with fail
              go_roundg (s.size - (i + 1))
              case measure => omega
              case rel => exact ⟨i + 1, by go_num, by omega, Nat.le_refl _, by rw [HS.out], kb⟩
        · have ii : ¬ (i : Int) < (s.size : Int) := by omega
          have hfull : s.data.toList.take i = s.data.toList := List.take_of_length_le (by rw [Array.length_toList]; show s.size ≤ i; omega)
          rw [hfull]
          have htl := tell_len marked s.data.toList
          have htl2 : (bs (tell marked s.data.toList)).size ≤ 4000 := by
            rw [bs_size]
            have : s.data.toList.length = s.size := Array.length_toList
            omega
          have hbt := bytes_tell marked s.data.toList
          cases marked
          · simp only [Bool.false_eq_true, if_false] at hbt
            rw [hbt]
            have hq : ((bs (tell false s.data.toList)).toList == (bs (tell false s.data.toList)).toList) = true := beq_self_eq_true _
            generalize bs (tell false s.data.toList) = T at *
            clear hfull htl
            go_wp2_with fail
            go_ret
            exact ⟨rfl, kb⟩
          · simp only [if_true] at hbt
            rw [hbt]
            have hcat : (⟨#[27, 91, 50, 48, 48, 126]⟩ : ByteArray) ++ bs (tell true s.data.toList) ++ ⟨#[27, 91, 50, 48, 49, 126]⟩ = bs (ahd ++ tell true s.data.toList ++ bhd) := by
              show bs ahd ++ bs _ ++ bs bhd = _
              rw [bs_append, bs_append]
            have z2 : ((⟨#[27, 91, 50, 48, 48, 126]⟩ : ByteArray) ++ bs (tell true s.data.toList)).size ≤ 4006 := by
              rw [ByteArray.size_append]
              have : (⟨#[27, 91, 50, 48, 48, 126]⟩ : ByteArray).size = 6 := rfl
              omega
            have hq : ((bs (ahd ++ tell true s.data.toList ++ bhd)).toList == (bs (ahd ++ tell true s.data.toList ++ bhd)).toList) = true := beq_self_eq_true _
            generalize bs (ahd ++ tell true s.data.toList ++ bhd) = T at *
            generalize bs (tell true s.data.toList) = T1 at *
            clear hfull htl
            go_wp2_with fail
            go_ret
            exact ⟨rfl, kb⟩
    · have i5 : ¬ (5 : Int) < (L.length : Int) := by omega
      unfold keepE at HKP
      simp only [if_neg (show ¬ (5 < L.length ∨ 4000 < s.size) by rintro (h | h); exact h5 h; exact h4 h), if_true] at HKP
      obtain ⟨n, hn⟩ : ∃ n : Nat, min (L.length : Int) 4 = (n : Int) := ⟨min L.length 4, by omega⟩
      have hnl : n ≤ L.length := by omega
      have hnc : (n : Int) ≤ (c : Int) := by omega
      have hn0 : (0 : Int) ≤ (n : Int) := by omega
      have HTK : Hid (L.take 4 = L.take n) := by
        show L.take 4 = L.take n
        by_cases hh : L.length ≤ 4
        · rw [List.take_of_length_le hh, List.take_of_length_le (by omega)]
        · rw [show n = 4 by omega]
      have HNL : Hid ((L.take n).length = n) := by show (L.take n).length = n; rw [List.length_take]; omega
      go_enter Tryd.func6, Tryd.ntmps6
      go_wp2_with fail
      refine HCL.mono ?_
      rintro e W1 ⟨a', c', rfl, hc', hh', b1⟩
      go_wp2_with fail
      refine (HKP a' c' _ hc' hh').mono ?_
      rintro e W2 ⟨v', rfl, hv', b2⟩
      have k2 := b1.trans (b2.mono b1.size)
      have hov : Own W2 W1.heap.size v' (keepL L s) := hv'
      go_wp2_with fail
      refine (HBY _ (HMB.out _ k2)).mono ?_
      rintro e W3 ⟨rfl, b3⟩
      have k3 := k2.trans (b3.mono k2.size)
      have hov3 := hov.below b3
      go_wp2_with fail
      refine (HCC _ k3).mono ?_
      rintro e W4 ⟨rfl, b4⟩
      have k4 := k3.trans (b4.mono k3.size)
      have hov4 := hov3.below b4
      have kA : Below W4.heap.size W4 (W4.alloc (.cells #[.string s] 9)) := (Below.refl _ _).alloc (Nat.le_refl _) _
      have k5 := k4.trans (kA.mono k4.size)
      have o1 := own_one W4 W4.heap.size (Nat.le_refl _) s
      obtain ⟨x', W6, hok, hap, hox, b6⟩ := app_texts (ms := L.take n) (c := c) (a := a) o1 kA.size (by rw [HNL.out]; simp; omega) ha (by
        rcases HH.out _ k5 with h | ⟨b, o, e, hx⟩
        · left; rw [h]; exact List.take_nil
        · right
          refine ⟨b, o, e, fun j z hz => hx j z ?_⟩
          obtain ⟨hj, _⟩ := List.getElem?_eq_some_iff.1 hz
          rw [List.length_take] at hj
          rwa [List.getElem?_take_of_lt (by omega)] at hz)
      rw [HNL.out] at hok hap
      have kF := kA.trans b6
      have k6 := k4.trans (kF.mono k4.size)
      have hov5 := hov4.below kF
      have hke : keepL L s = [s] ++ L.take n := by unfold keepL; rw [HTK.out]; rfl
      rw [hke] at hov5
      have HEQ := equal_texts hov5 hox (by simp) (by rw [List.length_append, HNL.out, List.length_singleton]; omega)
      clear hov hov3 hov4 hov5 hox o1 hv' kA b6 kF
      go_wp2_with fail
      refine HEQ.mono ?_
      rintro e W7 ⟨rfl, b7⟩
      have k7 := k6.trans (b7.mono k6.size)
      clear HEQ hok hap b7
      go_wp2_with fail
      have HK9 : Hid (Below w.heap.size w W7) := k7
      clear HCC HKP HBY HCL
      go_loopg [12, 69] s.size (fun g u12 u69 wr => ∃ i : Nat, u69 = .int .i64 (i : Int) ∧ i ≤ s.size ∧ s.size - i ≤ g ∧ u12 = .string (bs (tell marked (s.data.toList.take i))) ∧ Below w.heap.size w wr)
      case atStart => exact ⟨0, rfl, Nat.zero_le _, Nat.le_refl _, rfl, HK9.out⟩
      case round =>
        obtain ⟨i, rfl, hi, hg, rfl, kb⟩ := hrel
        clear HK9
        by_cases hlt : i < s.size
        · have ii : (i : Int) < (s.size : Int) := by omega
          have ii0 : (0 : Int) ≤ (i : Int) := by omega
          have hl : i < s.data.toList.length := by rw [Array.length_toList]; exact hlt
          have HT1 : Hid (tell marked (s.data.toList.take (i + 1)) = tell marked (s.data.toList.take i) ++ (if s.data.toList[i] = 10 then [13] else if !marked || s.data.toList[i] != 27 then [s.data.toList[i]] else [])) := tell_take marked _ i hl
          have HB : Hid (s.data.toList[i] = s[i]) := rfl
          have HX := one_byte s i hlt
          have htl := tell_len marked (s.data.toList.take i)
          have htl2 : (bs (tell marked (s.data.toList.take i))).size ≤ 4000 := by
            rw [bs_size]
            have : (s.data.toList.take i).length ≤ i := by rw [List.length_take]; omega
            omega
          have ix : (i : Int) + 1 ≤ (s.size : Int) := by omega
          by_cases h10 : s[i] = 10
          · have j10 : (((s[i]'hlt).toNat : Int) == 10) = true := by rw [beq_iff_eq, h10]; rfl
            have hs : tell marked (s.data.toList.take (i + 1)) = tell marked (s.data.toList.take i) ++ [13] := by rw [HT1.out, HB.out, if_pos h10]
            have hcat : bs (tell marked (s.data.toList.take i)) ++ ⟨#[13]⟩ = bs (tell marked (s.data.toList.take (i + 1))) := by
              rw [hs, ← bs_append]; rfl
            have HCAT : Hid (bs (tell marked (s.data.toList.take i)) ++ ⟨#[13]⟩ = bs (tell marked (s.data.toList.take (i + 1)))) := hcat
            clear HX hcat hs
            go_wp2_with fail
            go_roundg (s.size - (i + 1))
            case measure => omega
            case rel => exact ⟨i + 1, by go_num, by omega, Nat.le_refl _, congrArg Value.string HCAT.out, kb⟩
          · have j10 : (((s[i]'hlt).toNat : Int) == 10) = false := by
              rw [beq_eq_false_iff_ne]
              intro e
              exact h10 (UInt8.toNat_inj.1 (by show _ = 10; omega))
            by_cases hm : (!marked || s[i] != 27) = true
            · have hs : tell marked (s.data.toList.take (i + 1)) = tell marked (s.data.toList.take i) ++ [s[i]] := by rw [HT1.out, HB.out, if_neg h10, if_pos hm]
              have hcat : bs (tell marked (s.data.toList.take i)) ++ s.extract i (i + 1) = bs (tell marked (s.data.toList.take (i + 1))) := by
                rw [hs, HX, ← bs_append]
              have hxs : (s.extract i (i + 1)).size ≤ 1 := by rw [HX, bs_size]; exact Nat.le_refl 1
              have HM2 : Hid ((!marked || s[i] != 27) = true) := hm
              have HCAT : Hid (bs (tell marked (s.data.toList.take i)) ++ s.extract i (i + 1) = bs (tell marked (s.data.toList.take (i + 1)))) := hcat
              clear HX hm hcat hs
              have hii : (i : Int) ≤ (i : Int) + 1 := by omega
              have hii0 : (0 : Int) ≤ (i : Int) + 1 := by omega
              cases marked
              · go_wp2_with fail
                go_roundg (s.size - (i + 1))
                case measure => omega
                case rel => exact ⟨i + 1, by go_num, by omega, Nat.le_refl _, congrArg Value.string HCAT.out, kb⟩
              · have j27 : (((s[i]'hlt).toNat : Int) == 27) = false := by
                  rw [beq_eq_false_iff_ne]
                  intro e
                  have h27 : s[i] = 27 := UInt8.toNat_inj.1 (by show _ = 27; omega)
                  have := HM2.out
                  rw [h27] at this
                  exact absurd this (by decide)
                have n27 : (((s[i]'hlt).toNat : Int) != 27) = true := by rw [bne, j27]; rfl
                go_wp2_with fail
                go_roundg (s.size - (i + 1))
                case measure => omega
                case rel => exact ⟨i + 1, by go_num, by omega, Nat.le_refl _, congrArg Value.string HCAT.out, kb⟩
            · have hs : tell marked (s.data.toList.take (i + 1)) = tell marked (s.data.toList.take i) := by rw [HT1.out, HB.out, if_neg h10, if_neg hm, List.append_nil]
              have hmm : marked = true ∧ s[i] = 27 := by
                cases marked
                · exact absurd rfl hm
                · refine ⟨rfl, ?_⟩
                  by_cases h27 : s[i] = 27
                  · exact h27
                  · exact absurd (by simp [h27]) hm
              obtain ⟨rfl, h27⟩ := hmm
              have j27 : (((s[i]'hlt).toNat : Int) == 27) = true := by rw [beq_iff_eq, h27]; rfl
              have n27 : (((s[i]'hlt).toNat : Int) != 27) = false := by rw [bne, j27]; rfl
              have HS : Hid (tell true (s.data.toList.take (i + 1)) = tell true (s.data.toList.take i)) := hs
              clear HX hm hs
              go_wp2_with fail
              go_roundg (s.size - (i + 1))
              case measure => omega
              case rel => exact ⟨i + 1, by go_num, by omega, Nat.le_refl _, by rw [HS.out], kb⟩
        · have ii : ¬ (i : Int) < (s.size : Int) := by omega
          have hfull : s.data.toList.take i = s.data.toList := List.take_of_length_le (by rw [Array.length_toList]; show s.size ≤ i; omega)
          rw [hfull]
          have htl := tell_len marked s.data.toList
          have htl2 : (bs (tell marked s.data.toList)).size ≤ 4000 := by
            rw [bs_size]
            have : s.data.toList.length = s.size := Array.length_toList
            omega
          have hbt := bytes_tell marked s.data.toList
          cases marked
          · simp only [Bool.false_eq_true, if_false] at hbt
            rw [hbt]
            have hq : ((bs (tell false s.data.toList)).toList == (bs (tell false s.data.toList)).toList) = true := beq_self_eq_true _
            generalize bs (tell false s.data.toList) = T at *
            clear hfull htl
            go_wp2_with fail
            go_ret
            exact ⟨rfl, kb⟩
          · simp only [if_true] at hbt
            rw [hbt]
            have hcat : (⟨#[27, 91, 50, 48, 48, 126]⟩ : ByteArray) ++ bs (tell true s.data.toList) ++ ⟨#[27, 91, 50, 48, 49, 126]⟩ = bs (ahd ++ tell true s.data.toList ++ bhd) := by
              show bs ahd ++ bs _ ++ bs bhd = _
              rw [bs_append, bs_append]
            have z2 : ((⟨#[27, 91, 50, 48, 48, 126]⟩ : ByteArray) ++ bs (tell true s.data.toList)).size ≤ 4006 := by
              rw [ByteArray.size_append]
              have : (⟨#[27, 91, 50, 48, 48, 126]⟩ : ByteArray).size = 6 := rfl
              omega
            have hq : ((bs (ahd ++ tell true s.data.toList ++ bhd)).toList == (bs (ahd ++ tell true s.data.toList ++ bhd)).toList) = true := beq_self_eq_true _
            generalize bs (ahd ++ tell true s.data.toList ++ bhd) = T at *
            generalize bs (tell true s.data.toList) = T1 at *
            clear hfull htl
            go_wp2_with fail
            go_ret
            exact ⟨rfl, kb⟩
end Cpy
end Go.Proofs.YtibkkekoaddopaaDoor
