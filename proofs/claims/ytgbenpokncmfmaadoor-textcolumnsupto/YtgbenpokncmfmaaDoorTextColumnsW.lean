/- The walk of the law TextColumns. -/
import Derived.Test.YtgbenpokncmfmaaDoorTextSpots
import Derived.Test.YtgbenpokncmfmaaDoorTextCutOf
import Derived.Test.YtgbenpokncmfmaaDoorTextCleanOf
namespace Go.Proofs.YtgbenpokncmfmaaDoor
open Go.ChangeShapes Go.WideShapes Go.ChangeAt Go.RowKit Go.Maps
namespace Txt
theorem own_slice2 {w : World} {base : Nat} {e : TypeId} {v : Value} {n : Nat} {xs : List Value} (h : w.ownsRow base e 2 v n xs) :
    ∃ ao cap, v = .slice ao n cap ∧ (0 < n → ∃ g, ao = some ⟨g, 0, none⟩ ∧ g < w.heap.size ∧ ∀ j, j < n * 2 → w.cell? ⟨g, j, none⟩ = xs[j]?) := by
  rcases h.2 with ⟨rfl, rfl⟩ | ⟨g, cap, cur, rfl, hb, hh, hr⟩
  · exact ⟨none, 0, rfl, fun h => absurd h (Nat.lt_irrefl _)⟩
  · exact ⟨some ⟨g, 0, none⟩, cap, rfl, fun _ => ⟨g, rfl, (Array.getElem?_eq_some_iff.1 hh).1, fun j hj => h.cellAt j hj⟩⟩
theorem flat_spot : ∀ (l : List (Int × Int)) (k : Nat) (h : k < l.length), (l.flatMap spot2)[k * 2]? = some (.int .i32 l[k].1) ∧ (l.flatMap spot2)[k * 2 + 1]? = some (.int .i64 l[k].2)
  | y :: t, 0, _ => ⟨rfl, rfl⟩
  | y :: t, k + 1, h => by
    have := flat_spot t k (by simpa using h)
    rw [show (k + 1) * 2 = k * 2 + 1 + 1 from by omega]
    simpa [List.flatMap_cons, spot2] using this
theorem equal_rows (a b : Option Addr) (n c d : Nat) (xs : List Int) (w : World) (hn : n = xs.length) (hbig : n ≤ 9223372036854775807)
    (ha : 0 < n → ∃ g, a = some ⟨g, 0, none⟩ ∧ ∀ j, j < n → w.cell? ⟨g, j, none⟩ = (xs.map (Value.int .i64))[j]?)
    (hb : 0 < n → ∃ g, b = some ⟨g, 0, none⟩ ∧ ∀ j, j < n → w.cell? ⟨g, j, none⟩ = (xs.map (Value.int .i64))[j]?) :
    Calls Tryd.prog 20 #[.slice a n c, .slice b n d] w fun e w' => e = .returned (.bool true) ∧ Below w.heap.size w w' := by
  by_cases h0 : n = 0
  · rw [h0]
    refine (Tryd.slices_Equal_int_empty a b c 0 d w (by omega)).mono fun e w' ⟨he, hw⟩ => ⟨?_, ?_⟩
    · rw [he]; rfl
    · rw [hw]; exact Below.refl _ _
  · obtain ⟨g1, rfl, h1⟩ := ha (by omega)
    obtain ⟨g2, rfl, h2⟩ := hb (by omega)
    refine (Tryd.slices_Equal_int g1 0 n c g2 0 n d xs xs w (by omega) (by omega) hbig hbig (fun j hj => ?_) (fun j hj => ?_)).mono fun e w' ⟨he, q, hw⟩ => ⟨?_, ?_⟩
    · rw [Nat.zero_add, h1 j (by omega)]; simp [hj]
    · rw [Nat.zero_add, h2 j (by omega)]; simp [hj]
    · rw [he]; simp
    · rw [hw]; exact ⟨rfl, rfl, rfl, Nat.le_refl _, fun _ _ => rfl⟩

set_option maxHeartbeats 2000000 in
set_option maxRecDepth 100000 in
theorem textColumns_walk (s : ByteArray) (w : World) (hT : Tab w) (hs : s.size ≤ 8796093022208) :
    Calls Tryd.prog 6 #[.string s] w fun e w' => e = .returned (.bool true) ∧ Below w.heap.size w w' := by
  have hpos := hT.pos
  have HT : Hid (Tab w) := hT
  clear hT
  have hrl := rs_length s s.size 0 (Nat.zero_le _)
  have hcl := colsL_length (runes s) 0
  have HSC : Hid ((spotsL (runes s) 0).map (·.2) = colsL (runes s) 0) := spots_cols _ _
  have hll : (spotsL (runes s) 0).length = (colsL (runes s) 0).length := by rw [← HSC.out, List.length_map]
  have hsl : (spotsL (runes s) 0).length ≤ s.size := by unfold runes at hcl ⊢; unfold runes at hll; omega
  have HSP : Hid (∀ w0, _) := fun w0 => spots_any s w0 (by omega)
  have HCO : Hid (∀ w0, Tab w0 → _) := fun w0 h0 => columns_any s w0 h0 (by omega)
  have HCL : Hid (∀ w0, Tab w0 → _) := fun w0 h0 => clean_any s w0 h0 (by omega)
  have HCF : Hid (∀ w0, _) := fun w0 => cleanOf_any s w0 (by omega)
  clear hrl hcl
  generalize cleanL (runes s) = cl at *
  generalize spotsL (runes s) 0 = S at *
  generalize colsL (runes s) 0 = C at *
  obtain ⟨i0, hi, hz0, hz1, hz2⟩ := info_parts info_int
  go_enter Tryd.func6, Tryd.ntmps6
  go_wp2_with fail
  refine (HSP.out _).mono ?_
  rintro e W1 ⟨v1, rfl, hA, b1⟩
  obtain ⟨ao, capA, rfl, hcA⟩ := own_slice2 hA
  have HCA : Hid (0 < S.length → ∃ g, ao = some ⟨g, 0, none⟩ ∧ g < W1.heap.size ∧ ∀ j, j < S.length * 2 → W1.cell? ⟨g, j, none⟩ = (S.flatMap spot2)[j]?) := hcA
  clear hA hcA HSP
  have hs1 := b1.size
  go_wp2_with fail
  go_loopw [3, 9] (fun v i wr => ∃ k : Nat, k ≤ S.length ∧ i = .int .i64 k ∧ wr.ownsRow W1.heap.size 3 1 v k ((C.take k).map (Value.int .i64)) ∧ Below W1.heap.size W1 wr) (fun _ i _ => S.length - (intOf i).toNat)
  case atStart => exact ⟨0, Nat.zero_le _, rfl, World.ownsRow_nil _ _ _ _, Below.refl _ _⟩
  case round =>
    obtain ⟨k, hk, rfl, hown, hb⟩ := hrel
    have hb1 := hb.size
    by_cases hlt : k < S.length
    · obtain ⟨g, rfl, hg, hc⟩ := HCA.out (by omega)
      have f1 := flat_spot S k hlt
      have c1 : wr.cell? ⟨g, k * 2, none⟩ = some (.int .i32 S[k].1) := by rw [hb.cell (by exact hg), hc _ (by omega)]; exact f1.1
      have c2 : wr.cell? ⟨g, k * 2 + 1, none⟩ = some (.int .i64 S[k].2) := by rw [hb.cell (by exact hg), hc _ (by omega)]; exact f1.2
      have HX : Hid (C.take (k + 1) = C.take k ++ [S[k].2]) := by
        unfold Hid
        rw [List.take_succ_eq_append_getElem (by omega)]
        congr 2
        have := HSC.out
        subst this
        simp
      clear f1 hc HCA
      generalize S[k] = x at *
      go_wp2_with (at_builtin; refine wpList_append_own _ rfl _ _ 31 rfl W1.heap.size 3 i0 (.int .i64 0) 1 8 Tryd.underlying31 hi hz0 hz1 hz2 rfl (by decide) _ _ _ rfl ((hown.alloc _).alloc _) ⟨wr.heap.size + 1, 0, none⟩ 1 1 [.int .i64 x.2] rfl rfl (by simpa using cell_one_new (wr.alloc _) (.int .i64 x.2) 3) (ints_oneCell .i64 [x.2]) (by unfold maxLen; omega) (by omega) (by simp; omega) ?_; intro v' w2 hown' hgrow hnil)
      go_roundw
      case rel =>
        refine ⟨k + 1, by omega, by go_num, by rw [HX.out]; simpa using hown', ?_⟩
        exact ((hb.alloc (by omega) _).alloc (by simp; omega) _).grown hgrow (by simp; omega) (fun j hj => (hown.lt j hj).1)
      case measure => simp [intOf]; omega
    · have hkk : k = S.length := by omega
      subst hkk
      rw [List.take_of_length_le (by omega)] at hown
      clear HCA
      have b2 := b1.trans (hb.mono hs1)
      clear b1
      go_wp2_with fail
      refine (written_yes _ (HT.out.below b2 hpos)).mono ?_
      rintro e W3 ⟨rfl, b3⟩
      have o3 := own_below hown b3
      have b13 := b2.trans (b3.mono b2.size)
      clear b2 b3 hown hb
      go_wp2_with fail
      refine (HCO.out _ (HT.out.below b13 hpos)).mono ?_
      rintro e W4 ⟨v4, rfl, hV, b4⟩
      have o4 := own_below o3 b4
      have b14 := b13.trans (b4.mono b13.size)
      clear b13 b4 o3
      obtain ⟨co, capC, rfl, hcC⟩ := own_slice hV
      obtain ⟨wo, capW, rfl, hcW⟩ := own_slice o4
      clear hV o4
      go_wp2_with fail
      refine (equal_rows co wo C.length capC capW C _ rfl (by omega) (fun h => ?_) (fun h => ?_)).mono ?_
      · obtain ⟨g, h1, _, h3⟩ := hcC h
        exact ⟨g, h1, h3⟩
      · obtain ⟨g, h1, _, h3⟩ := hcW (by omega)
        exact ⟨g, h1, fun j hj => h3 j (by omega)⟩
      rintro e W5 ⟨rfl, b5⟩
      have b15 := b14.trans (b5.mono b14.size)
      clear b14 b5 hcC hcW
      go_wp2_with fail
      refine (HCL.out _ (HT.out.below b15 hpos)).mono ?_
      rintro e W6 ⟨rfl, b6⟩
      have b16 := b15.trans (b6.mono b15.size)
      clear b15 b6
      go_wp2_with fail
      refine (HCF.out _).mono ?_
      rintro e W7 ⟨rfl, b7⟩
      go_wp2
      go_ret
      exact ⟨rfl, b16.trans (b7.mono b16.size)⟩
end Txt
end Go.Proofs.YtgbenpokncmfmaaDoor
