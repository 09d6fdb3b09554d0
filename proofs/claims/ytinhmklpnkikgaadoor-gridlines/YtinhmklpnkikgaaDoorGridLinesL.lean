/- The reference's LinesOf, and the walk of the law GridLines. -/
import Derived.Test.YtinhmklpnkikgaaDoorGridRefLines
import Derived.Test.YtinhmklpnkikgaaDoorGridLines2
import Derived.Test.YtinhmklpnkikgaaDoorGridded2
import Derived.Test.YtinhmklpnkikgaaDoorGridRef
namespace Go.Proofs.YtinhmklpnkikgaaDoor
open Go.ChangeShapes Go.WideShapes Go.ChangeAt Go.RowKit Go.Maps
namespace Grd
theorem linesL_succ (n k : Nat) (cs : List C) : linesL n (k + 1) cs = linesL n k cs ++ [lineB (rowAt n cs k)] := by simp [linesL, List.range_succ]
theorem linesL_len (n k : Nat) (cs : List C) : (linesL n k cs).length = k := by simp [linesL]
set_option maxHeartbeats 4000000 in
set_option maxRecDepth 100000 in
theorem linesOf_any (n hh b o cx : Nat) (cs : List C) (w : World) (hC : CellsAt w b o cs) (hok : gridErr n hh cs = 0) (hc : cs.length ≤ cx) :
    Calls Tryd.prog 33 #[.agg #[.int .i64 (n : Int), .int .i64 (hh : Int), .slice (some ⟨b, o, none⟩) cs.length cx]] w fun e w' => ∃ v, e = .returned v ∧ w'.ownsRow w.heap.size 9 1 v hh ((linesL n hh cs).map Value.string) ∧ Below w.heap.size w w' := by
  obtain ⟨hs, hL, _⟩ := (gridErr_zero n hh cs).1 hok
  have ⟨p0, p1, p2, p3, p4, p5⟩ := prod_in n hh hs
  have HIN : Hid (∀ y j, y < hh → j < n → 0 ≤ ((rowAt n cs y).getD j z0).1 ∧ ((rowAt n cs y).getD j z0).1 ≤ 1114111) := fun y j hy hj => cellR_in n hh cs hok y j hy hj
  have HL : Hid (cs.length = n * hh) := hL
  obtain ⟨i0, hi, hzz⟩ := Option.map_eq_some_iff.1 info_str
  simp only [Prod.mk.injEq] at hzz
  obtain ⟨hz0, hz1, hz2⟩ := hzz
  have kk : Below w.heap.size w (w.alloc (.cells #[.int .i64 (n : Int), .int .i64 (hh : Int), .slice (some ⟨b, o, none⟩) cs.length cx] 24)) := (Below.refl _ _).alloc (Nat.le_refl _) _
  have HK := rows_any n hh b o cx cs _ (hC.below kk) hs hL hc
  clear hC hok hL p0 p1 hs
  go_enter Tryd.func33, Tryd.ntmps33
  go_wp2_with fail
  refine HK.mono ?_
  rintro e Y1 ⟨v1, vs1, gs1, rfl, ho1, hr1, b1⟩
  have hvl1 : vs1.length = hh := by rw [hr1.1, rowsL_len]
  rw [← hvl1] at ho1
  obtain ⟨G, cap, rest, rfl, hGb, hlc, hcm, hG⟩ := out_of_own ho1 (by omega)
  rw [hvl1] at hlc
  have e1v : vs1.length = hh := hvl1
  simp only [e1v]
  have kN : Below w.heap.size w Y1 := kk.trans (b1.mono kk.size)
  have HR1 : Hid (RowsAt Y1 _ vs1 gs1 (rowsL n cs hh)) := hr1
  have HRW : Hid (∀ k, k < hh → (rowsL n cs hh).getD k [] = rowAt n cs k) := fun k hk => by simp [rowsL, List.getD, hk]
  clear e1v ho1 hr1 HK b1 kk
  go_wp2_with fail
  go_loopg [3, 9] hh (fun q v i wr => ∃ k : Nat, i = .int .i64 (k : Int) ∧ k ≤ hh ∧ hh - k ≤ q ∧ wr.ownsRow Y1.heap.size 9 1 v k ((linesL n k cs).map Value.string) ∧ Below Y1.heap.size Y1 wr)
  case atStart => exact ⟨0, rfl, by omega, by omega, World.ownsRow_nil _ _ _ _, Below.refl _ _⟩
  case round =>
    obtain ⟨k, rfl, hk, hq, hown, hb⟩ := hrel
    have HO : Hid (wr.ownsRow Y1.heap.size 9 1 _ k ((linesL n k cs).map Value.string)) := hown
    clear hown
    by_cases hlt : k < hh
    · have lt1 : ((k : Int) < (hh : Int)) := by omega
      have hrow := ((HR1.out.below hb).2.2.2 k (by rw [rowsL_len]; exact hlt)).2
      rw [HRW.out k hlt] at hrow
      have hrl := row_len n hh cs k HL.out hlt
      have hcell := out_cell (carry hG hb) k (by omega)
      have hce := hrow.cells
      obtain ⟨cp, rs, hvk, _, _, _⟩ := hrow
      rw [hvk, hrl] at hcell
      have KL := lineOf_any (gs1.getD k 0) 0 cp (rowAt n cs k) wr hce (by rw [hrl]; omega) (fun j hj => HIN.out k j hlt (by rw [hrl] at hj; exact hj))
      rw [hrl] at KL
      have HKL : Hid (Calls Tryd.prog 53 #[.slice (some ⟨gs1.getD k 0, 0, none⟩) n cp] wr fun e w' => e = .returned (.string (lineB (rowAt n cs k))) ∧ Below wr.heap.size wr w') := KL
      have hfrom := own_from HO.out
      clear KL hce hvk hrl
      generalize gs1.getD k 0 = gk0 at *
      go_wp2_with fail
      refine HKL.out.mono ?_
      rintro e W2 ⟨rfl, b2⟩
      have hown2 : W2.ownsRow Y1.heap.size 9 1 _ k ((linesL n k cs).map Value.string) := ownsRow_below HO.out b2
      have kb2 := hb.trans (b2.mono hb.size)
      have hsz2 := kb2.size
      go_wp2_with (at_builtin; refine wpList_append_own _ rfl _ _ 60 rfl Y1.heap.size 9 i0 (.string ByteArray.empty) 1 16 und_strs hi hz0 hz1 hz2 rfl (by decide) _ _ _ rfl (hown2.alloc _) ⟨W2.heap.size, 0, none⟩ 1 1 [.string (lineB (rowAt n cs k))] rfl rfl (cell_one_new _ _ _) (by intro u hu; simp at hu; rw [hu]; rfl) (by unfold maxLen; omega) (by omega) (by simp; omega) ?_
                   intro v3 W3 hown3 hgrow hnil)
      go_roundg (hh - (k + 1))
      case measure => omega
      case rel =>
        refine ⟨k + 1, rfl, by omega, by omega, ?_, (kb2.alloc kb2.size _).grown hgrow (by simp; omega) (fun q hq => by have := hfrom q hq; omega)⟩
        rw [linesL_succ, List.map_append]
        exact hown3
    · have lt1 : ¬ ((k : Int) < (hh : Int)) := by omega
      have hkh : k = hh := by omega
      subst hkh
      go_wp2_with fail
      go_ret
      exact ⟨_, rfl, ownsRow_mono HO.out kN.size, kN.trans (hb.mono kN.size)⟩
set_option maxHeartbeats 4000000 in
theorem gridLines_bad (a h : Int) (v : Value) (cs : List C) (w : World) (hT : Txt.Tab w) (hS : SliceAt w v cs) (hok : gridErr a h cs ≠ 0) :
    Calls Tryd.prog 8 #[.agg #[.int .i64 a, .int .i64 h, v]] w fun e w' => e = .returned (.bool true) ∧ Below w.heap.size w w' := by
  have HT : Hid (∀ W, Below w.heap.size w W → Txt.Tab W) := fun W k => Tab.next hT k
  have kk : Below w.heap.size w (w.alloc (.cells #[.int .i64 a, .int .i64 h, v] 24)) := (Below.refl _ _).alloc (Nat.le_refl _) _
  have x0 := heap_alloc_new w (.cells #[.int .i64 a, .int .i64 h, v] 24)
  have HB := lines_bad a h v cs _ (Tab.next hT kk) (hS.below kk) hok
  have HC := fun W k => ref_any a h v cs W (hS.below (w' := W) k)
  generalize gridErr a h cs = er at *
  have HC' : Hid (∀ W, Below w.heap.size w W → Calls Tryd.prog 12 #[.agg #[.int .i64 a, .int .i64 h, v]] W fun e w' => e = .returned (.int .i64 er) ∧ Below W.heap.size W w') := HC
  have ne : (er != 0) = true := by simpa using hok
  have nee : (er == er) = true := by simp
  clear hT hS hok HC
  go_enter Tryd.func8, Tryd.ntmps8
  go_wp2_with fail
  refine HB.mono ?_
  rintro e W1 ⟨rfl, b1⟩
  have k1 := kk.trans (b1.mono kk.size)
  obtain ⟨c0, c1, c2, _⟩ := cells3 (carry x0 b1)
  go_wp2_with fail
  refine (HC'.out _ k1).mono ?_
  rintro e W2 ⟨rfl, b2⟩
  have k2 := k1.trans (b2.mono k1.size)
  go_wp2_with fail
  refine (gridded_any _ (HT.out _ k2)).mono ?_
  rintro e W3 ⟨rfl, b3⟩
  have k3 := k2.trans (b3.mono k2.size)
  go_wp2_with fail
  refine (gridded_any _ (HT.out _ k3)).mono ?_
  rintro e W4 ⟨rfl, b4⟩
  have k4 := k3.trans (b4.mono k3.size)
  go_wp2_with fail
  go_ret
  exact ⟨rfl, k4⟩
set_option maxHeartbeats 4000000 in
theorem gridLines_good (n hh b o cx : Nat) (cs : List C) (w : World) (hT : Txt.Tab w) (hC : CellsAt w b o cs) (hc : cs.length ≤ cx) (hm : cx ≤ 9223372036854775807) (hok : gridErr n hh cs = 0) :
    Calls Tryd.prog 8 #[.agg #[.int .i64 (n : Int), .int .i64 (hh : Int), .slice (some ⟨b, o, none⟩) cs.length cx]] w fun e w' => e = .returned (.bool true) ∧ Below w.heap.size w w' := by
  have ⟨_, _, _, _, p4, p5⟩ := prod_in n hh ((gridErr_zero n hh cs).1 hok).1
  have HT : Hid (∀ W, Below w.heap.size w W → Txt.Tab W) := fun W k => Tab.next hT k
  have kk : Below w.heap.size w (w.alloc (.cells #[.int .i64 (n : Int), .int .i64 (hh : Int), .slice (some ⟨b, o, none⟩) cs.length cx] 24)) := (Below.refl _ _).alloc (Nat.le_refl _) _
  have x0 := heap_alloc_new w (.cells #[.int .i64 (n : Int), .int .i64 (hh : Int), .slice (some ⟨b, o, none⟩) cs.length cx] 24)
  have HB := lines_good n hh b o cx cs _ (Tab.next hT kk) (hC.below kk) hok hc hm
  have hne : cs ≠ [] := by
    intro h
    obtain ⟨hsize, hL, _⟩ := (gridErr_zero n hh cs).1 hok
    have ⟨_, _, p2, _, _, _⟩ := prod_in n hh hsize
    rw [h, List.length_nil] at hL
    have : 0 < n * hh := Nat.mul_pos (by omega) (by omega)
    omega
  have HC' : Hid (∀ W, Below w.heap.size w W → Calls Tryd.prog 12 #[.agg #[.int .i64 (n : Int), .int .i64 (hh : Int), .slice (some ⟨b, o, none⟩) cs.length cx]] W fun e w' => e = .returned (.int .i64 0) ∧ Below W.heap.size W w') := fun W k => by
    have := ref_any n hh _ cs W (.inr ⟨hne, b, o, cx, rfl, hc, hm, hC.below k⟩)
    rwa [hok] at this
  have HLO : Hid (∀ W, Below w.heap.size w W → Calls Tryd.prog 33 #[.agg #[.int .i64 (n : Int), .int .i64 (hh : Int), .slice (some ⟨b, o, none⟩) cs.length cx]] W fun e w' => ∃ v, e = .returned v ∧ w'.ownsRow W.heap.size 9 1 v hh ((linesL n hh cs).map Value.string) ∧ Below W.heap.size W w') := fun W k => linesOf_any n hh b o cx cs W (hC.below k) hok hc
  have hll := linesL_len n hh cs
  have HLL : Hid ((linesL n hh cs).length = hh) := hll
  generalize linesL n hh cs = ls at *
  clear hT hC hok hc hm hne hll
  go_enter Tryd.func8, Tryd.ntmps8
  go_wp2_with fail
  refine HB.mono ?_
  rintro e W1 ⟨_, rfl, ⟨g1, t1, rfl, hg1, h1⟩, b1⟩
  have k1 := kk.trans (b1.mono kk.size)
  have e1l : ls.length = hh := HLL.out
  simp only [e1l]
  clear e1l
  have y0 := carry x0 b1
  obtain ⟨c0, c1, c2, _⟩ := cells3 y0
  go_wp2_with fail
  refine (HC'.out _ k1).mono ?_
  rintro e W2 ⟨rfl, b2⟩
  have k2 := k1.trans (b2.mono k1.size)
  have h2 := carry h1 b2
  have y2 := carry y0 b2
  go_wp2_with fail
  refine (gridded_any _ (HT.out _ k2)).mono ?_
  rintro e W3 ⟨rfl, b3⟩
  have k3 := k2.trans (b3.mono k2.size)
  have h3 := carry h2 b3
  obtain ⟨d0, d1, d2, _⟩ := cells3 (carry y2 b3)
  clear c0 c1 c2
  go_wp2_with fail
  refine (HLO.out _ k3).mono ?_
  rintro e W4 ⟨v4, rfl, ho4, b4⟩
  have k4 := k3.trans (b4.mono k3.size)
  have h4 := carry h3 b4
  obtain ⟨_, hnil | ⟨g4, c4, cur4, rfl, hg4, hh4, hc4, hm4, hs4, htk4⟩⟩ := ho4
  · omega
  rw [Nat.mul_one] at htk4
  have KE := Tryd.slices_Equal_string g1 0 hh hh g4 0 hh c4 ls ls W4 (by rw [HLL.out]; exact Nat.le_refl _) (by rw [HLL.out]; exact Nat.le_refl _) (by omega) (by omega)
    (fun j hj => by
      unfold World.cell?
      rw [h4]
      simp [hj, List.getD])
    (fun j hj => by
      have hj2 : j < hh := by rw [HLL.out] at hj; exact hj
      have e : cur4.toList[j]? = (ls.map Value.string)[j]? := by rw [← htk4, List.getElem?_take, if_pos hj2]
      unfold World.cell?
      rw [hh4]
      simp only [Nat.zero_add]
      rw [← Array.getElem?_toList, e]
      simp [hj, List.getD])
  have hdec : decide (ls.take hh = ls.take hh) = true := by simp
  rw [hdec] at KE
  clear hh4 htk4 h4 hs4
  go_wp2_with fail
  refine KE.mono ?_
  rintro e W5 ⟨rfl, q, rfl⟩
  go_wp2_with fail
  go_ret
  exact ⟨rfl, k4.trans ⟨rfl, rfl, rfl, Nat.le_refl _, fun _ _ => rfl⟩⟩
theorem gridLines_walk (a h : Int) (v : Value) (cs : List C) (w : World) (hT : Txt.Tab w) (hS : SliceAt w v cs) :
    Calls Tryd.prog 8 #[.agg #[.int .i64 a, .int .i64 h, v]] w fun e w' => e = .returned (.bool true) ∧ Below w.heap.size w w' := by
  by_cases hok : gridErr a h cs = 0
  · have hs : isSize a h = true := by
      unfold gridErr at hok
      by_cases hc : isSize a h = false ∨ (cs.length : Int) ≠ a * h
      · rw [if_pos hc] at hok; exact absurd hok (by decide)
      · simpa using (not_or.1 hc).1
    have ⟨_, _, p2, _, p4, _⟩ := prod_in a h hs
    obtain ⟨n, rfl⟩ := Int.eq_ofNat_of_zero_le (show 0 ≤ a by omega)
    obtain ⟨hh, rfl⟩ := Int.eq_ofNat_of_zero_le (show 0 ≤ h by omega)
    rcases hS with ⟨rfl, _⟩ | ⟨_, b, o, c, rfl, h1, h2, h3⟩
    · obtain ⟨_, hL, _⟩ := (gridErr_zero n hh []).1 hok
      have : 0 < n * hh := Nat.mul_pos (by omega) (by omega)
      rw [List.length_nil] at hL
      omega
    · exact gridLines_good n hh b o c cs w hT h3 h1 h2 hok
  · exact gridLines_bad a h v cs w hT hS hok
end Grd
end Go.Proofs.YtinhmklpnkikgaaDoor
