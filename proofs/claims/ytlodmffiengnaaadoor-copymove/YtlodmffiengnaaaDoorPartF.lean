/- The reference's EndOf. -/
import Derived.Test.YtlodmffiengnaaaDoorPartE
import Derived.Test.YtlodmffiengnaaaDoorPartD
import Derived.Shelf.SlSorted.Search
import Derived.BigQuiet
import Derived.Deep.RegionWith
import Derived.Deep.CutRange
import Derived.Deep.DeepCutAuto
namespace Go.Proofs.YtlodmffiengnaaaDoor
open Go.ChangeShapes Go.WideShapes Go.ChangeAt Go.RowKit Go.Maps
namespace Cpy
open Txt (runes wd spotsL)
theorem own_slice2 {w : World} {base : Nat} {e : TypeId} {v : Value} {n : Nat} {xs : List Value} (h : w.ownsRow base e 2 v n xs) :
    ∃ ao cap, v = .slice ao n cap ∧ (0 < n → ∃ g, ao = some ⟨g, 0, none⟩ ∧ g < w.heap.size ∧ ∀ j, j < n * 2 → w.cell? ⟨g, j, none⟩ = xs[j]?) := by
  rcases h.2 with ⟨rfl, rfl⟩ | ⟨g, cap, cur, rfl, hb, hh, hr⟩
  · exact ⟨none, 0, rfl, fun h => absurd h (Nat.lt_irrefl _)⟩
  · exact ⟨some ⟨g, 0, none⟩, cap, rfl, fun _ => ⟨g, rfl, (Array.getElem?_eq_some_iff.1 hh).1, fun j hj => h.cellAt j hj⟩⟩
theorem flat_spot : ∀ (l : List (Int × Int)) (k : Nat) (h : k < l.length), (l.flatMap Txt.spot2)[k * 2]? = some (.int .i32 l[k].1) ∧ (l.flatMap Txt.spot2)[k * 2 + 1]? = some (.int .i64 l[k].2)
  | y :: t, 0, _ => ⟨rfl, rfl⟩
  | y :: t, k + 1, h => by
    have := flat_spot t k (by simpa using h)
    rw [show (k + 1) * 2 = k * 2 + 1 + 1 from by omega]
    simpa [List.flatMap_cons, Txt.spot2] using this
/-- Spots in memory. -/
theorem spot_cells {w : World} {base : Nat} {v : Value} {S : List (Int × Int)} (h : w.ownsRow base 42 2 v S.length (S.flatMap Txt.spot2)) :
    ∃ a c, v = .slice a S.length c ∧ (S = [] ∨ ∃ g, a = some ⟨g, 0, none⟩ ∧ ∀ (i : Nat) (hi : i < S.length), w.cell? ⟨g, i * 2, none⟩ = some (.int .i32 S[i].1) ∧ w.cell? ⟨g, i * 2 + 1, none⟩ = some (.int .i64 S[i].2)) := by
  obtain ⟨a, c, rfl, hc⟩ := own_slice2 h
  refine ⟨a, c, rfl, ?_⟩
  by_cases h0 : S = []
  · exact .inl h0
  · right
    obtain ⟨g, rfl, _, hg⟩ := hc (List.length_pos_iff.2 h0)
    refine ⟨g, rfl, fun i hi => ?_⟩
    obtain ⟨f1, f2⟩ := flat_spot S i hi
    exact ⟨(hg (i * 2) (by omega)).trans f1, (hg (i * 2 + 1) (by omega)).trans f2⟩
theorem w64_last {n : Nat} (h : n ≤ 1000000) (h0 : 0 < n) : wrap64 ((n : Int) - 1) = ((n - 1 : Nat) : Int) := by unfold wrap64; omega
set_option maxHeartbeats 4000000 in
set_option maxRecDepth 100000 in
theorem endOf_any (s : ByteArray) (w : World) (hs : s.size ≤ 4000) :
    Calls Tryd.prog 32 #[.string s] w fun e w' => e = .returned (.int .i64 (endI (cols s))) ∧ Below w.heap.size w w' := by
  have HS := Txt.spots_any s w (by omega)
  have hl := sp_len s
  rw [show spotsL (runes s) 0 = sp s from rfl] at HS
  by_cases h0 : (sp s).length = 0
  · have e0 : sp s = [] := List.length_eq_zero_iff.1 h0
    have e1 : endI (cols s) = 0 := by unfold cols; rw [e0]; rfl
    rw [e1]
    rw [e0] at HS
    clear hl h0 e0 e1
    go_enter Tryd.func32, Tryd.ntmps32
    go_wp2_with fail
    refine HS.mono ?_
    rintro e W ⟨v, rfl, hown, bW⟩
    obtain ⟨a, c, rfl, _⟩ := spot_cells (S := []) hown
    go_wp2_with fail
    go_ret
    exact ⟨rfl, bW⟩
  · have hpos : 0 < (sp s).length := by omega
    have hlt : (sp s).length - 1 < (sp s).length := by omega
    have hE : endI (cols s) = ((sp s)[(sp s).length - 1]).2 := by
      rw [endI_get (cols s) (by rw [cols_len]; exact hpos)]
      unfold cols
      simp only [List.length_map, List.getElem_map]
    rw [hE]
    have HE : Hid (∀ S : List (Int × Int), S = sp s → S.length = (sp s).length) := fun S e => by rw [e]
    have i0 : (0 : Int) < ((sp s).length : Int) := by omega
    have il : (((sp s).length - 1 : Nat) : Int) < ((sp s).length : Int) := by omega
    have hw := w64_last (Nat.le_trans hl (Nat.le_trans hs (by decide))) hpos
    clear hE
    go_enter Tryd.func32, Tryd.ntmps32
    go_wp2_with fail
    refine HS.mono ?_
    rintro e W ⟨v, rfl, hown, bW⟩
    obtain ⟨a, c, rfl, hc⟩ := spot_cells hown
    obtain ⟨g, rfl, hg⟩ := hc.resolve_left (by intro e; rw [e] at hpos; simp at hpos)
    have q := (hg _ hlt).2
    clear hc hg hown HS
    go_wp2_with fail
    go_ret
    exact ⟨rfl, bW⟩
end Cpy
end Go.Proofs.YtlodmffiengnaaaDoor

/- The shelf's contract for sort.Search, laid at this program by hand. -/
namespace Go.Proofs
open Go.Shelf
def Tryd.laysO16_ren : Go.Shelf.Ren := ⟨fun | 16 => 47 | n => n, fun | 3 => 3 | 35 => 88 | 4 => 4 | 38 => 95 | n => n, fun | n => n⟩
theorem Tryd.laysO16 : Go.Proofs.SlLaysO.n16 Tryd.prog Tryd.laysO16_ren := {
  mixed := by kernel_rfl
  f16 := Tryd.func47.trans (congrArg some (by kernel_rfl))
  t3 := Tryd.underlying3
  a3 := Tryd.isAgg3
  z3 := Tryd.sizeOf3
  v3 := Tryd.zeroValue3
  t4 := Tryd.underlying4
  a4 := Tryd.isAgg4
  z4 := Tryd.sizeOf4
  v4 := Tryd.zeroValue4
  t35 := Tryd.underlying88
  a35 := Tryd.isAgg88
  z35 := Tryd.sizeOf88
  v35 := Tryd.zeroValue88
  t38 := Tryd.underlying95
  a38 := Tryd.isAgg95
  z38 := Tryd.sizeOf95
  v38 := Tryd.zeroValue95 }
end Go.Proofs

/- The reference's SpotAt. -/
namespace Go.Proofs.YtlodmffiengnaaaDoor
open Go.ChangeShapes Go.WideShapes Go.ChangeAt Go.RowKit Go.Maps Go.Sort
namespace Cpy
theorem range_getD : ∀ (l : List Int), (List.range l.length).map (fun i => l.getD i 0) = l
  | l => by
    apply List.ext_getElem
    · simp
    · intro i h1 h2
      rw [List.getElem_map, List.getElem_range, List.getD_eq_getElem?_getD, List.getElem?_eq_getElem h2]
      rfl
theorem range_count (l : List Int) (x : Int) : (List.range l.length).countP (fun i => !decide (x < l.getD i 0)) = l.countP (fun y => decide (y ≤ x)) := by
  conv => rhs; rw [← range_getD l]
  rw [List.countP_map]
  congr 1
  funext i
  simp only [Function.comp]
  by_cases h : x < l.getD i 0
  · rw [decide_eq_true h, decide_eq_false (by omega)]; rfl
  · rw [decide_eq_false h, decide_eq_true (by omega)]; rfl
theorem enters_spotAt : ∀ args w, (callFunc 48 args).run Tryd.prog w = .ok (.enter 48 args) w := enters_of Tryd.func48 (by kernel_rfl) rfl
set_option maxHeartbeats 4000000 in
set_option maxRecDepth 100000 in
theorem spotAt1_any (A B g c : Nat) (S : List (Int × Int)) (x : Int) (i : Nat) (hi : i < S.length) (W : World) (hA : W.cell? ⟨A, 0, none⟩ = some (.slice (some ⟨g, 0, none⟩) S.length c)) (hB : W.cell? ⟨B, 0, none⟩ = some (.int .i64 x)) (q : W.cell? ⟨g, i * 2 + 1, none⟩ = some (.int .i64 S[i].2)) :
    Calls Tryd.prog 48 #[.int .i64 i, .pointer (some ⟨A, 0, none⟩), .pointer (some ⟨B, 0, none⟩)] W fun e w' => e = .returned (.bool (decide (x < S[i].2))) ∧ ∃ z, w' = W.drewN z := by
  have ii : (i : Int) < (S.length : Int) := by omega
  generalize S[i].2 = cl at *
  go_enter Tryd.func48, Tryd.ntmps48
  go_wp2_with fail
  go_quiet (fail)
  go_wp2_with fail
  go_ret
  exact ⟨rfl, _, rfl⟩
set_option maxHeartbeats 4000000 in
set_option maxRecDepth 100000 in
theorem spotAt_any (base : Nat) (v : Value) (S : List (Int × Int)) (x : Int) (w : World) (h : w.ownsRow base 42 2 v S.length (S.flatMap Txt.spot2)) (hS : (S.map (·.2)).Pairwise (· < ·)) (hn : S.length ≤ 1000000) :
    Calls Tryd.prog 31 #[v, .int .i64 x] w fun e w' => e = .returned (.int .i64 (atI (S.map (·.2)) x)) ∧ Below w.heap.size w w' := by
  obtain ⟨a, c, rfl, hc⟩ := spot_cells h
  have kb : Below w.heap.size w ((w.alloc (.cells #[.slice a S.length c] 39)).alloc (.cells #[.int .i64 x] 3)) := ((Below.refl _ _).alloc (Nat.le_refl _) _).alloc (by simp only [World.size_alloc]; omega) _
  have hX : ((w.alloc (.cells #[.slice a S.length c] 39)).alloc (.cells #[.int .i64 x] 3)).cell? ⟨w.heap.size + 1, 0, none⟩ = some (.int .i64 x) := by
    have := heap_alloc_new (w.alloc (.cells #[.slice a S.length c] 39)) (.cells #[.int .i64 x] 3)
    rw [World.size_alloc] at this
    unfold World.cell?
    rw [this]
    rfl
  have hV : ((w.alloc (.cells #[.slice a S.length c] 39)).alloc (.cells #[.int .i64 x] 3)).cell? ⟨w.heap.size, 0, none⟩ = some (.slice a S.length c) := by
    have := (heap_alloc_old (w.alloc (.cells #[.slice a S.length c] 39)) (.cells #[.int .i64 x] 3) (r := w.heap.size) (by simp only [World.size_alloc]; omega)).trans (heap_alloc_new w (.cells #[.slice a S.length c] 39))
    unfold World.cell?
    rw [this]
    rfl
  have HS := Any.sort_Search Tryd.laysO16 48 #[.pointer (some ⟨w.heap.size, 0, none⟩), .pointer (some ⟨w.heap.size + 1, 0, none⟩)] S.length (fun i => decide (x < (S.map (·.2)).getD i 0)) ((w.alloc (.cells #[.slice a S.length c] 39)).alloc (.cells #[.int .i64 x] 3)) enters_spotAt (by omega) (fun m os i hi => by
    have hb := below_grown_sl _ ((w.alloc (.cells #[.slice a S.length c] 39)).alloc (.cells #[.int .i64 x] 3)) m os (Nat.le_refl _)
    obtain ⟨g, rfl, hg⟩ := hc.resolve_left (by intro e; rw [e] at hi; simp at hi)
    have q := CK.below hb _ _ _ (CK.below kb _ _ _ (hg i hi).2)
    have hd : (S.map (·.2)).getD i 0 = S[i].2 := by
      rw [List.getD_eq_getElem?_getD, List.getElem?_map, List.getElem?_eq_getElem hi]
      rfl
    simp only [hd]
    refine (spotAt1_any w.heap.size (w.heap.size + 1) g c S x i hi _ (CK.below hb _ _ _ hV) (CK.below hb _ _ _ hX) q).mono ?_
    rintro e w' ⟨rfl, z, rfl⟩
    exact ⟨rfl, z, #[], (grow_empty _).symm⟩) (by
    intro p q hpq hq hp
    have e1 : (S.map (·.2)).getD p 0 ≤ (S.map (·.2)).getD q 0 := by
      have hq' : q < (S.map (·.2)).length := by rw [List.length_map]; exact hq
      have hp' : p < (S.map (·.2)).length := by omega
      rw [List.getD_eq_getElem?_getD, List.getD_eq_getElem?_getD, List.getElem?_eq_getElem hq', List.getElem?_eq_getElem hp']
      by_cases e : p = q
      · subst e; exact Int.le_refl _
      · exact Int.le_of_lt (List.pairwise_iff_getElem.1 hS p q hp' hq' (by omega))
    have := of_decide_eq_true hp
    exact decide_eq_true (by omega))
  rw [show S.length = (S.map (·.2)).length by simp, range_count, List.length_map] at HS
  have hcnt := List.countP_le_length (p := fun y => decide (y ≤ x)) (l := S.map (·.2))
  rw [List.length_map] at hcnt
  have HR : Hid (atI (S.map (·.2)) x = (((S.map (·.2)).countP (fun y => decide (y ≤ x)) : Nat) : Int) - 1) := rfl
  generalize (S.map (·.2)).countP (fun y => decide (y ≤ x)) = n at *
  have hw : wrap64 ((n : Int) - 1) = (n : Int) - 1 := by
    clear HR HS
    unfold wrap64
    omega
  have HKB : Hid (∀ z os, Below w.heap.size w (grow (((w.alloc (.cells #[.slice a S.length c] 39)).alloc (.cells #[.int .i64 x] 3)).drewN z) os)) := fun z os => kb.trans ((below_grown_sl _ _ z os (Nat.le_refl _)).mono kb.size)
  have HN : Hid (∀ i : Int, i = (n : Int) - 1 → atI (S.map (·.2)) x = i) := fun i e => by rw [e]; exact HR.out
  clear h hc hS hcnt kb
  go_enter Tryd.func31, Tryd.ntmps31
  go_wp2_with fail
  refine HS.mono ?_
  rintro e W ⟨rfl, z, os, rfl⟩
  go_wp2_with fail
  go_ret
  exact ⟨ret_i (hw.trans (HN.out _ rfl).symm), HKB.out z os⟩
end Cpy
end Go.Proofs.YtlodmffiengnaaaDoor

/- Package copying: Check. -/
namespace Go.Proofs.YtlodmffiengnaaaDoor
open Go.ChangeShapes Go.WideShapes Go.ChangeAt Go.RowKit Go.Maps
namespace Cpy
set_option maxHeartbeats 1000000 in
set_option maxRecDepth 100000 in
theorem long_any (s : ByteArray) (w : World) :
    Calls Tryd.prog 29 #[.string s] w fun e w' => e = .returned (.bool (long s)) ∧ w' = w := by
  go_enter Tryd.func29, Tryd.ntmps29
  go_wp2_with fail
  go_ret
  exact ⟨ret_b (by unfold long; rw [decide_eq_decide]; omega), rfl⟩
set_option maxHeartbeats 4000000 in
set_option maxRecDepth 100000 in
theorem isPlace_any (a : Option Addr) (n c : Nat) (x y : Int) (w : World) :
    Calls Tryd.prog 30 #[.slice a n c, .agg #[.int .i64 x, .int .i64 y]] w fun e w' => e = .returned (.bool (okM n x y)) ∧ Below w.heap.size w w' := by
  have kb : Below w.heap.size w (w.alloc (.cells #[.int .i64 x, .int .i64 y] 24)) := (Below.refl _ _).alloc (Nat.le_refl _) _
  have HH : Hid (okM n x y = (decide (0 ≤ y) && decide (y < n) && decide (0 ≤ x) && decide (x ≤ 120))) := rfl
  go_enter Tryd.func30, Tryd.ntmps30
  cases h1 : decide (0 ≤ y)
  · rw [h1] at HH
    go_wp2_with fail
    go_ret
    exact ⟨ret_b (by rw [HH.out]; rfl), kb⟩
  cases h2 : decide (y < n)
  · rw [h1, h2] at HH
    go_wp2_with fail
    go_ret
    exact ⟨ret_b (by rw [HH.out]; rfl), kb⟩
  cases h3 : decide (0 ≤ x)
  · rw [h1, h2, h3] at HH
    go_wp2_with fail
    go_ret
    exact ⟨ret_b (by rw [HH.out]; rfl), kb⟩
  rw [h1, h2, h3] at HH
  go_wp2_with fail
  go_ret
  exact ⟨ret_b (by rw [HH.out]; simp), kb⟩
/-- Where a text that is too long stands first, from the i-th on; -1: nowhere. -/
def idxL : List ByteArray → Nat → Int
  | [], _ => -1
  | s :: t, i => if long s then (i : Int) else idxL t (i + 1)
theorem idxL_ge : ∀ (l : List ByteArray) (i : Nat), decide (0 ≤ idxL l i) = l.any long
  | [], _ => rfl
  | s :: t, i => by
    unfold idxL
    cases h : long s
    · rw [if_neg (by simp), idxL_ge t (i + 1)]; simp [h]
    · rw [if_pos rfl]; simp [h]
set_option maxHeartbeats 4000000 in
set_option maxRecDepth 100000 in
theorem idx_any (L : List ByteArray) (v : Value) (w : World) (hs : LsAt w v L) (hL : L.length ≤ 3000000) :
    Calls Tryd.prog 46 #[v, .func (.func 29) #[] #[]] w fun e w' => e = .returned (.int .i64 (idxL L 0)) ∧ Below w.heap.size w w' := by
  obtain ⟨R, hR⟩ : ∃ R, idxL L 0 = R := ⟨_, rfl⟩
  rw [hR]
  have HR : Hid (idxL L 0 = R) := hR
  clear hR
  obtain ⟨a, c, rfl, hcell⟩ := hs
  have HCC : Hid (L = [] ∨ ∃ b o, a = some ⟨b, o, none⟩ ∧ ∀ j x, L[j]? = some x → w.cell? ⟨b, o + j, none⟩ = some (.string x)) := hcell
  clear hcell
  go_enter Tryd.func46, Tryd.ntmps46
  go_wp2_with fail
  go_loopg [8] L.length (fun g u wr => ∃ i : Nat, u = .int .i64 (i : Int) ∧ i ≤ L.length ∧ L.length - i ≤ g ∧ idxL (L.drop i) i = R ∧ Below w.heap.size w wr)
  case atStart => exact ⟨0, rfl, Nat.zero_le _, Nat.le_refl _, HR.out, Below.refl _ _⟩
  case round =>
    obtain ⟨i, rfl, hi, hg, hix, hb⟩ := hrel
    have HX : Hid (idxL (L.drop i) i = R) := hix
    clear hix HR
    by_cases hil : i < L.length
    · have iin : (i : Int) < (L.length : Int) := by omega
      obtain ⟨b, o, rfl, hc⟩ := HCC.out.resolve_left (by intro h; rw [h] at hil; simp at hil)
      have q := (CK.below hb) _ _ _ (hc i L[i] (List.getElem?_eq_getElem hil))
      have hd : L.drop i = L[i] :: L.drop (i + 1) := List.drop_eq_getElem_cons hil
      have HXX := HX.out
      rw [hd, idxL] at HXX
      generalize L[i] = x at *
      cases hp : long x
      · rw [hp] at HXX
        simp only [Bool.false_eq_true, if_false] at HXX
        have HX2 : Hid (idxL (L.drop (i + 1)) (i + 1) = R) := HXX
        have HL := fun W => long_any x W
        rw [hp] at HL
        clear hd HX HXX hc HCC hp
        go_wp2_with fail
        refine (HL _).mono ?_
        rintro e W1 ⟨rfl, rfl⟩
        go_wp2_with fail
        go_roundg (L.length - (i + 1))
        case measure => omega
        case rel => exact ⟨i + 1, by go_num, by omega, Nat.le_refl _, HX2.out, hb⟩
      · rw [hp] at HXX
        simp only [if_true] at HXX
        have HL := fun W => long_any x W
        rw [hp] at HL
        subst HXX
        clear hd HX hc HCC hp
        go_wp2_with fail
        refine (HL _).mono ?_
        rintro e W1 ⟨rfl, rfl⟩
        go_wp2_with fail
        go_ret
        exact ⟨rfl, hb⟩
    · have iex : ¬ (i : Int) < (L.length : Int) := by omega
      have e : R = -1 := by
        rw [← HX.out, List.drop_of_length_le (by omega)]
        rfl
      subst e
      clear HX hil
      go_wp2_with fail
      go_ret
      exact ⟨rfl, hb⟩
set_option maxHeartbeats 4000000 in
set_option maxRecDepth 100000 in
theorem hasLong_any (L : List ByteArray) (v : Value) (w : World) (hs : LsAt w v L) (hL : L.length ≤ 3000000) :
    Calls Tryd.prog 28 #[v, .func (.func 29) #[] #[]] w fun e w' => e = .returned (.bool (L.any long)) ∧ Below w.heap.size w w' := by
  have HI := idx_any L v w hs hL
  rw [← idxL_ge L 0]
  generalize idxL L 0 = R at *
  clear hs
  go_enter Tryd.func28, Tryd.ntmps28
  go_wp2_with fail
  refine HI.mono ?_
  rintro e W ⟨rfl, bW⟩
  go_wp2_with fail
  go_ret
  exact ⟨rfl, bW⟩
set_option maxHeartbeats 4000000 in
set_option maxRecDepth 100000 in
/-- Check, of lines of any number and any length, and of any place. -/
theorem check_any (L : List ByteArray) (v : Value) (k : Cp) (w : World) (hs : LsAt w v L) :
    Calls Tryd.prog 10 #[v, .agg k.cells] w fun e w' => e = .returned (.int .i64 (chk L k)) ∧ Below w.heap.size w w' := by
  have kb : Below w.heap.size w (w.alloc (.cells k.cells 26)) := (Below.refl _ _).alloc (Nat.le_refl _) _
  have HS : Hid (LsAt w v L) := hs
  obtain ⟨a, c, rfl, _⟩ := hs
  obtain ⟨R, hR⟩ : ∃ R, chk L k = R := ⟨_, rfl⟩
  rw [hR]
  unfold chk okL at hR
  obtain ⟨x, y, fx, fy, on⟩ := k
  simp only [Cp.cells] at *
  have f0 : ∀ i, (w.alloc (.cells #[.int .i64 x, .int .i64 y, .int .i64 fx, .int .i64 fy, .bool on] 26)).cell? ⟨w.heap.size, i, none⟩ = (#[Value.int .i64 x, .int .i64 y, .int .i64 fx, .int .i64 fy, .bool on] : Array Value)[i]? := by
    intro i
    unfold World.cell?
    rw [heap_alloc_new]
    rfl
  have c0 := f0 0
  have c1 := f0 1
  have c2 := f0 2
  have c3 := f0 3
  simp only [List.getElem?_toArray, List.getElem?_cons_zero, List.getElem?_cons_succ] at c0 c1 c2 c3
  clear f0
  go_enter Tryd.func10, Tryd.ntmps10
  by_cases h1 : 1 ≤ L.length
  · by_cases h2 : L.length ≤ 110
    · have H := fun W (h : Below w.heap.size w W) => hasLong_any L _ W (HS.out.below h) (by omega)
      have i1 : ¬ (L.length : Int) < 1 := by omega
      have i2 : ¬ (110 : Int) < (L.length : Int) := by omega
      rw [decide_eq_true h1, decide_eq_true h2] at hR
      clear h1 h2
      cases h3 : L.any long
      · rw [h3] at H hR
        have P1 := fun W => isPlace_any a L.length c x y W
        have P2 := fun W => isPlace_any a L.length c fx fy W
        cases h4 : okM L.length x y
        · rw [h4] at P1 hR
          simp only [Bool.not_false, Bool.and_self, Bool.false_and, Bool.false_eq_true, if_true, if_false] at hR
          subst hR
          clear P2 h3 h4
          go_wp2_with fail
          refine (H _ kb).mono ?_
          rintro e W ⟨rfl, bW⟩
          have k2 := kb.trans (bW.mono kb.size)
          have d0 := (CK.below bW) _ _ _ c0
          have d1 := (CK.below bW) _ _ _ c1
          clear H c0 c1 c2 c3
          go_wp2_with fail
          refine (P1 _).mono ?_
          rintro e W1 ⟨rfl, bW1⟩
          have k3 := k2.trans (bW1.mono k2.size)
          go_wp2_with fail
          go_ret
          exact ⟨rfl, k3⟩
        · rw [h4] at P1 hR
          cases h5 : okM L.length fx fy
          all_goals
            rw [h5] at P2 hR
            simp only [Bool.not_false, Bool.and_self, Bool.and_false, Bool.false_eq_true, if_true, if_false] at hR
            subst hR
            clear h3 h4 h5
            go_wp2_with fail
            refine (H _ kb).mono ?_
            rintro e W ⟨rfl, bW⟩
            have k2 := kb.trans (bW.mono kb.size)
            have d0 := (CK.below bW) _ _ _ c0
            have d1 := (CK.below bW) _ _ _ c1
            have d2 := (CK.below bW) _ _ _ c2
            have d3 := (CK.below bW) _ _ _ c3
            clear H c0 c1 c2 c3
            go_wp2_with fail
            refine (P1 _).mono ?_
            rintro e W1 ⟨rfl, bW1⟩
            have k3 := k2.trans (bW1.mono k2.size)
            have d4 := (CK.below bW1) _ _ _ d2
            have d5 := (CK.below bW1) _ _ _ d3
            clear P1 d0 d1 d2 d3
            go_wp2_with fail
            refine (P2 _).mono ?_
            rintro e W2 ⟨rfl, bW2⟩
            have k4 := k3.trans (bW2.mono k3.size)
            go_wp2_with fail
            go_ret
            exact ⟨rfl, k4⟩
      · rw [h3] at H hR
        simp only [Bool.not_true, Bool.and_false, Bool.false_eq_true, if_false] at hR
        subst hR
        clear h3
        go_wp2_with fail
        refine (H _ kb).mono ?_
        rintro e W ⟨rfl, bW⟩
        have k2 := kb.trans (bW.mono kb.size)
        go_wp2_with fail
        go_ret
        exact ⟨rfl, k2⟩
    · have i1 : ¬ (L.length : Int) < 1 := by omega
      have i2 : (110 : Int) < (L.length : Int) := by omega
      rw [decide_eq_false h2] at hR
      simp only [Bool.and_false, Bool.false_and, Bool.false_eq_true, if_false] at hR
      subst hR
      go_wp2_with fail
      go_ret
      exact ⟨rfl, kb⟩
  · have i1 : (L.length : Int) < 1 := by omega
    rw [decide_eq_false h1] at hR
    simp only [Bool.false_and, Bool.false_eq_true, if_false] at hR
    subst hR
    go_wp2_with fail
    go_ret
    exact ⟨rfl, kb⟩
end Cpy
end Go.Proofs.YtlodmffiengnaaaDoor

/- Package copying: change: a place becomes what a closure makes of it. -/
namespace Go.Proofs.YtlodmffiengnaaaDoor
open Go.ChangeShapes Go.WideShapes Go.ChangeAt Go.RowKit Go.Maps
namespace Cpy
/-- The place's box. -/
def BoxAt (w : World) (B : Nat) (k : Cp) : Prop := w.heap[B]? = some (.cells k.cells 26 (0, 0))
/-- All but one block stands as it stood. -/
structure But (M : Nat) (w w' : World) : Prop where
  os : w'.os = w.os
  tape : w'.tape = w.tape
  output : w'.output = w.output
  size : w.heap.size ≤ w'.heap.size
  block : ∀ i, i < w.heap.size → i ≠ M → w'.heap[i]? = w.heap[i]?
theorem But.refl (M : Nat) (w : World) : But M w w := ⟨rfl, rfl, rfl, Nat.le_refl _, fun _ _ _ => rfl⟩
theorem But.trans {M : Nat} {a b c : World} (h : But M a b) (g : But M b c) : But M a c :=
  ⟨g.os.trans h.os, g.tape.trans h.tape, g.output.trans h.output, Nat.le_trans h.size g.size, fun i hi hne => (g.block i (Nat.lt_of_lt_of_le hi h.size) hne).trans (h.block i hi hne)⟩
theorem But.of_below {M : Nat} {w w' : World} (h : Below w.heap.size w w') : But M w w' := ⟨h.os, h.tape, h.output, h.size, fun i hi _ => h.block i hi⟩
theorem But.below {M N : Nat} {w w' : World} (h : But M w w') (hM : N ≤ M) (hN : N ≤ w.heap.size) : Below N w w' := ⟨h.os, h.tape, h.output, h.size, fun i hi => h.block i (by omega) (by omega)⟩
theorem But.setCell {M i : Nat} {w w' : World} (h : But M w w') (u : Value) : But M w (w'.setCell ⟨M, i, none⟩ u) :=
  ⟨h.os, h.tape, h.output, by rw [show (w'.setCell ⟨M, i, none⟩ u).heap.size = w'.heap.size by simp [World.setCell]]; exact h.size, fun j hj hne => by rw [RowKit.Below.heap_setCell _ _ _ _ hne]; exact h.block j hj hne⟩
theorem But.setRow {M : Nat} {w w' : World} (h : But M w w') (cs : Array Value) : But M w (w'.setRow M cs) :=
  ⟨h.os, h.tape, h.output, by rw [show (w'.setRow M cs).heap.size = w'.heap.size by simp [World.setRow]]; exact h.size, fun j hj hne => by rw [setRow_other _ _ _ _ hne]; exact h.block j hj hne⟩
theorem But.drew {M : Nat} {w w' : World} (h : But M w.drew w') : But M w w' := ⟨h.os, h.tape, h.output, h.size, h.block⟩
theorem BoxAt.cells {w : World} {B : Nat} {k : Cp} (h : BoxAt w B k) : (w.cell? ⟨B, 0, none⟩ = some (.int .i64 k.x) ∧ w.cell? ⟨B, 1, none⟩ = some (.int .i64 k.y) ∧ w.cell? ⟨B, 2, none⟩ = some (.int .i64 k.fx) ∧ w.cell? ⟨B, 3, none⟩ = some (.int .i64 k.fy) ∧ w.cell? ⟨B, 4, none⟩ = some (.bool k.on)) ∧ ∀ i, w.frozen? ⟨B, i, none⟩ = false := by
  unfold BoxAt at h
  refine ⟨?_, fun i => by simp [World.frozen?, h]⟩
  unfold World.cell?
  rw [h]
  exact ⟨rfl, rfl, rfl, rfl, rfl⟩
theorem BoxAt.lt {w : World} {B : Nat} {k : Cp} (h : BoxAt w B k) : B < w.heap.size := (Array.getElem?_eq_some_iff.1 h).1
theorem BoxAt.below {w w' : World} {B : Nat} {k : Cp} (h : BoxAt w B k) (b : Below w.heap.size w w') : BoxAt w' B k := kept h b
theorem BoxAt.setX {w : World} {B : Nat} {k : Cp} (h : BoxAt w B k) (x : Int) : BoxAt (w.setCell ⟨B, 0, none⟩ (.int .i64 x)) B { k with x := x } := heap_setCell_same w B 0 _ _ _ h
theorem BoxAt.setY {w : World} {B : Nat} {k : Cp} (h : BoxAt w B k) (y : Int) : BoxAt (w.setCell ⟨B, 1, none⟩ (.int .i64 y)) B { k with y := y } := heap_setCell_same w B 1 _ _ _ h
theorem BoxAt.setFX {w : World} {B : Nat} {k : Cp} (h : BoxAt w B k) (x : Int) : BoxAt (w.setCell ⟨B, 2, none⟩ (.int .i64 x)) B { k with fx := x } := heap_setCell_same w B 2 _ _ _ h
theorem BoxAt.setFY {w : World} {B : Nat} {k : Cp} (h : BoxAt w B k) (y : Int) : BoxAt (w.setCell ⟨B, 3, none⟩ (.int .i64 y)) B { k with fy := y } := heap_setCell_same w B 3 _ _ _ h
theorem BoxAt.setOn {w : World} {B : Nat} {k : Cp} (h : BoxAt w B k) (o : Bool) : BoxAt (w.setCell ⟨B, 4, none⟩ (.bool o)) B { k with on := o } := heap_setCell_same w B 4 _ _ _ h
theorem results_row_tmp {P : Program} {fn : Func} {p u : Tmp} {ty : TypeId} (h : fn.results = #[.cell p ty, .tmp u]) (tmps : Array Value) (w : World) (g : Nat) (t : TypeId) (cs : Array Value) (fr : Nat × Nat) (d : TypeDesc)
    (hp : tmps.getD p undef = .pointer (some ⟨g, 0, none⟩)) (hg : w.heap[g]? = some (.cells cs t fr))
    (hu : P.underlying ty = some d) (hd : (match d with | .struct _ | .array _ _ => true | _ => false) = true) (hi : (P.info? ty).map (·.size) = some cs.size) (v : Value) (hv : tmps.getD u undef = v) :
    (results fn tmps).run P w = .ok (.tuple #[.agg cs, v]) w := by
  rw [results_cell_tmp h, hp, hv]
  simp [asAddr, run_loadVar_row w g t ty cs fr d hg hu hd hi, Result.andThen]
def zCp : Cp := ⟨0, 0, 0, 0, false⟩
/-- What a closure does to a place: the error e, the place k'. -/
def How (g : Nat) (cb : Array Value) (w : World) (k : Cp) (e : Int) (k' : Cp) : Prop :=
  ∀ W C, Below w.heap.size w W → w.heap.size ≤ C → BoxAt W C k → Calls Tryd.prog g (#[.pointer (some ⟨C, 0, none⟩)] ++ cb) W fun er W' => er = .returned (.int .i64 e) ∧ BoxAt W' C k' ∧ But C W W'
/-- What change answers. -/
def chgK (c e : Int) (k' : Cp) : Cp := if c = 0 ∧ e = 0 then { k' with x := min k'.x 120 } else zCp
def chgE (c e : Int) : Int := if c = 0 then e else c
theorem oneCp (k : Cp) : k.cells.all (·.oneCell') = true := by simp [Cp.cells, Value.oneCell']
theorem zero_cells : zCp.cells = #[.int .i64 0, .int .i64 0, .int .i64 0, .int .i64 0, .bool false] := rfl
set_option maxHeartbeats 4000000 in
set_option maxRecDepth 100000 in
theorem change_any (L : List ByteArray) (v : Value) (k k' : Cp) (e : Int) (g : Nat) (cb : Array Value) (w : World) (h : LsAt w v L)
    (eg : ∀ args w, (callFunc g args).run Tryd.prog w = .ok (.enter g args) w) (hh : chk L k = 0 → How g cb w k e k') :
    Calls Tryd.prog 20 #[v, .agg k.cells, .func (.func g) #[] cb] w fun er w' => er = .returned (.tuple #[.agg (chgK (chk L k) e k').cells, .int .i64 (chgE (chk L k) e)]) ∧ Below w.heap.size w w' := by
  have kb : Below w.heap.size w ((w.alloc (.cells k.cells 26)).alloc (.cells zCp.cells 26)) := ((Below.refl _ _).alloc (Nat.le_refl _) _).alloc (by rw [World.size_alloc]; omega) _
  have Z := heap_alloc_new (w.alloc (.cells k.cells 26)) (.cells zCp.cells 26)
  have Y : BoxAt ((w.alloc (.cells k.cells 26)).alloc (.cells zCp.cells 26)) w.heap.size k := (heap_alloc_old (w.alloc (.cells k.cells 26)) (.cells zCp.cells 26) (r := w.heap.size) (by rw [World.size_alloc]; omega)).trans (heap_alloc_new w (.cells k.cells 26))
  rw [World.size_alloc] at Z
  have HC := fun W (hW : Below w.heap.size w W) => check_any L v k W (h.below hW)
  obtain ⟨a, c, rfl, _⟩ := h
  generalize chk L k = R at *
  obtain ⟨⟨c0, c1, c2, c3, c4⟩, _⟩ := Y.cells
  simp only [zero_cells] at Y Z kb c0 c1 c2 c3 c4
  obtain ⟨x, y, fx, fy, on⟩ := k
  simp only [Cp.cells] at Y Z kb HC c0 c1 c2 c3 c4 ⊢
  obtain ⟨rk, hrk⟩ : ∃ rk, chgK R e k' = rk := ⟨_, rfl⟩
  obtain ⟨re, hre⟩ : ∃ re, chgE R e = re := ⟨_, rfl⟩
  rw [hrk, hre]
  unfold chgK at hrk
  unfold chgE at hre
  go_enter Tryd.func20, Tryd.ntmps20
  go_wp2_with fail
  refine (HC _ kb).mono ?_
  rintro e1 W1 ⟨rfl, b1⟩
  have k1 := kb.trans (b1.mono kb.size)
  have z1 := kept Z b1
  have y1 : BoxAt W1 w.heap.size ⟨x, y, fx, fy, on⟩ := kept Y b1
  clear HC c0 c1 c2 c3 c4 kb Z Y b1
  by_cases hR : R = 0
  · subst hR
    have jR : ((0 : Int) == 0) = true := rfl
    have HH := hh rfl W1 w.heap.size k1 (Nat.le_refl _) y1
    clear hh y1
    by_cases he : e = 0
    · subst he
      rw [if_pos ⟨rfl, rfl⟩] at hrk
      rw [if_pos rfl] at hre
      subst hrk hre
      go_wp2_with fail
      refine HH.mono ?_
      rintro e2 W2 ⟨rfl, y2, b2⟩
      have k2 := k1.trans (b2.below (Nat.le_refl _) k1.size)
      have z2 := (b2.block _ (Array.getElem?_eq_some_iff.1 z1).1 (by omega)).trans z1
      obtain ⟨x', y', fx', fy', on'⟩ := k'
      obtain ⟨⟨c0, c1, c2, c3, c4⟩, hf⟩ := y2.cells
      have f0 := hf 0
      have y3 := y2.setX (min x' 120)
      have k3 := k2.setCell (p := ⟨w.heap.size, 0, none⟩) (Nat.le_refl _) (.int .i64 (min x' 120))
      have z3 : (W2.setCell ⟨w.heap.size, 0, none⟩ (.int .i64 (min x' 120))).heap[w.heap.size + 1]? = _ := (RowKit.Below.heap_setCell _ _ _ _ (by simp)).trans z2
      obtain ⟨⟨d0, d1, d2, d3, d4⟩, _⟩ := y3.cells
      clear HH z1 k1 y2 hf b2
      simp only [] at c0 c1 c2 c3 c4 d0 d1 d2 d3 d4
      go_wp2_with (refine wpList_store_row rfl 26 (.tmp 6) (.tmp 26) rfl (w.heap.size + 1) #[.int .i64 (min x' 120), .int .i64 y', .int .i64 fx', .int .i64 fy', .bool on'] rfl rfl _ _ z3 (by kernel_rfl) rfl (oneCp ⟨_, _, _, _, _⟩) ?_)
      (try simp only [Exit.inBlock, Exit.then])
      refine bodyPost_ret (v := .tuple #[.agg #[.int .i64 (min x' 120), .int .i64 y', .int .i64 fx', .int .i64 fy', .bool on'], .int .i64 0]) ?_ rfl ⟨rfl, below_setRow k3 (by omega) _⟩
      exact results_row_tmp rfl _ _ (w.heap.size + 1) _ _ _ _ rfl (setRow_heap _ _ _ _ _ _ z3) Tryd.underlying26 rfl (by kernel_rfl) _ rfl
    · have je : (e == 0) = false := by rw [beq_eq_false_iff_ne]; exact he
      rw [if_neg (fun h => he h.2)] at hrk
      rw [if_pos rfl] at hre
      subst hrk hre
      have jn : (e != 0) = true := by rw [bne, je]; rfl
      go_wp2_with fail
      refine HH.mono ?_
      rintro e2 W2 ⟨rfl, y2, b2⟩
      have k2 := k1.trans (b2.below (Nat.le_refl _) k1.size)
      have z2 := (b2.block _ (Array.getElem?_eq_some_iff.1 z1).1 (by omega)).trans z1
      clear HH z1 k1 y2 b2
      go_wp2_with (refine wpList_store_row rfl 26 (.tmp 6) (.tmp 18) rfl (w.heap.size + 1) #[.int .i64 0, .int .i64 0, .int .i64 0, .int .i64 0, .bool false] rfl rfl _ _ z2 (by kernel_rfl) rfl (oneCp ⟨_, _, _, _, _⟩) ?_)
      (try simp only [Exit.inBlock, Exit.then])
      refine bodyPost_ret (v := .tuple #[.agg #[.int .i64 0, .int .i64 0, .int .i64 0, .int .i64 0, .bool false], .int .i64 e]) ?_ rfl ⟨rfl, below_setRow k2 (by omega) _⟩
      exact results_row_tmp rfl _ _ (w.heap.size + 1) _ _ _ _ rfl (setRow_heap _ _ _ _ _ _ z2) Tryd.underlying26 rfl (by kernel_rfl) _ rfl
  · have jR : (R == 0) = false := by rw [beq_eq_false_iff_ne]; exact hR
    have jn : (R != 0) = true := by rw [bne, jR]; rfl
    rw [if_neg (fun h => hR h.1)] at hrk
    rw [if_neg hR] at hre
    subst hrk hre
    clear hh y1
    go_wp2_with (refine wpList_store_row rfl 26 (.tmp 6) (.tmp 18) rfl (w.heap.size + 1) #[.int .i64 0, .int .i64 0, .int .i64 0, .int .i64 0, .bool false] rfl rfl _ _ z1 (by kernel_rfl) rfl (oneCp ⟨_, _, _, _, _⟩) ?_)
    (try simp only [Exit.inBlock, Exit.then])
    refine bodyPost_ret (v := .tuple #[.agg #[.int .i64 0, .int .i64 0, .int .i64 0, .int .i64 0, .bool false], .int .i64 R]) ?_ rfl ⟨rfl, below_setRow k1 (by omega) _⟩
    exact results_row_tmp rfl _ _ (w.heap.size + 1) _ _ _ _ rfl (setRow_heap _ _ _ _ _ _ z1) Tryd.underlying26 rfl (by kernel_rfl) _ rfl
end Cpy
end Go.Proofs.YtlodmffiengnaaaDoor

/- Package copying: Select. -/
namespace Go.Proofs.YtlodmffiengnaaaDoor
open Go.ChangeShapes Go.WideShapes Go.ChangeAt Go.RowKit Go.Maps
namespace Cpy
def selK (k : Cp) (on : Bool) : Cp := if on then ⟨k.x, k.y, k.x, k.y, true⟩ else ⟨k.x, k.y, 0, 0, false⟩
set_option maxHeartbeats 4000000 in
set_option maxRecDepth 100000 in
theorem select_how (B : Nat) (on : Bool) (k : Cp) (w : World) (hB : w.cell? ⟨B, 0, none⟩ = some (.bool on)) : How 33 #[.pointer (some ⟨B, 0, none⟩)] w k 0 (selK k on) := by
  intro W C kb hC hk
  have hBW := CK.below kb _ _ _ hB
  have hne : B ≠ C := by have := lt_of_cell hB; omega
  obtain ⟨⟨c0, c1, c2, c3, c4⟩, hf⟩ := hk.cells
  have f2 := hf 2
  have f3 := hf 3
  have f4 := hf 4
  obtain ⟨x, y, fx, fy, on'⟩ := k
  simp only [] at c0 c1 c2 c3 c4
  have y1 := hk.setOn on
  have y2 := (y1.setFX 0).setFY 0
  have b2 := ((((But.refl C W).setCell (i := 4) (.bool on)).setCell (i := 2) (.int .i64 0)).setCell (i := 3) (.int .i64 0))
  have hB2 : (((W.setCell ⟨C, 4, none⟩ (.bool on)).setCell ⟨C, 2, none⟩ (.int .i64 0)).setCell ⟨C, 3, none⟩ (.int .i64 0)).cell? ⟨B, 0, none⟩ = some (.bool on) := by
    rw [World.cell?_setCell_other _ _ _ _ (by intro e; injection e with e; exact hne e.symm), World.cell?_setCell_other _ _ _ _ (by intro e; injection e with e; exact hne e.symm), World.cell?_setCell_other _ _ _ _ (by intro e; injection e with e; exact hne e.symm)]
    exact hBW
  cases on
  · go_enter Tryd.func33, Tryd.ntmps33
    go_wp2_with fail
    go_ret
    exact ⟨rfl, y2, b2⟩
  · have y3 := (y2.setFX x).setFY y
    have b3 := (b2.setCell (i := 2) (.int .i64 x)).setCell (i := 3) (.int .i64 y)
    go_enter Tryd.func33, Tryd.ntmps33
    go_wp2_with fail
    go_ret
    exact ⟨rfl, y3, b3⟩
theorem enters_sel : ∀ args w, (callFunc 33 args).run Tryd.prog w = .ok (.enter 33 args) w := enters_of Tryd.func33 (by kernel_rfl) rfl
set_option maxHeartbeats 4000000 in
set_option maxRecDepth 100000 in
/-- Select, of any lines and any place. -/
theorem select_any (L : List ByteArray) (v : Value) (k : Cp) (on : Bool) (w : World) (h : LsAt w v L) :
    Calls Tryd.prog 12 #[v, .agg k.cells, .bool on] w fun er w' => er = .returned (.tuple #[.agg (chgK (chk L k) 0 (selK k on)).cells, .int .i64 (chgE (chk L k) 0)]) ∧ Below w.heap.size w w' := by
  have kb : Below w.heap.size w (((w.alloc (.cells k.cells 26)).alloc (.cells #[.bool on] 4)).alloc (.cells zCp.cells 26)) := (((Below.refl _ _).alloc (Nat.le_refl _) _).alloc (by rw [World.size_alloc]; omega) _).alloc (by rw [World.size_alloc, World.size_alloc]; omega) _
  have Z := heap_alloc_new ((w.alloc (.cells k.cells 26)).alloc (.cells #[.bool on] 4)) (.cells zCp.cells 26)
  have Y : BoxAt (((w.alloc (.cells k.cells 26)).alloc (.cells #[.bool on] 4)).alloc (.cells zCp.cells 26)) w.heap.size k :=
    (heap_alloc_old _ _ (r := w.heap.size) (by simp only [World.size_alloc]; omega)).trans ((heap_alloc_old _ _ (r := w.heap.size) (by simp only [World.size_alloc]; omega)).trans (heap_alloc_new w (.cells k.cells 26)))
  have X := (heap_alloc_old ((w.alloc (.cells k.cells 26)).alloc (.cells #[.bool on] 4)) (.cells zCp.cells 26) (r := (w.alloc (.cells k.cells 26)).heap.size) (by simp only [World.size_alloc]; omega)).trans (heap_alloc_new (w.alloc (.cells k.cells 26)) (.cells #[.bool on] 4))
  rw [World.size_alloc] at Z X
  rw [World.size_alloc] at Z
  have cX : (((w.alloc (.cells k.cells 26)).alloc (.cells #[.bool on] 4)).alloc (.cells zCp.cells 26)).cell? ⟨w.heap.size + 1, 0, none⟩ = some (.bool on) := by
    unfold World.cell?
    rw [X]
    rfl
  have HC := change_any L v k (selK k on) 0 33 #[.pointer (some ⟨w.heap.size + 1, 0, none⟩)] _ (h.below kb) enters_sel (fun _ => select_how (w.heap.size + 1) on k _ cX)
  obtain ⟨a, c, rfl, _⟩ := h
  obtain ⟨⟨c0, c1, c2, c3, c4⟩, _⟩ := Y.cells
  generalize hk' : chgK (chk L k) 0 (selK k on) = rk at *
  generalize chgE (chk L k) 0 = re at *
  clear hk'
  simp only [zero_cells] at HC Y Z kb c0 c1 c2 c3 c4
  obtain ⟨x, y, fx, fy, on'⟩ := k
  obtain ⟨rx, ry, rfx, rfy, ron⟩ := rk
  simp only [Cp.cells] at Y Z kb HC c0 c1 c2 c3 c4 ⊢
  clear X cX
  go_enter Tryd.func12, Tryd.ntmps12
  go_wp2_with fail
  refine HC.mono ?_
  rintro e1 W1 ⟨rfl, b1⟩
  have k1 := kb.trans (b1.mono kb.size)
  have z1 := kept Z b1
  clear HC c0 c1 c2 c3 c4 kb Z Y b1
  go_wp2_with (refine wpList_store_row rfl 26 (.tmp 6) (.tmp 12) rfl (w.heap.size + 2) #[.int .i64 rx, .int .i64 ry, .int .i64 rfx, .int .i64 rfy, .bool ron] rfl rfl _ _ z1 (by kernel_rfl) rfl (oneCp ⟨_, _, _, _, _⟩) ?_)
  (try simp only [Exit.inBlock, Exit.then])
  refine bodyPost_ret (v := .tuple #[.agg #[.int .i64 rx, .int .i64 ry, .int .i64 rfx, .int .i64 rfy, .bool ron], .int .i64 re]) ?_ rfl ⟨rfl, below_setRow k1 (by omega) _⟩
  exact results_row_tmp rfl _ _ (w.heap.size + 2) _ _ _ _ rfl (setRow_heap _ _ _ _ _ _ z1) Tryd.underlying26 rfl (by kernel_rfl) _ rfl
end Cpy
end Go.Proofs.YtlodmffiengnaaaDoor

/- Package copying: Move and Seek, by what their closures do. (Written by gen_cpycalls.py.) -/
namespace Go.Proofs.YtlodmffiengnaaaDoor
open Go.ChangeShapes Go.WideShapes Go.ChangeAt Go.RowKit Go.Maps
namespace Cpy
theorem one_box {w : World} {g : Nat} {a : Value} {t : TypeId} (h : w.heap[g]? = some (.cells #[a] t (0, 0))) : w.cell? ⟨g, 0, none⟩ = some a := by
  unfold World.cell?
  rw [h]
  rfl
/-- What a closure over a text and lines does. -/
def HowS (g : Nat) (w : World) (L : List ByteArray) (v : Value) (s : ByteArray) (k : Cp) (e : Int) (k' : Cp) : Prop :=
  ∀ W A B, Below w.heap.size w W → w.heap.size ≤ A → w.heap.size ≤ B → W.cell? ⟨A, 0, none⟩ = some v → W.cell? ⟨B, 0, none⟩ = some (.string s) → LsAt W v L → How g #[.pointer (some ⟨B, 0, none⟩), .pointer (some ⟨A, 0, none⟩)] W k e k'
theorem enters_move : ∀ args w, (callFunc 21 args).run Tryd.prog w = .ok (.enter 21 args) w := enters_of Tryd.func21 (by kernel_rfl) rfl
set_option maxHeartbeats 4000000 in
set_option maxRecDepth 100000 in
theorem move_any (L : List ByteArray) (v : Value) (k k' : Cp) (s : ByteArray) (e : Int) (w : World) (h : LsAt w v L) (hh : chk L k = 0 → HowS 21 w L v s k e k') :
    Calls Tryd.prog 6 #[v, .agg k.cells, .string s] w fun er w' => er = .returned (.tuple #[.agg (chgK (chk L k) e k').cells, .int .i64 (chgE (chk L k) e)]) ∧ Below w.heap.size w w' := by
  obtain ⟨a, c, rfl, hl⟩ := h
  have h : LsAt w (.slice a L.length c) L := ⟨a, c, rfl, hl⟩
  have kb : Below w.heap.size w ((((w.alloc (.cells #[.slice a L.length c] 22)).alloc (.cells k.cells 26)).alloc (.cells #[.string s] 9)).alloc (.cells zCp.cells 26)) :=
    ((((Below.refl _ _).alloc (Nat.le_refl _) _).alloc (by simp only [World.size_alloc]; omega) _).alloc (by simp only [World.size_alloc]; omega) _).alloc (by simp only [World.size_alloc]; omega) _
  have Z := heap_alloc_new (((w.alloc (.cells #[.slice a L.length c] 22)).alloc (.cells k.cells 26)).alloc (.cells #[.string s] 9)) (.cells zCp.cells 26)
  have X := (heap_alloc_old (((w.alloc (.cells #[.slice a L.length c] 22)).alloc (.cells k.cells 26)).alloc (.cells #[.string s] 9)) (.cells zCp.cells 26) (r := ((w.alloc (.cells #[.slice a L.length c] 22)).alloc (.cells k.cells 26)).heap.size) (by simp only [World.size_alloc]; omega)).trans (heap_alloc_new ((w.alloc (.cells #[.slice a L.length c] 22)).alloc (.cells k.cells 26)) (.cells #[.string s] 9))
  have Y0 := (heap_alloc_old (((w.alloc (.cells #[.slice a L.length c] 22)).alloc (.cells k.cells 26)).alloc (.cells #[.string s] 9)) (.cells zCp.cells 26) (r := (w.alloc (.cells #[.slice a L.length c] 22)).heap.size) (by simp only [World.size_alloc]; omega)).trans ((heap_alloc_old ((w.alloc (.cells #[.slice a L.length c] 22)).alloc (.cells k.cells 26)) (.cells #[.string s] 9) (r := (w.alloc (.cells #[.slice a L.length c] 22)).heap.size) (by simp only [World.size_alloc]; omega)).trans (heap_alloc_new (w.alloc (.cells #[.slice a L.length c] 22)) (.cells k.cells 26)))
  have V := (heap_alloc_old (((w.alloc (.cells #[.slice a L.length c] 22)).alloc (.cells k.cells 26)).alloc (.cells #[.string s] 9)) (.cells zCp.cells 26) (r := w.heap.size) (by simp only [World.size_alloc]; omega)).trans ((heap_alloc_old ((w.alloc (.cells #[.slice a L.length c] 22)).alloc (.cells k.cells 26)) (.cells #[.string s] 9) (r := w.heap.size) (by simp only [World.size_alloc]; omega)).trans ((heap_alloc_old (w.alloc (.cells #[.slice a L.length c] 22)) (.cells k.cells 26) (r := w.heap.size) (by simp only [World.size_alloc]; omega)).trans (heap_alloc_new w (.cells #[.slice a L.length c] 22))))
  simp only [World.size_alloc] at Z X Y0
  have cX := one_box X
  have cV := one_box V
  have Y : BoxAt _ (w.heap.size + 1) k := Y0
  have HC := change_any L _ k k' e 21 #[.pointer (some ⟨w.heap.size + 2, 0, none⟩), .pointer (some ⟨w.heap.size, 0, none⟩)] _ (h.below kb) enters_move (fun hc => hh hc _ w.heap.size (w.heap.size + 2) kb (Nat.le_refl _) (by omega) cV cX (h.below kb))
  obtain ⟨⟨c0, c1, c2, c3, c4⟩, _⟩ := Y.cells
  generalize hk' : chgK (chk L k) e k' = rk at *
  generalize chgE (chk L k) e = re at *
  clear hk' hh h hl X V Y0
  simp only [zero_cells] at HC Y Z kb c0 c1 c2 c3 c4 cX cV
  obtain ⟨x, y, fx, fy, on'⟩ := k
  obtain ⟨rx, ry, rfx, rfy, ron⟩ := rk
  simp only [Cp.cells] at Y Z kb HC c0 c1 c2 c3 c4 cX cV ⊢
  go_enter Tryd.func6, Tryd.ntmps6
  go_wp2_with fail
  refine HC.mono ?_
  rintro e1 W1 ⟨rfl, b1⟩
  have k1 := kb.trans (b1.mono kb.size)
  have z1 := kept Z b1
  clear HC c0 c1 c2 c3 c4 kb Z Y b1 cX cV
  go_wp2_with (refine wpList_store_row rfl 26 (.tmp 6) (.tmp 12) rfl (w.heap.size + 3) #[.int .i64 rx, .int .i64 ry, .int .i64 rfx, .int .i64 rfy, .bool ron] rfl rfl _ _ z1 (by kernel_rfl) rfl (oneCp ⟨_, _, _, _, _⟩) ?_)
  (try simp only [Exit.inBlock, Exit.then])
  refine bodyPost_ret (v := .tuple #[.agg #[.int .i64 rx, .int .i64 ry, .int .i64 rfx, .int .i64 rfy, .bool ron], .int .i64 re]) ?_ rfl ⟨rfl, below_setRow k1 (by omega) _⟩
  exact results_row_tmp rfl _ _ (w.heap.size + 3) _ _ _ _ rfl (setRow_heap _ _ _ _ _ _ z1) Tryd.underlying26 rfl (by kernel_rfl) _ rfl
theorem enters_seek : ∀ args w, (callFunc 39 args).run Tryd.prog w = .ok (.enter 39 args) w := enters_of Tryd.func39 (by kernel_rfl) rfl
set_option maxHeartbeats 4000000 in
set_option maxRecDepth 100000 in
theorem seek_any (L : List ByteArray) (v : Value) (k k' : Cp) (s : ByteArray) (e : Int) (w : World) (h : LsAt w v L) (hh : chk L k = 0 → HowS 39 w L v s k e k') :
    Calls Tryd.prog 17 #[v, .agg k.cells, .string s] w fun er w' => er = .returned (.tuple #[.agg (chgK (chk L k) e k').cells, .int .i64 (chgE (chk L k) e)]) ∧ Below w.heap.size w w' := by
  obtain ⟨a, c, rfl, hl⟩ := h
  have h : LsAt w (.slice a L.length c) L := ⟨a, c, rfl, hl⟩
  have kb : Below w.heap.size w ((((w.alloc (.cells #[.slice a L.length c] 22)).alloc (.cells k.cells 26)).alloc (.cells #[.string s] 9)).alloc (.cells zCp.cells 26)) :=
    ((((Below.refl _ _).alloc (Nat.le_refl _) _).alloc (by simp only [World.size_alloc]; omega) _).alloc (by simp only [World.size_alloc]; omega) _).alloc (by simp only [World.size_alloc]; omega) _
  have Z := heap_alloc_new (((w.alloc (.cells #[.slice a L.length c] 22)).alloc (.cells k.cells 26)).alloc (.cells #[.string s] 9)) (.cells zCp.cells 26)
  have X := (heap_alloc_old (((w.alloc (.cells #[.slice a L.length c] 22)).alloc (.cells k.cells 26)).alloc (.cells #[.string s] 9)) (.cells zCp.cells 26) (r := ((w.alloc (.cells #[.slice a L.length c] 22)).alloc (.cells k.cells 26)).heap.size) (by simp only [World.size_alloc]; omega)).trans (heap_alloc_new ((w.alloc (.cells #[.slice a L.length c] 22)).alloc (.cells k.cells 26)) (.cells #[.string s] 9))
  have Y0 := (heap_alloc_old (((w.alloc (.cells #[.slice a L.length c] 22)).alloc (.cells k.cells 26)).alloc (.cells #[.string s] 9)) (.cells zCp.cells 26) (r := (w.alloc (.cells #[.slice a L.length c] 22)).heap.size) (by simp only [World.size_alloc]; omega)).trans ((heap_alloc_old ((w.alloc (.cells #[.slice a L.length c] 22)).alloc (.cells k.cells 26)) (.cells #[.string s] 9) (r := (w.alloc (.cells #[.slice a L.length c] 22)).heap.size) (by simp only [World.size_alloc]; omega)).trans (heap_alloc_new (w.alloc (.cells #[.slice a L.length c] 22)) (.cells k.cells 26)))
  have V := (heap_alloc_old (((w.alloc (.cells #[.slice a L.length c] 22)).alloc (.cells k.cells 26)).alloc (.cells #[.string s] 9)) (.cells zCp.cells 26) (r := w.heap.size) (by simp only [World.size_alloc]; omega)).trans ((heap_alloc_old ((w.alloc (.cells #[.slice a L.length c] 22)).alloc (.cells k.cells 26)) (.cells #[.string s] 9) (r := w.heap.size) (by simp only [World.size_alloc]; omega)).trans ((heap_alloc_old (w.alloc (.cells #[.slice a L.length c] 22)) (.cells k.cells 26) (r := w.heap.size) (by simp only [World.size_alloc]; omega)).trans (heap_alloc_new w (.cells #[.slice a L.length c] 22))))
  simp only [World.size_alloc] at Z X Y0
  have cX := one_box X
  have cV := one_box V
  have Y : BoxAt _ (w.heap.size + 1) k := Y0
  have HC := change_any L _ k k' e 39 #[.pointer (some ⟨w.heap.size + 2, 0, none⟩), .pointer (some ⟨w.heap.size, 0, none⟩)] _ (h.below kb) enters_seek (fun hc => hh hc _ w.heap.size (w.heap.size + 2) kb (Nat.le_refl _) (by omega) cV cX (h.below kb))
  obtain ⟨⟨c0, c1, c2, c3, c4⟩, _⟩ := Y.cells
  generalize hk' : chgK (chk L k) e k' = rk at *
  generalize chgE (chk L k) e = re at *
  clear hk' hh h hl X V Y0
  simp only [zero_cells] at HC Y Z kb c0 c1 c2 c3 c4 cX cV
  obtain ⟨x, y, fx, fy, on'⟩ := k
  obtain ⟨rx, ry, rfx, rfy, ron⟩ := rk
  simp only [Cp.cells] at Y Z kb HC c0 c1 c2 c3 c4 cX cV ⊢
  go_enter Tryd.func17, Tryd.ntmps17
  go_wp2_with fail
  refine HC.mono ?_
  rintro e1 W1 ⟨rfl, b1⟩
  have k1 := kb.trans (b1.mono kb.size)
  have z1 := kept Z b1
  clear HC c0 c1 c2 c3 c4 kb Z Y b1 cX cV
  go_wp2_with (refine wpList_store_row rfl 26 (.tmp 6) (.tmp 12) rfl (w.heap.size + 3) #[.int .i64 rx, .int .i64 ry, .int .i64 rfx, .int .i64 rfy, .bool ron] rfl rfl _ _ z1 (by kernel_rfl) rfl (oneCp ⟨_, _, _, _, _⟩) ?_)
  (try simp only [Exit.inBlock, Exit.then])
  refine bodyPost_ret (v := .tuple #[.agg #[.int .i64 rx, .int .i64 ry, .int .i64 rfx, .int .i64 rfy, .bool ron], .int .i64 re]) ?_ rfl ⟨rfl, below_setRow k1 (by omega) _⟩
  exact results_row_tmp rfl _ _ (w.heap.size + 3) _ _ _ _ rfl (setRow_heap _ _ _ _ _ _ z1) Tryd.underlying26 rfl (by kernel_rfl) _ rfl
end Cpy
end Go.Proofs.YtlodmffiengnaaaDoor

/- Package copying: word. -/
namespace Go.Proofs.YtlodmffiengnaaaDoor
open Go.ChangeShapes Go.WideShapes Go.ChangeAt Go.RowKit Go.Maps
namespace Cpy
open Txt (runes rn wd spotsL colsL cleanL bs okRune Tab)
/-- The column where a word begins, if one begins here; p: a blank was ahead. -/
def wrd : Bool → List (Int × Int) → Option Int
  | _, [] => none
  | p, r :: t => if p && !(r.1 == 32) then some r.2 else wrd (r.1 == 32) t
def wordG (d : Int × Int) : Bool → Nat → List (List (Int × Int)) → Int × Int
  | _, _, [] => d
  | p, y, S :: more => match wrd p S with | some c => (c, (y : Int)) | none => wordG d true (y + 1) more
def rows (L : List ByteArray) (y i : Nat) : List (List (Int × Int)) := if y < L.length then (sp (ln L y)).drop i :: (L.drop (y + 1)).map sp else []
theorem rows_next (L : List ByteArray) (y : Nat) : (L.drop y).map sp = rows L y 0 := by
  unfold rows
  by_cases h : y < L.length
  · rw [if_pos h, List.drop_eq_getElem_cons h, List.map_cons, List.drop_zero]
    congr 2
    have := ln_get h
    rw [List.getElem?_eq_getElem h] at this
    exact Option.some.inj this
  · rw [if_neg h, List.drop_of_length_le (by omega)]; rfl
def lastM (L : List ByteArray) : Int × Int := (endI (cols (ln L (L.length - 1))), (L.length : Int) - 1)
def wordM (L : List ByteArray) (x : Int) (y : Nat) : Int × Int := wordG (lastM L) false y (rows L y (max (atI (cols (ln L y)) x) 0).toNat)
set_option maxHeartbeats 8000000 in
set_option maxRecDepth 100000 in
theorem word_any (L : List ByteArray) (v : Value) (x : Int) (y : Nat) (w : World) (h : LsAt w v L) (hT : Tab w) (hy : y < L.length) (hn : L.length ≤ 1000000) (hL : ∀ s ∈ L, s.size ≤ 4000) :
    Calls Tryd.prog 26 #[v, .agg #[.int .i64 x, .int .i64 y]] w fun e w' => e = .returned (.agg #[.int .i64 (wordM L x y).1, .int .i64 (wordM L x y).2]) ∧ Below w.heap.size w w' := by
  obtain ⟨R, hR⟩ : ∃ R, wordM L x y = R := ⟨_, rfl⟩
  rw [hR]
  unfold wordM at hR
  have kb : Below w.heap.size w ((w.alloc (.cells #[.int .i64 x, .int .i64 y] 24)).alloc (.cells #[.int .i64 0, .int .i64 0] 24)) := ((Below.refl _ _).alloc (Nat.le_refl _) _).alloc (by rw [World.size_alloc]; omega) _
  have Z := heap_alloc_new (w.alloc (.cells #[.int .i64 x, .int .i64 y] 24)) (.cells #[.int .i64 0, .int .i64 0] 24)
  have Y := (heap_alloc_old (w.alloc (.cells #[.int .i64 x, .int .i64 y] 24)) (.cells #[.int .i64 0, .int .i64 0] 24) (r := w.heap.size) (by rw [World.size_alloc]; omega)).trans (heap_alloc_new w (.cells #[.int .i64 x, .int .i64 y] 24))
  rw [World.size_alloc] at Z
  have HLS : Hid (∀ V, Below w.heap.size w V → LsAt V v L) := fun V hV => h.below hV
  have HTB : Hid (∀ V, Below w.heap.size w V → Tab V) := fun V hV => hT.below hV hT.pos
  obtain ⟨b, o, c, rfl, q⟩ := (h.below kb).get hy
  have hs := ln_size hL y
  have HL := fun W (hW : Below w.heap.size w W) => lineOf_any (ln L y) W (hT.below hW hT.pos) (by omega)
  have hsl := sp_len (ln L y)
  have HA := fun rv cv W (h : LnAt W rv cv (sp (ln L y))) => at_any rv cv (sp (ln L y)) x W h (sp_lt _) (by omega)
  have iy : (y : Int) < (L.length : Int) := by omega
  have iy0 : (0 : Int) ≤ (y : Int) := by omega
  rw [show (sp (ln L y)).map (·.2) = cols (ln L y) from rfl] at HA
  have HLL : Hid (∀ s ∈ L, s.size ≤ 4000) := hL
  obtain ⟨cx, cy⟩ := cells2 Y
  have a2 := atI_lt (cols (ln L y)) x
  rw [cols_len] at a2
  have a3 : max (atI (cols (ln L y)) x) 0 ≤ 1000000 := by omega
  have a4 : 0 ≤ max (atI (cols (ln L y)) x) 0 := by omega
  have HR : Hid (wordG (lastM L) false y (rows L y (max (atI (cols (ln L y)) x) 0).toNat) = R) := hR
  generalize atI (cols (ln L y)) x = a at *
  generalize ln L y = s at *
  clear h hT hL hR a2 hsl hs
  go_enter Tryd.func26, Tryd.ntmps26
  go_upto_region 2 with fail
  go_region_with (first
    | (go_at_call 43; refine (HL _ kb.drew).mono ?_; rintro e W1 ⟨rv, cv, rfl, hln, b1⟩; have cx1 := CK.below b1 _ _ _ cx)
    | (go_at_call 44; refine (HA _ _ _ hln).mono ?_; rintro e W2 ⟨rfl, b2⟩))
  all_goals
      have k0 := (kb.drew.trans (b1.mono kb.drew.size)).trans (b2.mono (kb.drew.trans (b1.mono kb.drew.size)).size)
      have z0 := kept ((b1.block _ (Array.getElem?_eq_some_iff.1 Z).1).trans Z) b2
      have cy2 := (cells2 (kept ((b1.block _ (Array.getElem?_eq_some_iff.1 Y).1).trans Y) b2)).2
      obtain ⟨n, hn2⟩ : ∃ n : Nat, max a 0 = (n : Int) := ⟨(max a 0).toNat, by omega⟩
      rw [hn2] at HR a3 ⊢
      rw [Int.toNat_natCast] at HR
      have HGL : Hid (y < L.length) := hy
      clear b1 b2 hln cx1 kb Z Y cx cy HL HA q hn2 a4 hy
      go_wp2_with fail
      have hy := HGL.out
      have hn9 : (n : Int) ≤ 1000000 := by omega
      go_loopg [5, 6, 7] L.length (fun g u5 u6 u7 wr => ∃ (p : Bool) (i y' : Nat), u5 = .bool p ∧ u6 = .int .i64 (i : Int) ∧ u7 = .int .i64 (y' : Int) ∧ i ≤ 1000000 ∧ y' ≤ L.length ∧ L.length - y' ≤ g ∧ wordG (lastM L) p y' (rows L y' i) = R ∧ Below w.heap.size w wr ∧ wr.heap[w.heap.size + 1]? = some (.cells #[.int .i64 0, .int .i64 0] 24 (0, 0)))
      case atStart => exact ⟨false, n, y, rfl, rfl, rfl, by omega, by omega, by omega, HR.out, k0, z0⟩
      case round =>
        obtain ⟨p, i, y', rfl, rfl, rfl, hi, hy', hg, hw, kb, z1⟩ := hrel
        have HW : Hid (wordG (lastM L) p y' (rows L y' i) = R) := hw
        clear hw HR k0 z0 cy2 hy hn9 a3
        by_cases hlt : y' < L.length
        · have iy1 : (y' : Int) < (L.length : Int) := by omega
          have iy2 : (0 : Int) ≤ (y' : Int) := by omega
          obtain ⟨b', o', c', hv, q⟩ := (HLS.out _ kb).get hlt
          injection hv with e1 e2 e3
          injection e1 with e1
          injection e1 with e1 e4
          subst e1 e4 e3
          have hs := ln_size HLL.out y'
          have HL := lineOf_any (ln L y') wr (HTB.out _ kb) (by omega)
          have hsl := sp_len (ln L y')
          have hSL : Hid ((sp (ln L y')).length ≤ 4000) := Nat.le_trans hsl hs
          have hRW : rows L y' i = (sp (ln L y')).drop i :: rows L (y' + 1) 0 := by
            rw [← rows_next]
            unfold rows
            rw [if_pos hlt]
          rw [hRW] at HW
          generalize sp (ln L y') = S at *
          generalize ln L y' = s' at *
          clear hRW
          go_wp2_with fail
          refine HL.mono ?_
          rintro e W1 ⟨rv, cv, rfl, hln, b1⟩
          have k1 := kb.trans (b1.mono kb.size)
          have z2 := kept z1 b1
          have l2 := heap_alloc_new W1 (.cells #[rv, cv] 82)
          have kA : Below W1.heap.size W1 (W1.alloc (.cells #[rv, cv] 82)) := (Below.refl _ _).alloc (Nat.le_refl _) _
          have k2 := k1.trans (kA.mono k1.size)
          have z3 := kept z2 kA
          have ln2 := hln.below kA
          obtain ⟨⟨rb, ro, rc, rfl, rle, _⟩, ca, cc, rfl, _⟩ := hln
          have HLN : Hid (LnAt (W1.alloc (.cells #[.slice (some ⟨rb, ro, none⟩) S.length rc, .slice ca S.length cc] 82)) (.slice (some ⟨rb, ro, none⟩) S.length rc) (.slice ca S.length cc) S) := ln2
          clear HL q kb b1 z1 z2 k1 kA ln2
          go_wp2_with fail
          generalize hW2 : W1.alloc (.cells #[.slice (some ⟨rb, ro, none⟩) S.length rc, .slice ca S.length cc] 82) = W2 at *
          go_loopg [5, 6, 8] S.length (fun g u5 u6 u8 wr => ∃ (p : Bool) (i P : Nat), u5 = .bool p ∧ u6 = .int .i64 (i : Int) ∧ u8 = .pointer (some ⟨P, 0, none⟩) ∧ i ≤ 1000000 ∧ S.length - i ≤ g ∧ wordG (lastM L) p y' (S.drop i :: rows L (y' + 1) 0) = R ∧ Below w.heap.size w wr ∧ wr.heap[P]? = some (.cells #[.slice (some ⟨rb, ro, none⟩) S.length rc, .slice ca S.length cc] 82 (0, 0)) ∧ LnAt wr (.slice (some ⟨rb, ro, none⟩) S.length rc) (.slice ca S.length cc) S ∧ wr.heap[w.heap.size + 1]? = some (.cells #[.int .i64 0, .int .i64 0] 24 (0, 0)))
          case atStart => exact ⟨p, i, _, rfl, rfl, rfl, hi, by omega, HW.out, k2, l2, HLN.out, z3⟩
          case round =>
            obtain ⟨p, i, P, rfl, rfl, rfl, hi, hg2, hw, kb, hP, hln, z1⟩ := hrel
            have HW2 : Hid (wordG (lastM L) p y' (S.drop i :: rows L (y' + 1) 0) = R) := hw
            obtain ⟨p0, p1⟩ := cells2 hP
            clear hw k2 l2 HLN z3 HW
            by_cases hlt2 : i < S.length
            · have ii : (i : Int) < (S.length : Int) := by omega
              have ii0 : (0 : Int) ≤ (i : Int) := by omega
              have HLN : Hid (LnAt wr (.slice (some ⟨rb, ro, none⟩) S.length rc) (.slice ca S.length cc) S) := hln
              obtain ⟨⟨rb', ro', rc', hv, _, hr⟩, ca', cc', hv2, hcc⟩ := hln
              injection hv with e1 e2 e3
              injection e1 with e1
              injection e1 with e1 e4
              subst e1 e4 e3
              injection hv2 with e1 e2 e3
              subst e1 e3
              obtain ⟨cb, co, rfl, hc⟩ := hcc.resolve_left (by intro h; rw [h] at hlt2; simp at hlt2)
              have hd : S.drop i = S[i] :: S.drop (i + 1) := List.drop_eq_getElem_cons hlt2
              have q1 := hr i S[i].1 (by rw [List.getElem?_map, List.getElem?_eq_getElem hlt2]; rfl)
              have q2 := hc i S[i].2 (by rw [List.getElem?_map, List.getElem?_eq_getElem hlt2]; rfl)
              have hw := HW2.out
              rw [hd, wordG, wrd] at hw
              generalize S[i] = rr at *
              obtain ⟨r, cl⟩ := rr
              simp only [] at q1 q2 hw
              clear hr hc hcc hd
              have kA : Below wr.heap.size wr (wr.alloc (.cells #[.slice (some ⟨rb, ro, none⟩) S.length rc, .slice (some ⟨cb, co, none⟩) S.length cc] 82)) := (Below.refl _ _).alloc (Nat.le_refl _) _
              have k3 := kb.trans (kA.mono kb.size)
              have z2 := kept z1 kA
              have HL2 : Hid (LnAt (wr.alloc (.cells #[.slice (some ⟨rb, ro, none⟩) S.length rc, .slice (some ⟨cb, co, none⟩) S.length cc] 82)) (.slice (some ⟨rb, ro, none⟩) S.length rc) (.slice (some ⟨cb, co, none⟩) S.length cc) S) := HLN.out.below kA
              have l3 := heap_alloc_new wr (.cells #[.slice (some ⟨rb, ro, none⟩) S.length rc, .slice (some ⟨cb, co, none⟩) S.length cc] 82)
              have hin : i + 1 ≤ 1000000 := by have := hSL.out; omega
              clear kA HW2 HLN hP
              cases hbl : (r == 32)
              · cases hp : p
                · rw [hbl, hp] at hw
                  subst hp
                  have HW3 : Hid (wordG (lastM L) false y' (S.drop (i + 1) :: rows L (y' + 1) 0) = R) := hw
                  clear hw
                  go_wp2_with fail
                  go_roundg (S.length - (i + 1))
                  case measure => omega
                  case rel => exact ⟨false, i + 1, _, rfl, by go_num, rfl, hin, Nat.le_refl _, HW3.out, k3, l3, HL2.out, z2⟩
                · rw [hbl, hp] at hw
                  subst hp
                  have e0 : R = (cl, (y' : Int)) := hw.symm
                  subst e0
                  clear hw l3 z2 k3 HL2
                  go_wp2_with (refine wpList_store_row rfl 24 (.tmp 4) (.tmp 57) rfl (w.heap.size + 1) #[.int .i64 cl, .int .i64 y'] rfl rfl _ _ z1 (by kernel_rfl) rfl (oneI2 _ _) ?_)
                  (try simp only [Exit.inBlock, Exit.then])
                  refine bodyPost_ret (v := .agg #[.int .i64 cl, .int .i64 y']) ?_ rfl ⟨rfl, below_setRow kb (by omega) _⟩
                  exact results_cell_row rfl _ _ (w.heap.size + 1) _ _ _ _ rfl (setRow_heap _ _ _ _ _ _ z1) Tryd.underlying24 rfl (by kernel_rfl)
              · rw [hbl] at hw
                have HW3 : Hid (wordG (lastM L) true y' (S.drop (i + 1) :: rows L (y' + 1) 0) = R) := by
                  rw [← hw]
                  cases p <;> rfl
                clear hw
                cases hp : p
                all_goals
                  go_wp2_with fail
                  go_roundg (S.length - (i + 1))
                  case measure => omega
                  case rel => exact ⟨true, i + 1, _, rfl, by go_num, rfl, hin, Nat.le_refl _, HW3.out, k3, l3, HL2.out, z2⟩
            · have ii : ¬ (i : Int) < (S.length : Int) := by omega
              have hw3 : wordG (lastM L) true (y' + 1) (rows L (y' + 1) 0) = R := by
                have := HW2.out
                rw [List.drop_of_length_le (by omega)] at this
                exact this
              have HW3 : Hid (wordG (lastM L) true (y' + 1) (rows L (y' + 1) 0) = R) := hw3
              clear hw3 HW2 hP hln
              go_wp2_with fail
              go_roundg (L.length - (y' + 1))
              case measure => omega
              case rel => exact ⟨true, 0, y' + 1, rfl, rfl, by go_num, by omega, by omega, Nat.le_refl _, HW3.out, kb, z1⟩
        · have iy1 : ¬ (y' : Int) < (L.length : Int) := by omega
          have e0 : R = lastM L := by
            have := HW.out
            unfold rows at this
            rw [if_neg hlt] at this
            exact this.symm
          have hpos : L.length - 1 < L.length := by have := HGL.out; omega
          have hw1 : wrap64 ((L.length : Int) - 1) = ((L.length - 1 : Nat) : Int) := by unfold wrap64; omega
          have hw2 : (L.length : Int) - 1 = ((L.length - 1 : Nat) : Int) := by omega
          have HE := end_any L _ (L.length - 1) wr (HLS.out _ kb) (HTB.out _ kb) hpos HLL.out
          unfold lastM at e0
          rw [hw2] at e0
          subst e0
          obtain ⟨ex, hex⟩ : ∃ ex, endI (cols (ln L (L.length - 1))) = ex := ⟨_, rfl⟩
          rw [hex] at HE
          have HEX : Hid (endI (cols (ln L (L.length - 1))) = ex) := hex
          clear hex
          clear HW hlt
          go_wp2_with fail
          try rw [hw2]
          refine HE.mono ?_
          rintro e W3 ⟨rfl, b3⟩
          have k3 := kb.trans (b3.mono kb.size)
          have z3 := kept z1 b3
          clear HE z1 kb b3
          obtain ⟨ey, hey⟩ : ∃ ey, ((L.length - 1 : Nat) : Int) = ey := ⟨_, rfl⟩
          rw [hey]
          have HEY : Hid (((L.length - 1 : Nat) : Int) = ey) := hey
          clear hey
          go_wp2_with (refine wpList_store_row rfl 24 (.tmp 4) (.tmp 64) rfl (w.heap.size + 1) #[.int .i64 ex, .int .i64 ey] rfl rfl _ _ z3 (by kernel_rfl) rfl (oneI2 _ _) ?_)
          (try simp only [Exit.inBlock, Exit.then])
          refine bodyPost_ret (v := .agg #[.int .i64 ex, .int .i64 ey]) ?_ rfl ⟨by rw [HEX.out, HEY.out], below_setRow k3 (by omega) _⟩
          exact results_cell_row rfl _ _ (w.heap.size + 1) _ _ _ _ rfl (setRow_heap _ _ _ _ _ _ z3) Tryd.underlying24 rfl (by kernel_rfl)
end Cpy
end Go.Proofs.YtlodmffiengnaaaDoor

/- Package copying: Move's closure, for a word. -/
namespace Go.Proofs.YtlodmffiengnaaaDoor
open Go.ChangeShapes Go.WideShapes Go.ChangeAt Go.RowKit Go.Maps
namespace Cpy
open Txt (Tab)
theorem chk_zero {L : List ByteArray} {k : Cp} (h : chk L k = 0) : 1 ≤ L.length ∧ L.length ≤ 110 ∧ (∀ s ∈ L, s.size ≤ 4000) ∧ (0 ≤ k.y ∧ k.y < L.length ∧ 0 ≤ k.x ∧ k.x ≤ 120) ∧ (0 ≤ k.fy ∧ k.fy < L.length ∧ 0 ≤ k.fx ∧ k.fx ≤ 120) := by
  unfold chk at h
  by_cases hl : okL L = true
  · rw [if_pos hl] at h
    by_cases hm : (okM L.length k.x k.y && okM L.length k.fx k.fy) = true
    · unfold okL at hl
      unfold okM at hm
      simp only [Bool.and_eq_true, decide_eq_true_eq, Bool.not_eq_true', List.any_eq_false] at hl hm
      refine ⟨hl.1.1, hl.1.2, fun s hs => ?_, by omega, by omega⟩
      have := hl.2 s hs
      unfold long at this
      simp at this
      exact this
    · rw [if_neg hm] at h; omega
  · rw [if_neg hl] at h; omega
def wordK (L : List ByteArray) (k : Cp) : Cp := { k with x := (wordM L k.x k.y.toNat).1, y := (wordM L k.x k.y.toNat).2 }
set_option maxHeartbeats 8000000 in
set_option maxRecDepth 100000 in
theorem word_how (L : List ByteArray) (v : Value) (k : Cp) (w : World) (hT : Tab w) (hk : chk L k = 0) : HowS 21 w L v ⟨#[119, 111, 114, 100]⟩ k 0 (wordK L k) := by
  obtain ⟨h1, h2, h3, ⟨h4, h5, _, _⟩, _⟩ := chk_zero hk
  intro W A B kA hA hB cA cB hls W2 C kb hC hbox
  have hneB : B ≠ C := by have := lt_of_cell cB; omega
  have hneA : A ≠ C := by have := lt_of_cell cA; omega
  have dA := CK.below kb _ _ _ cA
  have dB := CK.below kb _ _ _ cB
  have hls2 := hls.below kb
  have hT2 : Tab W2 := (hT.below kA hT.pos).below kb (Nat.lt_of_lt_of_le hT.pos kA.size)
  obtain ⟨⟨c0, c1, c2, c3, c4⟩, hf⟩ := hbox.cells
  have f0 := hf 0
  have f1 := hf 1
  obtain ⟨x, y, fx, fy, on⟩ := k
  simp only [] at c0 c1 c2 c3 c4 h4 h5
  obtain ⟨y, rfl⟩ := Int.eq_ofNat_of_zero_le h4
  have hyl : y < L.length := by omega
  have HW := fun V (hv : LsAt V v L) (ht : Tab V) => word_any L v x y V hv ht hyl (by omega) h3
  have HK : Hid (wordK L ⟨x, y, fx, fy, on⟩ = ⟨(wordM L x y).1, (wordM L x y).2, fx, fy, on⟩) := rfl
  have HLS : Hid (LsAt W2 v L) := hls2
  have HT : Hid (Tab W2) := hT2
  generalize wordM L x y = R at *
  generalize wordK L ⟨x, (y : Int), fx, fy, on⟩ = kw at *
  obtain ⟨rx, ry⟩ := R
  obtain rfl := HK.out
  simp only [] at HW HK
  have HBX : Hid (BoxAt W2 C ⟨x, y, fx, fy, on⟩) := hbox
  clear hk h1 h2 h3 h4 h5 hls2 hT2 hls hT hbox kA kb
  go_enter Tryd.func21, Tryd.ntmps21
  go_upto_region 20 with fail
  have HL2 : Hid (LsAt W2.drew v L) := HLS.out.below ((Below.refl _ _).drew)
  have HT2 : Hid (Tab W2.drew) := HT.out.below ((Below.refl _ _).drew) HT.out.pos
  have HB2 : Hid (BoxAt W2.drew C ⟨x, y, fx, fy, on⟩) := HBX.out
  go_region_with (go_at_call 26; refine (HW _ HL2.out HT2.out).mono ?_; rintro e V ⟨rfl, bv⟩; have hbv := HB2.out.below bv; obtain ⟨⟨e0, e1, e2, e3, e4⟩, hf2⟩ := hbv.cells; simp only [] at e0 e1 e2 e3 e4; have g0 := hf2 0; have g1 := hf2 1)
  all_goals
    have y2 := (hbv.setX rx).setY ry
    have b2 := ((But.of_below (M := C) bv).drew.setCell (i := 0) (.int .i64 rx)).setCell (i := 1) (.int .i64 ry)
    go_wp2_with fail
    go_ret
    exact ⟨rfl, y2, b2⟩
end Cpy
end Go.Proofs.YtlodmffiengnaaaDoor

/- Package copying: Move's closure, for a line's end. -/
namespace Go.Proofs.YtlodmffiengnaaaDoor
open Go.ChangeShapes Go.WideShapes Go.ChangeAt Go.RowKit Go.Maps
namespace Cpy
open Txt (Tab)
def endK (L : List ByteArray) (k : Cp) : Cp := { k with x := endI (cols (ln L k.y.toNat)) }
set_option maxHeartbeats 8000000 in
set_option maxRecDepth 100000 in
theorem end_how (L : List ByteArray) (v : Value) (k : Cp) (w : World) (hT : Tab w) (hk : chk L k = 0) : HowS 21 w L v ⟨#[101, 110, 100]⟩ k 0 (endK L k) := by
  obtain ⟨h1, h2, h3, ⟨h4, h5, _, _⟩, _⟩ := chk_zero hk
  intro W A B kA hA hB cA cB hls W2 C kb hC hbox
  have hneB : B ≠ C := by have := lt_of_cell cB; omega
  have hneA : A ≠ C := by have := lt_of_cell cA; omega
  have dA := CK.below kb _ _ _ cA
  have dB := CK.below kb _ _ _ cB
  have hls2 := hls.below kb
  have hT2 : Tab W2 := (hT.below kA hT.pos).below kb (Nat.lt_of_lt_of_le hT.pos kA.size)
  obtain ⟨⟨c0, c1, c2, c3, c4⟩, hf⟩ := hbox.cells
  have f0 := hf 0
  have f1 := hf 1
  obtain ⟨x, y, fx, fy, on⟩ := k
  simp only [] at c0 c1 c2 c3 c4 h4 h5
  obtain ⟨y, rfl⟩ := Int.eq_ofNat_of_zero_le h4
  have hyl : y < L.length := by omega
  have HW := fun V (hv : LsAt V v L) (ht : Tab V) => end_any L v y V hv ht hyl h3
  have HK : Hid (endK L ⟨x, y, fx, fy, on⟩ = ⟨endI (cols (ln L y)), y, fx, fy, on⟩) := rfl
  have HLS : Hid (LsAt W2 v L) := hls2
  have HT : Hid (Tab W2) := hT2
  generalize endI (cols (ln L y)) = rx at *
  generalize endK L ⟨x, (y : Int), fx, fy, on⟩ = kw at *
  obtain rfl := HK.out
  simp only [] at HW HK
  have HBX : Hid (BoxAt W2 C ⟨x, y, fx, fy, on⟩) := hbox
  clear hk h1 h2 h3 h4 h5 hls2 hT2 hls hT hbox kA kb
  go_enter Tryd.func21, Tryd.ntmps21
  go_upto_region 14 with fail
  have HL2 : Hid (LsAt W2.drew v L) := HLS.out.below ((Below.refl _ _).drew)
  have HT2 : Hid (Tab W2.drew) := HT.out.below ((Below.refl _ _).drew) HT.out.pos
  have HB2 : Hid (BoxAt W2.drew C ⟨x, y, fx, fy, on⟩) := HBX.out
  go_region_with (go_at_call 24; refine (HW _ HL2.out HT2.out).mono ?_; rintro e V ⟨rfl, bv⟩; have hbv := HB2.out.below bv; obtain ⟨⟨e0, e1, e2, e3, e4⟩, hf2⟩ := hbv.cells; simp only [] at e0 e1 e2 e3 e4; have g0 := hf2 0; have g1 := hf2 1)
  all_goals
    have y2 := (hbv.setX rx).setY y
    have b2 := ((But.of_below (M := C) bv).drew.setCell (i := 0) (.int .i64 rx)).setCell (i := 1) (.int .i64 y)
    go_wp2_with fail
    go_ret
    exact ⟨rfl, y2, b2⟩
end Cpy
end Go.Proofs.YtlodmffiengnaaaDoor

/- Package copying: left, right. -/
namespace Go.Proofs.YtlodmffiengnaaaDoor
open Go.ChangeShapes Go.WideShapes Go.ChangeAt Go.RowKit Go.Maps
namespace Cpy
open Txt (runes rn wd spotsL colsL cleanL bs okRune Tab)
theorem w64_n {n : Nat} (h : n ≤ 4000) : wrap64 (n : Int) = (n : Int) := by unfold wrap64; omega
theorem w64_back {m : Nat} (h : m ≤ 1000000) : wrap64 ((m : Int) + 1 - 1) = (m : Int) := by unfold wrap64; omega
set_option maxHeartbeats 8000000 in
set_option maxRecDepth 100000 in
theorem left_any (L : List ByteArray) (v : Value) (x : Int) (y : Nat) (w : World) (h : LsAt w v L) (hT : Tab w) (hy : y < L.length) (hn : L.length ≤ 1000000) (hL : ∀ s ∈ L, s.size ≤ 4000) :
    Calls Tryd.prog 22 #[v, .agg #[.int .i64 x, .int .i64 y]] w fun e w' => e = .returned (.agg #[.int .i64 (leftM L x y).1, .int .i64 (leftM L x y).2]) ∧ Below w.heap.size w w' := by
  obtain ⟨R, hR⟩ : ∃ R, leftM L x y = R := ⟨_, rfl⟩
  rw [hR]
  unfold leftM at hR
  have kb : Below w.heap.size w ((w.alloc (.cells #[.int .i64 x, .int .i64 y] 24)).alloc (.cells #[.int .i64 0, .int .i64 0] 24)) := ((Below.refl _ _).alloc (Nat.le_refl _) _).alloc (by rw [World.size_alloc]; omega) _
  have Z := heap_alloc_new (w.alloc (.cells #[.int .i64 x, .int .i64 y] 24)) (.cells #[.int .i64 0, .int .i64 0] 24)
  have Y := (heap_alloc_old (w.alloc (.cells #[.int .i64 x, .int .i64 y] 24)) (.cells #[.int .i64 0, .int .i64 0] 24) (r := w.heap.size) (by rw [World.size_alloc]; omega)).trans (heap_alloc_new w (.cells #[.int .i64 x, .int .i64 y] 24))
  rw [World.size_alloc] at Z
  have HLS : Hid (∀ V, Below w.heap.size w V → LsAt V v L) := fun V hV => h.below hV
  have HTB : Hid (∀ V, Below w.heap.size w V → Tab V) := fun V hV => hT.below hV hT.pos
  have HLL : Hid (∀ s ∈ L, s.size ≤ 4000) := hL
  obtain ⟨b, o, c, rfl, q⟩ := (h.below kb).get hy
  have hs := ln_size hL y
  have HL := fun W (hW : Below w.heap.size w W) => lineOf_any (ln L y) W (hT.below hW hT.pos) (by omega)
  have hsl := sp_len (ln L y)
  have HA := fun rv cv W (h : LnAt W rv cv (sp (ln L y))) => at_any rv cv (sp (ln L y)) x W h (sp_lt _) (by omega)
  have iy : (y : Int) < (L.length : Int) := by omega
  have iy0 : (0 : Int) ≤ (y : Int) := by omega
  have a1 := atI_ge (cols (ln L y)) x
  have a2 := atI_lt (cols (ln L y)) x
  rw [show (sp (ln L y)).map (·.2) = cols (ln L y) from rfl] at HA
  have hcl := cols_len (ln L y)
  have hS4 : (sp (ln L y)).length ≤ 4000 := Nat.le_trans hsl hs
  obtain ⟨y0, y1⟩ := cells2 Y
  generalize hsy : ln L y = s at *
  have HSY : Hid (ln L y = s) := hsy
  generalize ha : atI (cols s) x = at9 at *
  clear h hT hL hsl hs hsy ha
  go_enter Tryd.func22, Tryd.ntmps22
  go_wp2_with fail
  refine (HL _ kb).mono ?_
  rintro e W1 ⟨rv, cv, rfl, hln, b1⟩
  have k1 := kb.trans (b1.mono kb.size)
  have z1 := kept Z b1
  have w1 := kept Y b1
  have kA : Below W1.heap.size W1 (W1.alloc (.cells #[rv, cv] 82)) := (Below.refl _ _).alloc (Nat.le_refl _) _
  have l2 := heap_alloc_new W1 (.cells #[rv, cv] 82)
  have k2 := k1.trans (kA.mono k1.size)
  have z2 := kept z1 kA
  have w2 := kept w1 kA
  have ln2 := hln.below kA
  obtain ⟨⟨rb, ro, rc, rfl, _⟩, ca, cc, rfl, _⟩ := hln
  obtain ⟨y0, y1⟩ := cells2 w2
  obtain ⟨p0, p1⟩ := cells2 l2
  have HLN : Hid (LnAt (W1.alloc (.cells #[.slice (some ⟨rb, ro, none⟩) (sp s).length rc, .slice ca (sp s).length cc] 82)) (.slice (some ⟨rb, ro, none⟩) (sp s).length rc) (.slice ca (sp s).length cc) (sp s)) := ln2
  clear HL q kb b1 Z Y z1 w1 k1 kA ln2
  go_wp2_with fail
  generalize W1.alloc (.cells #[.slice (some ⟨rb, ro, none⟩) (sp s).length rc, .slice ca (sp s).length cc] 82) = W2 at *
  refine (HA _ _ _ HLN.out).mono ?_
  rintro e W3 ⟨rfl, b3⟩
  have k3 := k2.trans (b3.mono k2.size)
  have z3 := kept z2 b3
  have w3 := kept w2 b3
  have ln3 := HLN.out.below b3
  have l3 := kept l2 b3
  obtain ⟨y0, y1⟩ := cells2 w3
  obtain ⟨p0, p1⟩ := cells2 l3
  have fz : ∀ i, W3.frozen? ⟨w.heap.size, i, none⟩ = false := fun i => by simp [World.frozen?, w3]
  clear HA HLN z2 w2 l2 b3 k2
  by_cases h0 : 0 < at9
  · rw [if_pos h0] at hR
    obtain ⟨m, hm⟩ : ∃ m : Nat, at9 = (m : Int) + 1 := ⟨(at9 - 1).toNat, by omega⟩
    have hml : m < (cols s).length := by omega
    have hR2 : R = ((cols s)[m], (y : Int)) := by
      rw [← hR, hm]
      rw [show ((m : Int) + 1).toNat - 1 = m by omega, List.getD_eq_getElem?_getD, List.getElem?_eq_getElem hml]
      rfl
    subst hR2
    have hne : sp s ≠ [] := by intro e; rw [hcl, e] at hml; simp at hml
    obtain ⟨_, ca', cc', hv, hcc⟩ := ln3
    injection hv with e1 e2 e3
    subst e1 e3
    obtain ⟨cb, co, rfl, hc⟩ := hcc.resolve_left hne
    have q := hc m _ (List.getElem?_eq_getElem hml)
    have imm : (m : Int) < ((sp s).length : Int) := by omega
    have h0' : 0 < (m : Int) + 1 := by omega
    subst hm
    generalize hcm : (cols s)[m] = cm at *
    have hw : wrap64 ((m : Int) + 1 - 1) = (m : Int) := w64_back (by omega)
    have z4 : (W3.setCell ⟨w.heap.size, 0, none⟩ (.int .i64 cm)).heap[w.heap.size + 1]? = _ := (RowKit.Below.heap_setCell _ _ _ _ (by simp)).trans z3
    have k4 := k3.setCell (p := ⟨w.heap.size, 0, none⟩) (Nat.le_refl _) (.int .i64 cm)
    have f0 := fz 0
    have HCM : Hid ((cols s)[m] = cm) := hcm
    clear fz hc hcc hR hcm
    go_wp2_with (refine wpList_store_row rfl 24 (.tmp 4) (.tmp 36) rfl (w.heap.size + 1) #[.int .i64 cm, .int .i64 y] rfl rfl _ _ z4 (by kernel_rfl) rfl (oneI2 _ _) ?_)
    (try simp only [Exit.inBlock, Exit.then])
    refine bodyPost_ret (v := .agg #[.int .i64 cm, .int .i64 y]) ?_ rfl ⟨by rw [HCM.out], below_setRow k4 (by omega) _⟩
    exact results_cell_row rfl _ _ (w.heap.size + 1) _ _ _ _ rfl (setRow_heap _ _ _ _ _ _ z4) Tryd.underlying24 rfl (by kernel_rfl)
  · rw [if_neg h0] at hR
    by_cases hy0 : 0 < y
    · rw [if_pos hy0] at hR
      obtain ⟨z, rfl⟩ : ∃ z, y = z + 1 := ⟨y - 1, by omega⟩
      have HE := fun V hV => end_any L _ z V (HLS.out V hV) (HTB.out V hV) (by omega) HLL.out
      have hR2 : R = (endI (cols (ln L z)), (z : Int)) := by
        rw [← hR]
        rw [show z + 1 - 1 = z by omega]
        congr 1
        omega
      subst hR2
      have ih : ¬ 0 < at9 := h0
      have iy9 : (0 : Int) < ((z + 1 : Nat) : Int) := by omega
      have iyz : ((z + 1 : Nat) : Int) - 1 = (z : Int) := by omega
      obtain ⟨ez, hez⟩ : ∃ ez, endI (cols (ln L z)) = ez := ⟨_, rfl⟩
      rw [hez] at HE
      have HEZ : Hid (endI (cols (ln L z)) = ez) := hez
      have f0 := fz 0
      have f1 := fz 1
      clear fz ln3 l3 p0 p1 hez
      go_wp2_with fail
      try rw [iyz]
      refine (HE _ k3).mono ?_
      rintro e W4 ⟨rfl, b4⟩
      have z4 := kept z3 b4
      have w4 := kept w3 b4
      have k4 := k3.trans (b4.mono k3.size)
      obtain ⟨y0, y1⟩ := cells2 w4
      have fz : ∀ i, W4.frozen? ⟨w.heap.size, i, none⟩ = false := fun i => by simp [World.frozen?, w4]
      have f0 := fz 0
      have f1 := fz 1
      have z5 : ((W4.setCell ⟨w.heap.size, 0, none⟩ (.int .i64 ez)).setCell ⟨w.heap.size, 1, none⟩ (.int .i64 z)).heap[w.heap.size + 1]? = _ := (RowKit.Below.heap_setCell _ _ _ _ (by simp)).trans ((RowKit.Below.heap_setCell _ _ _ _ (by simp)).trans z4)
      have k5 := (k4.setCell (p := ⟨w.heap.size, 0, none⟩) (Nat.le_refl _) (.int .i64 ez)).setCell (p := ⟨w.heap.size, 1, none⟩) (Nat.le_refl _) (.int .i64 z)
      clear HE b4 z4 w4 z3 w3 fz k4 iyz
      go_wp2_with (refine wpList_store_row rfl 24 (.tmp 4) (.tmp 36) rfl (w.heap.size + 1) #[.int .i64 ez, .int .i64 z] rfl rfl _ _ z5 (by kernel_rfl) rfl (oneI2 _ _) ?_)
      (try simp only [Exit.inBlock, Exit.then])
      refine bodyPost_ret (v := .agg #[.int .i64 ez, .int .i64 z]) ?_ rfl ⟨by rw [HEZ.out], below_setRow k5 (by omega) _⟩
      exact results_cell_row rfl _ _ (w.heap.size + 1) _ _ _ _ rfl (setRow_heap _ _ _ _ _ _ z5) Tryd.underlying24 rfl (by kernel_rfl)
    · rw [if_neg hy0] at hR
      subst hR
      have ih : ¬ 0 < at9 := h0
      obtain rfl : y = 0 := by omega
      have iy9 : ¬ (0 : Int) < ((0 : Nat) : Int) := by omega
      clear fz ln3 l3 p0 p1
      go_wp2_with (refine wpList_store_row rfl 24 (.tmp 4) (.tmp 36) rfl (w.heap.size + 1) #[.int .i64 x, .int .i64 ((0 : Nat) : Int)] rfl rfl _ _ z3 (by kernel_rfl) rfl (oneI2 _ _) ?_)
      (try simp only [Exit.inBlock, Exit.then])
      refine bodyPost_ret (v := .agg #[.int .i64 x, .int .i64 ((0 : Nat) : Int)]) ?_ rfl ⟨rfl, below_setRow k3 (by omega) _⟩
      exact results_cell_row rfl _ _ (w.heap.size + 1) _ _ _ _ rfl (setRow_heap _ _ _ _ _ _ z3) Tryd.underlying24 rfl (by kernel_rfl)
set_option maxHeartbeats 8000000 in
set_option maxRecDepth 100000 in
theorem right_any (L : List ByteArray) (v : Value) (x : Int) (y : Nat) (w : World) (h : LsAt w v L) (hT : Tab w) (hy : y < L.length) (hn : L.length ≤ 1000000) (hL : ∀ s ∈ L, s.size ≤ 4000) :
    Calls Tryd.prog 23 #[v, .agg #[.int .i64 x, .int .i64 y]] w fun e w' => e = .returned (.agg #[.int .i64 (rightM L x y).1, .int .i64 (rightM L x y).2]) ∧ Below w.heap.size w w' := by
  obtain ⟨R, hR⟩ : ∃ R, rightM L x y = R := ⟨_, rfl⟩
  rw [hR]
  unfold rightM at hR
  have kb : Below w.heap.size w ((w.alloc (.cells #[.int .i64 x, .int .i64 y] 24)).alloc (.cells #[.int .i64 0, .int .i64 0] 24)) := ((Below.refl _ _).alloc (Nat.le_refl _) _).alloc (by rw [World.size_alloc]; omega) _
  have Z := heap_alloc_new (w.alloc (.cells #[.int .i64 x, .int .i64 y] 24)) (.cells #[.int .i64 0, .int .i64 0] 24)
  have Y := (heap_alloc_old (w.alloc (.cells #[.int .i64 x, .int .i64 y] 24)) (.cells #[.int .i64 0, .int .i64 0] 24) (r := w.heap.size) (by rw [World.size_alloc]; omega)).trans (heap_alloc_new w (.cells #[.int .i64 x, .int .i64 y] 24))
  rw [World.size_alloc] at Z
  have HLS : Hid (∀ V, Below w.heap.size w V → LsAt V v L) := fun V hV => h.below hV
  have HTB : Hid (∀ V, Below w.heap.size w V → Tab V) := fun V hV => hT.below hV hT.pos
  have HLL : Hid (∀ s ∈ L, s.size ≤ 4000) := hL
  obtain ⟨b, o, c, rfl, q⟩ := (h.below kb).get hy
  have hs := ln_size hL y
  have HL := fun W (hW : Below w.heap.size w W) => lineOf_any (ln L y) W (hT.below hW hT.pos) (by omega)
  have hsl := sp_len (ln L y)
  have HA := fun rv cv W (h : LnAt W rv cv (sp (ln L y))) => at_any rv cv (sp (ln L y)) x W h (sp_lt _) (by omega)
  have iy : (y : Int) < (L.length : Int) := by omega
  have iy0 : (0 : Int) ≤ (y : Int) := by omega
  have a1 := atI_ge (cols (ln L y)) x
  have a2 := atI_lt (cols (ln L y)) x
  rw [show (sp (ln L y)).map (·.2) = cols (ln L y) from rfl] at HA
  have hcl := cols_len (ln L y)
  have hS4 : (sp (ln L y)).length ≤ 4000 := Nat.le_trans hsl hs
  obtain ⟨y0, y1⟩ := cells2 Y
  generalize hsy : ln L y = s at *
  have HSY : Hid (ln L y = s) := hsy
  obtain ⟨n9, hn9⟩ : ∃ n9 : Nat, atI (cols s) x + 1 = (n9 : Int) := ⟨(atI (cols s) x + 1).toNat, by omega⟩
  rw [hn9, Int.toNat_natCast] at hR
  have hnl : n9 ≤ 4000 := by omega
  generalize ha : atI (cols s) x = at9 at *
  have hwn : wrap64 (at9 + 1) = (n9 : Int) := by rw [hn9]; exact w64_n hnl
  clear h hT hL hsl hs hsy ha
  go_enter Tryd.func23, Tryd.ntmps23
  go_wp2_with fail
  refine (HL _ kb).mono ?_
  rintro e W1 ⟨rv, cv, rfl, hln, b1⟩
  have k1 := kb.trans (b1.mono kb.size)
  have z1 := kept Z b1
  have w1 := kept Y b1
  have kA : Below W1.heap.size W1 (W1.alloc (.cells #[rv, cv] 82)) := (Below.refl _ _).alloc (Nat.le_refl _) _
  have l2 := heap_alloc_new W1 (.cells #[rv, cv] 82)
  have k2 := k1.trans (kA.mono k1.size)
  have z2 := kept z1 kA
  have w2 := kept w1 kA
  have ln2 := hln.below kA
  obtain ⟨⟨rb, ro, rc, rfl, _⟩, ca, cc, rfl, _⟩ := hln
  obtain ⟨y0, y1⟩ := cells2 w2
  obtain ⟨p0, p1⟩ := cells2 l2
  have HLN : Hid (LnAt (W1.alloc (.cells #[.slice (some ⟨rb, ro, none⟩) (sp s).length rc, .slice ca (sp s).length cc] 82)) (.slice (some ⟨rb, ro, none⟩) (sp s).length rc) (.slice ca (sp s).length cc) (sp s)) := ln2
  clear HL q kb b1 Z Y z1 w1 k1 kA ln2
  go_wp2_with fail
  generalize W1.alloc (.cells #[.slice (some ⟨rb, ro, none⟩) (sp s).length rc, .slice ca (sp s).length cc] 82) = W2 at *
  refine (HA _ _ _ HLN.out).mono ?_
  rintro e W3 ⟨rfl, b3⟩
  have k3 := k2.trans (b3.mono k2.size)
  have z3 := kept z2 b3
  have w3 := kept w2 b3
  have ln3 := HLN.out.below b3
  have l3 := kept l2 b3
  obtain ⟨y0, y1⟩ := cells2 w3
  obtain ⟨p0, p1⟩ := cells2 l3
  have fz : ∀ i, W3.frozen? ⟨w.heap.size, i, none⟩ = false := fun i => by simp [World.frozen?, w3]
  clear HA HLN z2 w2 l2 b3 k2
  clear hn9 a1 a2
  have hlc : ((cols s).length : Int) = ((sp s).length : Int) := by rw [hcl]
  by_cases h0 : n9 < (cols s).length
  · have h0i : (n9 : Int) < ((cols s).length : Int) := Int.ofNat_lt.2 h0
    rw [if_pos h0i] at hR
    have hR2 : R = ((cols s)[n9], (y : Int)) := by
      rw [← hR, List.getD_eq_getElem?_getD, List.getElem?_eq_getElem h0]
      rfl
    subst hR2
    have hne : sp s ≠ [] := by intro e; rw [hcl, e] at h0; simp at h0
    obtain ⟨_, ca', cc', hv, hcc⟩ := ln3
    injection hv with e1 e2 e3
    subst e1 e3
    obtain ⟨cb, co, rfl, hc⟩ := hcc.resolve_left hne
    have q := hc n9 _ (List.getElem?_eq_getElem h0)
    have imm : (n9 : Int) < ((sp s).length : Int) := by rw [← hlc]; exact h0i
    generalize hcm : (cols s)[n9] = cm at *
    have z4 : (W3.setCell ⟨w.heap.size, 0, none⟩ (.int .i64 cm)).heap[w.heap.size + 1]? = _ := (RowKit.Below.heap_setCell _ _ _ _ (by simp)).trans z3
    have k4 := k3.setCell (p := ⟨w.heap.size, 0, none⟩) (Nat.le_refl _) (.int .i64 cm)
    have f0 := fz 0
    have HCM : Hid ((cols s)[n9] = cm) := hcm
    clear fz hc hcc hR hcm
    go_wp2_with (refine wpList_store_row rfl 24 (.tmp 4) (.tmp 41) rfl (w.heap.size + 1) #[.int .i64 cm, .int .i64 y] rfl rfl _ _ z4 (by kernel_rfl) rfl (oneI2 _ _) ?_)
    (try simp only [Exit.inBlock, Exit.then])
    refine bodyPost_ret (v := .agg #[.int .i64 cm, .int .i64 y]) ?_ rfl ⟨by rw [HCM.out], below_setRow k4 (by omega) _⟩
    exact results_cell_row rfl _ _ (w.heap.size + 1) _ _ _ _ rfl (setRow_heap _ _ _ _ _ _ z4) Tryd.underlying24 rfl (by kernel_rfl)
  · have h0i : ¬ (n9 : Int) < ((cols s).length : Int) := fun h => h0 (Int.ofNat_lt.1 h)
    rw [if_neg h0i] at hR
    have imm : ¬ (n9 : Int) < ((sp s).length : Int) := by rw [← hlc]; exact h0i
    by_cases hy1 : y + 1 < L.length
    · rw [if_pos hy1] at hR
      subst hR
      have iy9 : (y : Int) < (L.length : Int) - 1 := by omega
      have f0 := fz 0
      have f1 := fz 1
      have z5 : ((W3.setCell ⟨w.heap.size, 0, none⟩ (.int .i64 0)).setCell ⟨w.heap.size, 1, none⟩ (.int .i64 ((y : Int) + 1))).heap[w.heap.size + 1]? = _ := (RowKit.Below.heap_setCell _ _ _ _ (by simp)).trans ((RowKit.Below.heap_setCell _ _ _ _ (by simp)).trans z3)
      have k5 := (k3.setCell (p := ⟨w.heap.size, 0, none⟩) (Nat.le_refl _) (.int .i64 0)).setCell (p := ⟨w.heap.size, 1, none⟩) (Nat.le_refl _) (.int .i64 ((y : Int) + 1))
      clear fz ln3 l3
      go_wp2_with (refine wpList_store_row rfl 24 (.tmp 4) (.tmp 41) rfl (w.heap.size + 1) #[.int .i64 0, .int .i64 ((y : Int) + 1)] rfl rfl _ _ z5 (by kernel_rfl) rfl (oneI2 _ _) ?_)
      (try simp only [Exit.inBlock, Exit.then])
      refine bodyPost_ret (v := .agg #[.int .i64 0, .int .i64 ((y : Int) + 1)]) ?_ rfl ⟨rfl, below_setRow k5 (by omega) _⟩
      exact results_cell_row rfl _ _ (w.heap.size + 1) _ _ _ _ rfl (setRow_heap _ _ _ _ _ _ z5) Tryd.underlying24 rfl (by kernel_rfl)
    · rw [if_neg hy1] at hR
      subst hR
      have iy9 : ¬ (y : Int) < (L.length : Int) - 1 := by omega
      clear fz ln3 l3
      go_wp2_with (refine wpList_store_row rfl 24 (.tmp 4) (.tmp 41) rfl (w.heap.size + 1) #[.int .i64 x, .int .i64 y] rfl rfl _ _ z3 (by kernel_rfl) rfl (oneI2 _ _) ?_)
      (try simp only [Exit.inBlock, Exit.then])
      refine bodyPost_ret (v := .agg #[.int .i64 x, .int .i64 y]) ?_ rfl ⟨rfl, below_setRow k3 (by omega) _⟩
      exact results_cell_row rfl _ _ (w.heap.size + 1) _ _ _ _ rfl (setRow_heap _ _ _ _ _ _ z3) Tryd.underlying24 rfl (by kernel_rfl)
end Cpy
end Go.Proofs.YtlodmffiengnaaaDoor
