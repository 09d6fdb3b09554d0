/- The reference's FillGrid. -/
import Derived.Test.YtinhmklpnkikgaaDoorPartH
import Derived.Test.YtinhmklpnkikgaaDoorPartF
import Derived.BigQuiet
import Derived.Deep.RegionHeld3
import Derived.Test.YtinhmklpnkikgaaDoorPartE
import Derived.Shelf.Strings.BuilderRune
import Derived.Test.YtinhmklpnkikgaaDoorPartG
import Derived.Lib.TrimByte
namespace Go.Proofs.YtinhmklpnkikgaaDoor
open Go.ChangeShapes Go.WideShapes Go.ChangeAt Go.RowKit Go.Maps
namespace Grd
/-- The rows below k as f makes them, the others as they were. -/
def rowsF (n hh : Nat) (cs : List C) (f : Nat → List C → List C) (k : Nat) : List (List C) := (List.range hh).map fun y => if y < k then f y (rowAt n cs y) else rowAt n cs y
theorem rowsF_len (n hh : Nat) (cs : List C) (f : Nat → List C → List C) (k : Nat) : (rowsF n hh cs f k).length = hh := by simp [rowsF]
theorem rowsF_at (n hh : Nat) (cs : List C) (f : Nat → List C → List C) (k i : Nat) (hi : i < hh) : (rowsF n hh cs f k).getD i [] = if i < k then f i (rowAt n cs i) else rowAt n cs i := by
  simp [rowsF, List.getD, hi]
theorem rowsF_zero (n hh : Nat) (cs : List C) (f : Nat → List C → List C) : rowsF n hh cs f 0 = rowsL n cs hh := by simp [rowsF, rowsL]
theorem rowsF_set (n hh : Nat) (cs : List C) (f : Nat → List C → List C) (k : Nat) (_hk : k < hh) : rowsF n hh cs f (k + 1) = (rowsF n hh cs f k).set k (f k (rowAt n cs k)) := by
  refine List.ext_getElem (by simp [rowsF]) fun i h1 h2 => ?_
  rw [List.getElem_set]
  simp only [rowsF, List.getElem_map, List.getElem_range]
  by_cases hik : k = i
  · subst hik; simp
  · rw [if_neg hik]
    by_cases hlt : i < k
    · rw [if_pos hlt, if_pos (by omega)]
    · rw [if_neg hlt, if_neg (by omega)]
theorem rowsF_same (n hh : Nat) (cs : List C) (f : Nat → List C → List C) (k : Nat) (hk : k < hh) (hf : f k (rowAt n cs k) = rowAt n cs k) : rowsF n hh cs f (k + 1) = rowsF n hh cs f k := by
  refine List.ext_getElem (by simp [rowsF]) fun i h1 h2 => ?_
  simp only [rowsF, List.getElem_map, List.getElem_range]
  by_cases hik : i = k
  · subst hik; simp [hf]
  · by_cases hlt : i < k
    · rw [if_pos hlt, if_pos (by omega)]
    · rw [if_neg hlt, if_neg (by omega)]
theorem rowsF_flat (n hh : Nat) (cs : List C) (f : Nat → List C → List C) : (rowsF n hh cs f hh).flatten = preF n cs f hh := by
  have key : ∀ k, ((List.range k).map fun y => f y (rowAt n cs y)).flatten = preF n cs f k := by
    intro k
    induction k with
    | zero => rfl
    | succ k ih =>
      rw [List.range_succ, List.map_append, List.flatten_append, ih]
      simp [preF]
  rw [← key hh]
  congr 1
  unfold rowsF
  refine List.map_congr_left fun y hy => ?_
  rw [if_pos (List.mem_range.1 hy)]
theorem RowsAt.set {w w' : World} {base : Nat} {vs : List Value} {gs : List Nat} {rows : List (List C)} (h : RowsAt w base vs gs rows) (k : Nat) (hk : k < rows.length) (g : Nat) (v : Value) (row : List C)
    (hb : base ≤ g) (hr : RowB w' g v row) (hne : ∀ i, i < rows.length → i ≠ k → gs.getD i 0 ≠ g) (hkeep : ∀ i, i < rows.length → i ≠ k → w'.heap[gs.getD i 0]? = w.heap[gs.getD i 0]?) :
    RowsAt w' base (vs.set k v) (gs.set k g) (rows.set k row) := by
  obtain ⟨h1, h2, h3, h4⟩ := h
  have gset : ∀ {α : Type} (l : List α) (x d : α) (i : Nat), k < l.length → (l.set k x).getD i d = if i = k then x else l.getD i d := fun l x d i hkl => by
    simp only [List.getD, List.getElem?_set]
    by_cases hik : k = i
    · subst hik; simp [hkl]
    · simp [hik, Ne.symm hik]
  refine ⟨by simp [h1], by simp [h2], ?_, fun i hi => ?_⟩
  · rw [List.nodup_iff_pairwise_ne, List.pairwise_iff_getElem]
    intro i j hi hj hij
    rw [List.length_set] at hi hj
    rw [List.nodup_iff_pairwise_ne, List.pairwise_iff_getElem] at h3
    have e : ∀ q (hq : q < gs.length), gs.getD q 0 = gs[q] := fun q hq => by simp [List.getD, hq]
    rw [List.getElem_set, List.getElem_set]
    by_cases hik : k = i
    · rw [if_pos hik, if_neg (by omega), ← e j hj]
      exact fun he => hne j (by omega) (by omega) he.symm
    · rw [if_neg hik]
      by_cases hjk : k = j
      · rw [if_pos hjk, ← e i hi]; exact hne i (by omega) (by omega)
      · rw [if_neg hjk]; exact h3 i j hi hj hij
  · rw [List.length_set] at hi
    rw [gset gs _ _ _ (by omega), gset vs _ _ _ (by omega), gset rows _ _ _ hk]
    by_cases hik : i = k
    · rw [if_pos hik, if_pos hik, if_pos hik]; exact ⟨hb, hr⟩
    · rw [if_neg hik, if_neg hik, if_neg hik]
      obtain ⟨q1, cap, rest, q2, q3, q4, q5⟩ := h4 i hi
      exact ⟨q1, cap, rest, q2, q3, q4, by rw [hkeep i hi hik]; exact q5⟩
theorem RowsAt.ne {w : World} {base : Nat} {vs : List Value} {gs : List Nat} {rows : List (List C)} (h : RowsAt w base vs gs rows) (i k : Nat) (hi : i < rows.length) (hk : k < rows.length) (hne : i ≠ k) : gs.getD i 0 ≠ gs.getD k 0 := by
  obtain ⟨h1, h2, h3, h4⟩ := h
  rw [List.nodup_iff_pairwise_ne, List.pairwise_iff_getElem] at h3
  have e : ∀ q (hq : q < gs.length), gs.getD q 0 = gs[q] := fun q hq => by simp [List.getD, hq]
  rw [e i (by omega), e k (by omega)]
  rcases Nat.lt_or_ge i k with h | h
  · exact h3 i k (by omega) (by omega) h
  · exact fun q => h3 k i (by omega) (by omega) (by omega) q.symm
theorem limit_same (n : Int) (w : World) : Calls Tryd.prog 46 #[.int .i64 n] w fun e w' => e = .returned (.int .i64 (nearI n)) ∧ w' = w := (limit_any n w).mono fun _ _ h => ⟨by rw [h.1, limit_near], h.2.symm⟩
theorem inside_iff (p l : Int) (size x : Nat) (hx : x < size) : inside p l size x = decide (nearI p ≤ (x : Int) ∧ (x : Int) < nearI p + max 0 (nearI l)) := by
  unfold inside; rw [decide_eq_decide]; omega
end Grd
end Go.Proofs.YtinhmklpnkikgaaDoor

/- The walk of the reference's FillGrid. -/
namespace Go.Proofs.YtinhmklpnkikgaaDoor
open Go.ChangeShapes Go.WideShapes Go.ChangeAt Go.RowKit Go.Maps
namespace Grd
theorem wrap_id (x : Int) (h0 : -9223372036854775808 ≤ x) (h1 : x ≤ 9223372036854775807) : IntKind.i64.wrap x = x := IntWalk.i64_in x ⟨h0, h1⟩
set_option maxHeartbeats 8000000 in
set_option maxRecDepth 100000 in
theorem fillGrid_any (n hh b o cx : Nat) (cs : List C) (rx ry rw rh r f bk x : Int) (w : World) (hC : CellsAt w b o cs) (hs : isSize n hh = true) (hL : cs.length = n * hh) (hc : cs.length ≤ cx) :
    Calls Tryd.prog 21 #[.agg #[.int .i64 (n : Int), .int .i64 (hh : Int), .slice (some ⟨b, o, none⟩) cs.length cx], .agg #[.int .i64 rx, .int .i64 ry, .int .i64 rw, .int .i64 rh], .agg #[.int .i32 r, .int .i64 f, .int .i64 bk, .int .i64 x]] w fun e w' => ∃ v, e = .returned (.agg #[.int .i64 (n : Int), .int .i64 (hh : Int), v]) ∧ OwnG w' w.heap.size v (fillG n hh cs rx ry rw rh (r, f, bk, x)) ∧ Below w.heap.size w w' := by
  have ⟨p0, p1, p2, p3, p4, p5⟩ := prod_in n hh hs
  obtain ⟨x0, x1, x2, x3, kk, hsz⟩ := alloc4 w (.cells #[.int .i64 (n : Int), .int .i64 (hh : Int), .slice (some ⟨b, o, none⟩) cs.length cx] 24) (.cells #[.int .i64 rx, .int .i64 ry, .int .i64 rw, .int .i64 rh] 36) (.cells #[.int .i32 r, .int .i64 f, .int .i64 bk, .int .i64 x] 40) (.cells #[.int .i64 0, .int .i64 0, .slice none 0 0] 24)
  have HK := rows_any n hh b o cx cs _ (hC.below kk) hs hL hc
  have HL : Hid (cs.length = n * hh) := hL
  clear hC hs hL p0 p1
  generalize hW0 : ((((w.alloc (.cells #[.int .i64 (n : Int), .int .i64 (hh : Int), .slice (some ⟨b, o, none⟩) cs.length cx] 24)).alloc (.cells #[.int .i64 rx, .int .i64 ry, .int .i64 rw, .int .i64 rh] 36)).alloc (.cells #[.int .i32 r, .int .i64 f, .int .i64 bk, .int .i64 x] 40)).alloc (.cells #[.int .i64 0, .int .i64 0, .slice none 0 0] 24)) = W0 at x0 x1 x2 x3 kk hsz HK
  have HW0 : Hid (_ = W0) := hW0
  have HK' : Hid (Calls Tryd.prog 28 #[.agg #[.int .i64 (n : Int), .int .i64 (hh : Int), .slice (some ⟨b, o, none⟩) cs.length cx]] W0 fun e w' => ∃ v vs gs, e = .returned v ∧ w'.ownsRow W0.heap.size 22 1 v hh vs ∧ RowsAt w' W0.heap.size vs gs (rowsL n cs hh) ∧ Below W0.heap.size W0 w') := HK
  have HXL : Hid (∀ p : Int, nearI p ≤ 1000 ∧ -1000 ≤ nearI p) := fun p => ⟨(near_in p).2, (near_in p).1⟩
  clear HK hW0
  go_enter Tryd.func21, Tryd.ntmps21
  go_wp2_with (go_at_call 28; rw [HW0.out]; refine HK'.out.mono ?_; rintro e W1 ⟨v1, vs1, gs1, rfl, ho1, hr1, b1⟩)
  have hvl1 : vs1.length = hh := by rw [hr1.1, rowsL_len]
  rw [← hvl1] at ho1
  obtain ⟨G, cap, rest, rfl, hGb, hlc, hcm, hGh⟩ := out_of_own ho1 (by omega)
  rw [hvl1] at hlc
  have e1v : vs1.length = hh := hvl1
  simp only [e1v]
  clear e1v ho1
  have y1 := carry x1 b1
  have ⟨f0, f1, f2, f3⟩ := cells4 y1
  go_quiet (first
    | (go_at_call 46; exact Calls.quiet_of_same (limit_same _ _)))
  go_wp2_with fail
  generalize hY : W1.drewN nq = Y
  have hYh : Y.heap = W1.heap := by rw [← hY]; rfl
  have kY : Below W0.heap.size W0 Y := by rw [← hY]; exact b1.trans ⟨rfl, rfl, rfl, Nat.le_refl _, fun _ _ => rfl⟩
  have hR0 : RowsAt Y W0.heap.size vs1 gs1 (rowsL n cs hh) := by rw [← hY]; exact hr1.below ⟨rfl, rfl, rfl, Nat.le_refl _, fun _ _ => rfl⟩
  rw [← hYh] at hGh y1
  clear hYh hY b1 hr1 f0 f1 f2 f3 HK' HW0
  have ⟨f0, f1, f2, f3⟩ := cells4 y1
  have m1 := max2 0 (nearI rw)
  have m2 := max2 0 (nearI rh)
  have ⟨l1, l2⟩ := HXL.out rx
  have ⟨l3, l4⟩ := HXL.out ry
  have ⟨l5, l6⟩ := HXL.out rw
  have ⟨l7, l8⟩ := HXL.out rh
  have a1 : IntKind.i64.wrap (nearI rx + max 0 (nearI rw)) = nearI rx + max 0 (nearI rw) := wrap_id _ (by omega) (by omega)
  have a2 : IntKind.i64.wrap (nearI ry + max 0 (nearI rh)) = nearI ry + max 0 (nearI rh) := wrap_id _ (by omega) (by omega)
  go_quiet (first
    | (go_at_call 46; exact Calls.quiet_of_same (limit_same _ _)))
  clear a1 a2 m1 m2
  have HFG : Hid (preF n cs (fillF n hh rx ry rw rh (r, f, bk, x)) hh = fillG n hh cs rx ry rw rh (r, f, bk, x)) := rfl
  have HFL : Hid (KeepLen n (fillF n hh rx ry rw rh (r, f, bk, x))) := fillF_len n hh rx ry rw rh _
  have HF1 : Hid (∀ y : Nat, y < hh → nearI ry ≤ (y : Int) → (y : Int) < nearI ry + max 0 (nearI rh) → ∀ row, fillF n hh rx ry rw rh (r, f, bk, x) y row = mendL (putRow row (inside rx rw n) fun _ => (r, f, bk, x))) := fun y hy h1 h2 row => by
    unfold fillF
    rw [inside_iff ry rh hh y hy, if_pos (by simp only [decide_eq_true_eq]; omega)]
  have HF0 : Hid (∀ y : Nat, y < hh → ¬ (nearI ry ≤ (y : Int) ∧ (y : Int) < nearI ry + max 0 (nearI rh)) → ∀ row, fillF n hh rx ry rw rh (r, f, bk, x) y row = row) := fun y hy h1 row => by
    unfold fillF
    rw [inside_iff ry rh hh y hy, if_neg (by simp only [decide_eq_true_eq]; exact h1)]
  have HP : Hid (∀ u : Nat, u < n → inside rx rw n u = decide (nearI rx ≤ (u : Int) ∧ (u : Int) < nearI rx + max 0 (nearI rw))) := fun u hu => inside_iff rx rw n u hu
  have b5 : nearI rx + max 0 (nearI rw) ≤ 3000 := by omega
  have b6 : nearI ry + max 0 (nearI rh) ≤ 3000 := by omega
  generalize fillF n hh rx ry rw rh (r, f, bk, x) = F at HFG HFL HF0 HF1
  generalize inside rx rw n = ins at HF1 HP
  generalize nearI rx + max 0 (nearI rw) = X1 at *
  generalize nearI ry + max 0 (nearI rh) = Y1 at *
  generalize nearI rx = X0 at *
  generalize nearI ry = Y0 at *
  rw [← rowsF_zero n hh cs F] at hR0
  rw [hsz] at hR0 hGb
  have HR0 : Hid (RowsAt Y (w.heap.size + 4) vs1 gs1 (rowsF n hh cs F 0)) := hR0
  clear f0 f1 f2 f3 hR0 y1 HXL l1 l2 l3 l4 l5 l6 l7 l8
  have y2 := carry x2 kY
  have y3 := carry x3 kY
  have kN : Below w.heap.size w Y := kk.trans (kY.mono kk.size)
  clear x0 x1 x2 x3 kk kY
  go_wp2_with fail
  go_loopg [36] hh (fun q i wr => ∃ (k : Nat) (vs : List Value) (gs : List Nat), i = .int .i64 (k : Int) ∧ k ≤ hh ∧ hh - k ≤ q ∧ Below (w.heap.size + 4) Y wr ∧ wr.heap[G]? = some (.cells (vs ++ rest).toArray 22 (0, 0)) ∧ RowsAt wr (w.heap.size + 4) vs gs (rowsF n hh cs F k))
  case atStart => exact ⟨0, vs1, gs1, rfl, by omega, by omega, ⟨rfl, rfl, rfl, Nat.le_refl _, fun _ _ => rfl⟩, hGh, HR0.out.below ⟨rfl, rfl, rfl, Nat.le_refl _, fun _ _ => rfl⟩⟩
  case round =>
    clear hGh HR0
    obtain ⟨k, vs, gs, rfl, hk, hq, hb, hG, hR⟩ := hrel
    have HR : Hid (RowsAt wr (w.heap.size + 4) vs gs (rowsF n hh cs F k)) := hR
    have v2 : wr.heap[w.heap.size + 2]? = _ := (hb.block _ (by omega)).trans y2
    have v3 : wr.heap[w.heap.size + 3]? = _ := (hb.block _ (by omega)).trans y3
    have hvl : vs.length = hh := by rw [hR.1, rowsF_len]
    by_cases hlt : k < hh
    · have lt1 : ((k : Int) < (hh : Int)) := by omega
      have hrow := (hR.2.2.2 k (by rw [rowsF_len]; exact hlt))
      rw [rowsF_at n hh cs F k k hlt, if_neg (by omega)] at hrow
      obtain ⟨hgb, capk, restk, hvk, hlk, hck, hgk⟩ := hrow
      have hrl := row_len n hh cs k HL.out hlt
      rw [hrl] at hvk hlk
      have hcell := out_cell hG k (by omega)
      rw [hvk] at hcell
      generalize hgk0 : gs.getD k 0 = gk0 at *
      have HGK : Hid (gs.getD k 0 = gk0) := hgk0
      have HVK : Hid (vs.getD k nilV = .slice (some ⟨gk0, 0, none⟩) n capk) := hvk
      have HRL : Hid ((rowAt n cs k).length = n) := hrl
      have HGG : Hid (G ≠ gk0) := by
        intro e
        rw [e] at hG
        rw [hgk] at hG
        simp at hG
      clear hgk0 hR hvk hrl
      by_cases hy : Y0 ≤ (k : Int) ∧ (k : Int) < Y1
      · obtain ⟨hy0, hy1⟩ := hy
        have HFk : Hid (rowsF n hh cs F (k + 1) = (rowsF n hh cs F k).set k (mendL (putRow (rowAt n cs k) ins fun _ => (r, f, bk, x)))) := by
          unfold Hid
          rw [rowsF_set n hh cs F k hlt, HF1.out k hlt hy0 hy1]
        generalize rowAt n cs k = row at *
        go_wp2_with fail
        generalize hV : wr = V at *
        go_loopg [44] n (fun q xx wv => ∃ j : Nat, xx = .int .i64 (j : Int) ∧ j ≤ n ∧ n - j ≤ q ∧ Apart (w.heap.size + 4) [gk0] V wv ∧ wv.heap[gk0]? = some (.cells (flat (putRow row (fun u => ins u && decide (u < j)) fun _ => (r, f, bk, x)) ++ restk).toArray 40 (0, 0)))
        case atStart =>
          refine ⟨0, rfl, by omega, by omega, Apart.refl _ _ _, ?_⟩
          rw [putRow_none _ _ _ (fun u _ => by simp)]
          exact hgk
        case round =>
          obtain ⟨j, rfl, hj, hq2, hap, hgj⟩ := hrel
          have w2 := hap.carry v2 (by simp; omega)
          have wG := hap.carry hG (by simpa using HGG.out)
          have hcj := out_cell wG k (by omega)
          rw [HVK.out] at hcj
          have ⟨t0, t1, t2, t3⟩ := cells4 w2
          by_cases hjn : j < n
          · have lt2 : ((j : Int) < (n : Int)) := by omega
            by_cases hin : X0 ≤ (j : Int) ∧ (j : Int) < X1
            · obtain ⟨hx0, hx1⟩ := hin
              have HNX : Hid ((putRow row (fun u => ins u && decide (u < j)) fun _ => (r, f, bk, x)).set j (r, f, bk, x) = putRow row (fun u => ins u && decide (u < j + 1)) fun _ => (r, f, bk, x)) := putRow_set row _ _ (fun _ => (r, f, bk, x)) j (by rw [HRL.out]; exact hjn) (fun u hu => by
                by_cases huj : u = j
                · subst huj
                  rw [HP.out u hjn]
                  simp; omega
                · simp only [huj, decide_false, Bool.or_false]
                  rw [show decide (u < j + 1) = decide (u < j) by rw [decide_eq_decide]; omega])
              have hjl : j < (putRow row (fun u => ins u && decide (u < j)) fun _ => (r, f, bk, x)).length := by rw [putRow_len, HRL.out]; exact hjn
              have hth := there_cell (w := wr.drew) (pre := []) (by rw [List.nil_append]; exact hgj) j hjl
              have hsv := store_cell (w := wr.drew) (pre := []) (by rw [List.nil_append]; exact hgj) j hjl (r, f, bk, x)
              rw [List.length_nil, Nat.zero_add] at hth hsv
              rw [List.nil_append, HNX.out] at hsv
              have haz := hap.drew.setCells gk0 (j * 4) (words (r, f, bk, x)) (by simp) (by omega)
              have HSV : Hid ((wr.drew.setCells gk0 (j * 4) (words (r, f, bk, x))).heap[gk0]? = some (.cells (flat (putRow row (fun u => ins u && decide (u < j + 1)) fun _ => (r, f, bk, x)) ++ restk).toArray 40 (0, 0))) := hsv
              have HAZ : Hid (Apart (w.heap.size + 4) [gk0] V (wr.drew.setCells gk0 (j * 4) (words (r, f, bk, x)))) := haz
              have ⟨o0, o1, o2, o3⟩ := (cellsAt_flat hgj) j hjl
              rw [Nat.zero_add] at o0 o1 o2 o3
              have z0 : wr.cell? ⟨w.heap.size + 1 + 1, 0, none⟩ = _ := t0
              have z1 : wr.cell? ⟨w.heap.size + 1 + 1, 1, none⟩ = _ := t1
              have z2 : wr.cell? ⟨w.heap.size + 1 + 1, 2, none⟩ = _ := t2
              have z3 : wr.cell? ⟨w.heap.size + 1 + 1, 3, none⟩ = _ := t3
              have q0 : wr.frozen? ⟨gk0, j * 4, none⟩ = false := frozen_of hgj _
              have q1 : wr.frozen? ⟨gk0, j * 4 + 1, none⟩ = false := frozen_of hgj _
              have q2 : wr.frozen? ⟨gk0, j * 4 + 2, none⟩ = false := frozen_of hgj _
              have q3 : wr.frozen? ⟨gk0, j * 4 + 3, none⟩ = false := frozen_of hgj _
              generalize (putRow row (fun u => ins u && decide (u < j)) fun _ => (r, f, bk, x)).getD j Grd.z0 = oc at o0 o1 o2 o3
              clear hth hsv haz hjl HNX hgj t0 t1 t2 t3
              go_wp2_with fail
              go_region
              go_wp2_with fail
              go_roundg (n - (j + 1))
              case measure => omega
              case rel => exact ⟨j + 1, rfl, by omega, by omega, HAZ.out, HSV.out⟩
            · have HNX : Hid ((putRow row (fun u => ins u && decide (u < j)) fun _ => (r, f, bk, x)) = putRow row (fun u => ins u && decide (u < j + 1)) fun _ => (r, f, bk, x)) := putRow_congr _ _ _ _ _ (fun u hu => ⟨by
                by_cases huj : u = j
                · subst huj
                  rw [HP.out u hjn]
                  simp
                  exact fun h1 => Int.not_lt.1 fun h2 => hin ⟨h1, h2⟩
                · rw [show decide (u < j + 1) = decide (u < j) by rw [decide_eq_decide]; omega], fun _ => rfl⟩)
              have hxx : (decide (X0 ≤ (j : Int)) = false) ∨ (X0 ≤ (j : Int) ∧ decide ((j : Int) < X1) = false) := by
                by_cases h0 : X0 ≤ (j : Int)
                · right; exact ⟨h0, by rw [decide_eq_false_iff_not]; exact fun h => hin ⟨h0, h⟩⟩
                · left; rw [decide_eq_false_iff_not]; exact h0
              rw [HNX.out] at hgj
              clear hin HNX
              rcases hxx with g0 | ⟨g0, g1⟩
              · go_wp2_with fail
                go_roundg (n - (j + 1))
                case measure => omega
                case rel => exact ⟨j + 1, rfl, by omega, by omega, hap, hgj⟩
              · go_wp2_with fail
                go_roundg (n - (j + 1))
                case measure => omega
                case rel => exact ⟨j + 1, rfl, by omega, by omega, hap, hgj⟩
          · have lt2 : ¬ ((j : Int) < (n : Int)) := by omega
            have HPE : Hid ((putRow row (fun u => ins u && decide (u < j)) fun _ => (r, f, bk, x)) = putRow row ins fun _ => (r, f, bk, x)) := putRow_congr _ _ _ _ _ (fun u hu => ⟨by rw [HRL.out] at hu; simp; omega, fun _ => rfl⟩)
            rw [HPE.out] at hgj
            have KM := mendRow_any gk0 0 capk (putRow row ins fun _ => (r, f, bk, x)) wr (cellsAt_flat hgj) (by rw [putRow_len, HRL.out]; omega)
            rw [putRow_len, HRL.out] at KM
            have HKM : Hid (Calls Tryd.prog 29 #[.slice (some ⟨gk0, 0, none⟩) n capk] wr fun e w' => ∃ v' g, e = .returned v' ∧ wr.heap.size ≤ g ∧ RowB w' g v' (mendL (putRow row ins fun _ => (r, f, bk, x))) ∧ Below wr.heap.size wr w') := KM
            clear KM HPE
            have hkv : k < vs.length := by omega
            go_wp2_with (go_at_call 29; refine HKM.out.mono ?_; rintro e W6 ⟨v6, g6, rfl, hg6, hr6, b6⟩
                         have wG6 := carry wG b6
                         have hce : W6.cell? ⟨G, k, none⟩ = some (vs.getD k nilV) := out_cell wG6 k hkv
                         have hfz : W6.frozen? ⟨G, k, none⟩ = false := frozen_of wG6 _
                         have HR6 : Hid (RowB W6 g6 v6 (mendL (putRow row ins fun _ => (r, f, bk, x)))) := hr6
                         obtain ⟨cap6, _, rfl, _⟩ := hr6)
            have hGl : G < V.heap.size := blk_lt hG
            have hsV := hap.1.size
            have hs6 := b6.size
            go_roundg (hh - (k + 1))
            case measure => omega
            case rel =>
              refine ⟨k + 1, vs.set k (.slice (some ⟨g6, 0, none⟩) (mendL (putRow row ins fun _ => (r, f, bk, x))).length cap6), gs.set k g6, rfl, by omega, by omega, ?_, ?_, ?_⟩
              · exact ((hb.trans hap.1).trans (b6.mono (by have := hb.size; omega))).setCell (by dsimp only; omega) _
              · have := heap_setCell_same W6 G k _ _ (.slice (some ⟨g6, 0, none⟩) (mendL (putRow row ins fun _ => (r, f, bk, x))).length cap6) wG6
                rw [this]
                simp [List.set_append_left _ _ hkv]
              · rw [HFk.out]
                refine HR.out.set k (by rw [rowsF_len]; exact hlt) g6 _ _ (by omega) ?_ (fun i hi hik => ?_) (fun i hi hik => ?_)
                · obtain ⟨cp, rs, e1, e2, e3, e4⟩ := HR6.out
                  exact ⟨cp, rs, e1, e2, e3, by rw [heap_setCell_other _ _ _ _ (by dsimp only; omega)]; exact e4⟩
                · have := HR.out.lt i hi
                  omega
                · have h1 := HR.out.lt i hi
                  have h2 := HR.out.ne i k hi (by rw [rowsF_len]; exact hlt) hik
                  rw [HGK.out] at h2
                  have h3 : gs.getD i 0 ≠ G := by
                    intro e
                    obtain ⟨_, _, _, _, _, _, h5⟩ := HR.out.2.2.2 i hi
                    rw [e, hG] at h5
                    simp at h5
                  rw [heap_setCell_other _ _ _ _ (by dsimp only; exact h3), b6.block _ (by omega), hap.2 _ (by simpa using h2) h1]
      · have HFk : Hid (rowsF n hh cs F (k + 1) = rowsF n hh cs F k) := rowsF_same n hh cs F k hlt (HF0.out k hlt hy _)
        have hyy : (decide (Y0 ≤ (k : Int)) = false) ∨ (Y0 ≤ (k : Int) ∧ decide ((k : Int) < Y1) = false) := by
          by_cases h0 : Y0 ≤ (k : Int)
          · right; exact ⟨h0, by rw [decide_eq_false_iff_not]; exact fun h => hy ⟨h0, h⟩⟩
          · left; rw [decide_eq_false_iff_not]; exact h0
        clear hy
        go_wp2_with fail
        have hwr : wr = wr := rfl
        generalize hV : wr = V at *
        go_loopg [44] n (fun q xx wv => ∃ j : Nat, xx = .int .i64 (j : Int) ∧ j ≤ n ∧ n - j ≤ q ∧ wv = V)
        case atStart => exact ⟨0, rfl, by omega, by omega, rfl⟩
        case round =>
          obtain ⟨j, rfl, hj, hq2, rfl⟩ := hrel
          by_cases hjn : j < n
          · have lt2 : ((j : Int) < (n : Int)) := by omega
            rcases hyy with g0 | ⟨g0, g1⟩
            · go_wp2_with fail
              go_roundg (n - (j + 1))
              case measure => omega
              case rel => exact ⟨j + 1, rfl, by omega, by omega, rfl⟩
            · go_wp2_with fail
              go_roundg (n - (j + 1))
              case measure => omega
              case rel => exact ⟨j + 1, rfl, by omega, by omega, rfl⟩
          · have lt2 : ¬ ((j : Int) < (n : Int)) := by omega
            rcases hyy with g0 | ⟨g0, g1⟩
            · go_wp2_with fail
              go_roundg (hh - (k + 1))
              case measure => omega
              case rel => exact ⟨k + 1, vs, gs, rfl, by omega, by omega, hb, hG, by rw [HFk.out]; exact HR.out⟩
            · go_wp2_with fail
              go_roundg (hh - (k + 1))
              case measure => omega
              case rel => exact ⟨k + 1, vs, gs, rfl, by omega, by omega, hb, hG, by rw [HFk.out]; exact HR.out⟩
    · have lt1 : ¬ ((k : Int) < (hh : Int)) := by omega
      have hkh : k = hh := by omega
      subst hkh
      have KG := gridOf_any n k G cap (w.heap.size + 4) vs rest gs (rowsF n k cs F k) wr (by omega) (by omega) (by omega) (by omega) hG HR.out (rowsF_len _ _ _ _ _) (fun i hi => by
        rw [rowsF_len] at hi
        rw [rowsF_at n k cs F k i hi, if_pos hi]
        exact HFL.out i _ (row_len n k cs i HL.out hi))
      rw [rowsF_flat, HFG.out] at KG
      have HKG : Hid (Calls Tryd.prog 30 #[.slice (some ⟨G, 0, none⟩) k cap] wr fun e w' => ∃ v, e = .returned (.agg #[.int .i64 (n : Int), .int .i64 (k : Int), v]) ∧ OwnG w' wr.heap.size v (fillG n k cs rx ry rw rh (r, f, bk, x)) ∧ Below wr.heap.size wr w') := KG
      have kW : Below w.heap.size w wr := kN.trans (hb.mono (by omega))
      have hNw : w.heap.size + 3 < wr.heap.size := blk_lt v3
      clear KG
      generalize hres : fillG n k cs rx ry rw rh (r, f, bk, x) = res at HKG
      have HRES : Hid (fillG n k cs rx ry rw rh (r, f, bk, x) = res) := hres
      clear hres
      go_wp2_with (first
        | (go_at_call 30; refine HKG.out.mono ?_; rintro e W7 ⟨_, rfl, ⟨g7, c7, r7, t7, rfl, hg7, hc7, hm7, h7⟩, b7⟩; have u3 := carry v3 b7)
        | (refine wpList_store_row rfl 24 (.tmp 6) _ rfl (w.heap.size + 3) #[.int .i64 (n : Int), .int .i64 (k : Int), .slice (some ⟨g7, 0, none⟩) res.length c7] rfl rfl _ _ u3 (by kernel_rfl) rfl (one3v _ _ _ _ _) ?_))
      (try simp only [Exit.inBlock, Exit.then])
      refine bodyPost_ret (v := .agg #[.int .i64 (n : Int), .int .i64 (k : Int), .slice (some ⟨g7, 0, none⟩) res.length c7]) ?_ rfl ⟨_, rfl, ⟨g7, c7, r7, t7, by rw [HRES.out], by have := kW.size; omega, by rw [HRES.out]; exact hc7, hm7, ?_⟩, below_setRow (kW.trans (b7.mono kW.size)) (by omega) _⟩
      · exact results_cell_row rfl _ _ (w.heap.size + 3) _ _ _ _ rfl (setRow_heap _ _ _ _ _ _ u3) Tryd.underlying24 rfl (by kernel_rfl)
      · rw [setRow_other _ _ _ _ (by omega), HRES.out]
        exact h7
end Grd
end Go.Proofs.YtinhmklpnkikgaaDoor

/- The walk of the reference's LayGrid. -/
namespace Go.Proofs.YtinhmklpnkikgaaDoor
open Go.ChangeShapes Go.WideShapes Go.ChangeAt Go.RowKit Go.Maps
namespace Grd
theorem sub_in (a Y : Int) (h0 : -9223372036854775808 ≤ a - Y) (h1 : a - Y ≤ 9223372036854775807) : IntKind.i64.wrap (a - Y) = a - Y := IntWalk.i64_in _ ⟨h0, h1⟩
set_option maxHeartbeats 8000000 in
set_option maxRecDepth 100000 in
theorem layGrid_any (m p b1 o1 c1 n hh b2 o2 c2 : Nat) (px py : Int) (fs cs : List C) (w : World) (hC1 : CellsAt w b1 o1 fs) (hC2 : CellsAt w b2 o2 cs) (hok : gridErr m p fs = 0) (hok2 : gridErr n hh cs = 0) (hl1 : fs.length ≤ c1) (hl2 : cs.length ≤ c2) :
    Calls Tryd.prog 25 #[.agg #[.int .i64 (m : Int), .int .i64 (p : Int), .slice (some ⟨b1, o1, none⟩) fs.length c1], .agg #[.int .i64 (n : Int), .int .i64 (hh : Int), .slice (some ⟨b2, o2, none⟩) cs.length c2], .int .i64 px, .int .i64 py] w fun e w' => ∃ v, e = .returned (.agg #[.int .i64 (n : Int), .int .i64 (hh : Int), v]) ∧ OwnG w' w.heap.size v (layG n hh cs m p fs (nearI px) (nearI py)) ∧ Below w.heap.size w w' := by
  obtain ⟨hs1, hL1, hR1⟩ := (gridErr_zero m p fs).1 hok
  obtain ⟨hs2, hL2, hR2⟩ := (gridErr_zero n hh cs).1 hok2
  have HRR : Hid (∀ k, k < hh → mendL (rowAt n cs k) = rowAt n cs k) := fun k hk => mendL_fix _ (hR2 k hk).2
  have ⟨u0, u1, u2, u3, u4, u5⟩ := prod_in m p hs1
  have ⟨p0, p1, p2, p3, p4, p5⟩ := prod_in n hh hs2
  obtain ⟨x0, x1, x2, kk, hsz⟩ := alloc3 w (.cells #[.int .i64 (m : Int), .int .i64 (p : Int), .slice (some ⟨b1, o1, none⟩) fs.length c1] 24) (.cells #[.int .i64 (n : Int), .int .i64 (hh : Int), .slice (some ⟨b2, o2, none⟩) cs.length c2] 24) (.cells #[.int .i64 0, .int .i64 0, .slice none 0 0] 24)
  have HC1 : Hid (∀ W, Below w.heap.size w W → Calls Tryd.prog 28 #[.agg #[.int .i64 (m : Int), .int .i64 (p : Int), .slice (some ⟨b1, o1, none⟩) fs.length c1]] W fun e w' => ∃ v vs gs, e = .returned v ∧ w'.ownsRow W.heap.size 22 1 v p vs ∧ RowsAt w' W.heap.size vs gs (rowsL m fs p) ∧ Below W.heap.size W w') := fun W k => rows_any m p b1 o1 c1 fs W (hC1.below k) hs1 hL1 hl1
  have HC2 : Hid (∀ W, Below w.heap.size w W → Calls Tryd.prog 28 #[.agg #[.int .i64 (n : Int), .int .i64 (hh : Int), .slice (some ⟨b2, o2, none⟩) cs.length c2]] W fun e w' => ∃ v vs gs, e = .returned v ∧ w'.ownsRow W.heap.size 22 1 v hh vs ∧ RowsAt w' W.heap.size vs gs (rowsL n cs hh) ∧ Below W.heap.size W w') := fun W k => rows_any n hh b2 o2 c2 cs W (hC2.below k) hs2 hL2 hl2
  have HL1 : Hid (fs.length = m * p) := hL1
  have HL2 : Hid (cs.length = n * hh) := hL2
  clear hC1 hC2 hok hok2 hs1 hs2 hL1 hL2 hR1 hR2 p0 p1 u0 u1
  generalize hW0 : (((w.alloc (.cells #[.int .i64 (m : Int), .int .i64 (p : Int), .slice (some ⟨b1, o1, none⟩) fs.length c1] 24)).alloc (.cells #[.int .i64 (n : Int), .int .i64 (hh : Int), .slice (some ⟨b2, o2, none⟩) cs.length c2] 24)).alloc (.cells #[.int .i64 0, .int .i64 0, .slice none 0 0] 24)) = W0 at x0 x1 x2 kk hsz
  have HW0 : Hid (_ = W0) := hW0
  clear hW0
  have k0 : Below W0.heap.size W0 W0.drew := (Below.refl _ _).drew
  have HS : Hid (∀ W, Below W0.heap.size W0 W → (W.cell? ⟨w.heap.size, 0, none⟩ = some (.int .i64 (m : Int)) ∧ W.cell? ⟨w.heap.size, 1, none⟩ = some (.int .i64 (p : Int)) ∧ W.cell? ⟨w.heap.size, 2, none⟩ = some (.slice (some ⟨b1, o1, none⟩) fs.length c1)) ∧ (W.cell? ⟨w.heap.size + 1, 0, none⟩ = some (.int .i64 (n : Int)) ∧ W.cell? ⟨w.heap.size + 1, 1, none⟩ = some (.int .i64 (hh : Int)) ∧ W.cell? ⟨w.heap.size + 1, 2, none⟩ = some (.slice (some ⟨b2, o2, none⟩) cs.length c2))) := fun W k => by
    have a := cells3 (carry x0 k)
    have b := cells3 (carry x1 k)
    exact ⟨⟨a.1, a.2.1, a.2.2.1⟩, b.1, b.2.1, b.2.2.1⟩
  have HXL : Hid (∀ p : Int, nearI p ≤ 1000 ∧ -1000 ≤ nearI p) := fun p => ⟨(near_in p).2, (near_in p).1⟩
  go_enter Tryd.func25, Tryd.ntmps25
  go_wp2_with fail
  rw [HW0.out]
  go_region_held3 (fun W => (W.cell? ⟨w.heap.size, 0, none⟩ = some (.int .i64 (m : Int)) ∧ W.cell? ⟨w.heap.size, 1, none⟩ = some (.int .i64 (p : Int)) ∧ W.cell? ⟨w.heap.size, 2, none⟩ = some (.slice (some ⟨b1, o1, none⟩) fs.length c1)) ∧ (W.cell? ⟨w.heap.size + 1, 0, none⟩ = some (.int .i64 (n : Int)) ∧ W.cell? ⟨w.heap.size + 1, 1, none⟩ = some (.int .i64 (hh : Int)) ∧ W.cell? ⟨w.heap.size + 1, 2, none⟩ = some (.slice (some ⟨b2, o2, none⟩) cs.length c2)))
    (first
      | (exact HS.out _ k2)
      | (exact HS.out _ k1)
      | (exact HS.out _ k0))
    (first
      | (go_at_call_of 28 b1; refine (HC1.out _ (kk.trans (k0.mono kk.size))).mono ?_; rintro e W1 ⟨v1, vs1, gs1, rfl, ho1, hr1, d1⟩; have k1 := k0.trans (d1.mono k0.size))
      | (go_at_call_of 28 b2; refine (HC2.out _ (kk.trans (k1.mono kk.size))).mono ?_; rintro e W2 ⟨v2, vs2, gs2, rfl, ho2, hr2, d2⟩; have k2 := k1.trans (d2.mono k1.size)))
  have hvl1 : vs1.length = p := by rw [hr1.1, rowsL_len]
  rw [← hvl1] at ho1
  obtain ⟨G1, cap1, rest1, rfl, hGb1, hlc1, hcm1, hGh1⟩ := out_of_own ho1 (by omega)
  rw [hvl1] at hlc1
  have e1v : vs1.length = p := hvl1
  simp only [e1v]
  have hvl2 : vs2.length = hh := by rw [hr2.1, rowsL_len]
  rw [← hvl2] at ho2
  obtain ⟨G2, cap2, rest2, rfl, hGb2, hlc2, hcm2, hGh2⟩ := out_of_own ho2 (by omega)
  rw [hvl2] at hlc2
  have e2v : vs2.length = hh := hvl2
  simp only [e2v]
  clear e1v e2v ho1 ho2 HC1 HC2 HS HW0
  go_wp2_with fail
  refine (limit_same _ _).mono ?_
  rintro e W3 ⟨rfl, h3⟩
  rw [h3]
  clear h3
  go_wp2_with fail
  refine (limit_same _ _).mono ?_
  rintro e W4 ⟨rfl, h4⟩
  rw [h4]
  clear h4
  go_wp2_with fail
  have ⟨l1, l2⟩ := HXL.out px
  have ⟨l3, l4⟩ := HXL.out py
  have HFG : Hid (preF n cs (layFn m p fs (nearI px) (nearI py)) hh = layG n hh cs m p fs (nearI px) (nearI py)) := rfl
  generalize hLG : layG n hh cs m p fs (nearI px) (nearI py) = LG at HFG
  have HLG : Hid (layG n hh cs m p fs (nearI px) (nearI py) = LG) := hLG
  have HFL : Hid (KeepLen n (layFn m p fs (nearI px) (nearI py))) := layFn_len n m p fs _ _
  have HF1 : Hid (∀ y : Nat, nearI py ≤ (y : Int) → (y : Int) < nearI py + p → ∀ row, layFn m p fs (nearI px) (nearI py) y row = mendL (putRow row (layP m (nearI px)) (layF (rowAt m fs ((y : Int) - nearI py).toNat) (nearI px)))) := fun y h1 h2 row => by
    unfold layFn
    rw [if_pos (by omega)]
  have HF0 : Hid (∀ y : Nat, ¬ (nearI py ≤ (y : Int) ∧ (y : Int) < nearI py + p) → ∀ row, layFn m p fs (nearI px) (nearI py) y row = row) := fun y h1 row => by
    unfold layFn
    rw [if_neg h1]
  clear hLG HXL
  generalize layFn m p fs (nearI px) (nearI py) = F at HFG HFL HF0 HF1
  generalize nearI px = X at HF1 l1 l2 ⊢
  generalize nearI py = Y at HF0 HF1 l3 l4 ⊢
  rw [← rowsF_zero n hh cs F] at hr2
  have HR0 : Hid (RowsAt W2 W1.heap.size vs2 gs2 (rowsF n hh cs F 0)) := hr2
  have HR1 : Hid (RowsAt W1 W0.drew.heap.size vs1 gs1 (rowsL m fs p)) := hr1
  have y0 := carry x0 k1
  have y2 := carry x2 k1
  have hw1 : w.heap.size + 2 < W1.heap.size := blk_lt y2
  have hGl1 : G1 < W1.heap.size := blk_lt hGh1
  have kN1 : Below w.heap.size w W1 := kk.trans (k1.mono kk.size)
  have HD2 : Hid (Below W1.heap.size W1 W2) := d2
  clear x0 x1 x2 kk k0 k1 k2 d1 d2 hr1 hr2
  go_loopg [24] hh (fun q i wr => ∃ (k : Nat) (vs : List Value) (gs : List Nat), i = .int .i64 (k : Int) ∧ k ≤ hh ∧ hh - k ≤ q ∧ Below W1.heap.size W1 wr ∧ wr.heap[G2]? = some (.cells (vs ++ rest2).toArray 22 (0, 0)) ∧ RowsAt wr W1.heap.size vs gs (rowsF n hh cs F k))
  case atStart => exact ⟨0, vs2, gs2, rfl, by omega, by omega, HD2.out, hGh2, HR0.out⟩
  case round =>
    clear hGh2 HR0
    obtain ⟨k, vs, gs, rfl, hk, hq, hb, hG, hR⟩ := hrel
    have HR : Hid (RowsAt wr W1.heap.size vs gs (rowsF n hh cs F k)) := hR
    have v0 : wr.heap[w.heap.size]? = _ := (hb.block _ (by omega)).trans y0
    have v2 : wr.heap[w.heap.size + 2]? = _ := (hb.block _ (by omega)).trans y2
    have hvl : vs.length = hh := by rw [hR.1, rowsF_len]
    by_cases hlt : k < hh
    · have lt1 : ((k : Int) < (hh : Int)) := by omega
      have hrow := (hR.2.2.2 k (by rw [rowsF_len]; exact hlt))
      rw [rowsF_at n hh cs F k k hlt, if_neg (by omega)] at hrow
      obtain ⟨hgb, capk, restk, hvk, hlk, hck, hgk⟩ := hrow
      have hrl := row_len n hh cs k HL2.out hlt
      rw [hrl] at hvk hlk
      have hcell := out_cell hG k (by omega)
      rw [hvk] at hcell
      generalize hgk0 : gs.getD k 0 = gk0 at *
      have HGK : Hid (gs.getD k 0 = gk0) := hgk0
      have HVK : Hid (vs.getD k nilV = .slice (some ⟨gk0, 0, none⟩) n capk) := hvk
      have HRL : Hid ((rowAt n cs k).length = n) := hrl
      have HGG : Hid (G2 ≠ gk0) := by
        intro e
        rw [e] at hG
        rw [hgk] at hG
        simp at hG
      clear hgk0 hR hvk hrl
      by_cases hy : Y ≤ (k : Int) ∧ (k : Int) < Y + p
      · obtain ⟨qy, hqy⟩ := Int.eq_ofNat_of_zero_le (show 0 ≤ (k : Int) - Y by omega)
        have hqp : qy < p := by omega
        have hsub : IntKind.i64.wrap ((k : Int) - Y) = (qy : Int) := by rw [hqy]; exact IntWalk.i64_in _ (by omega)
        have HFk : Hid (rowsF n hh cs F (k + 1) = (rowsF n hh cs F k).set k (mendL (putRow (rowAt n cs k) (layP m X) (layF (rowAt m fs qy) X)))) := by
          unfold Hid
          rw [rowsF_set n hh cs F k hlt, HF1.out k hy.1 hy.2, hqy]
          rfl
        have HFs : Hid (putRow (rowAt n cs k) (layP m X) (layF (rowAt m fs qy) X) = rowAt n cs k → rowsF n hh cs F (k + 1) = rowsF n hh cs F k) := fun h => by
          refine rowsF_same n hh cs F k hlt ?_
          rw [HF1.out k hy.1 hy.2, hqy]
          show mendL (putRow (rowAt n cs k) (layP m X) (layF (rowAt m fs qy) X)) = _
          rw [h, HRR.out k hlt]
        have hfr := (HR1.out.2.2.2 qy (by rw [rowsL_len]; exact hqp))
        have hfl := row_len m p fs qy HL1.out hqp
        rw [show (rowsL m fs p).getD qy [] = rowAt m fs qy by simp [rowsL, List.getD, hqp]] at hfr
        obtain ⟨-, capa, resta, hva, hla, hca, hga⟩ := hfr
        rw [hfl] at hva hla
        have hce1 := out_cell hGh1 qy (by omega)
        rw [hva] at hce1
        generalize gs1.getD qy 0 = ga at *
        have hgal : ga < W1.heap.size := blk_lt hga
        have HFRL : Hid ((rowAt m fs qy).length = m) := hfl
        have HGA : Hid (W1.heap[ga]? = some (.cells (flat (rowAt m fs qy) ++ resta).toArray 40 (0, 0))) := hga
        have HG1 : Hid (W1.heap[G1]? = some (.cells (vs1 ++ rest1).toArray 22 (0, 0))) := hGh1
        have HVA : Hid (vs1.getD qy nilV = .slice (some ⟨ga, 0, none⟩) m capa) := hva
        have hqp' : (qy : Int) < (p : Int) := by omega
        clear hqy hy hva hce1 hga hfl hGh1
        generalize rowAt n cs k = row at *
        generalize rowAt m fs qy = frow at *
        go_wp2_with fail
        generalize hV : wr = V at *
        go_loopg [12, 32] n (fun q tt xx wv => ∃ (j : Nat) (t : Bool), tt = .bool t ∧ xx = .int .i64 (j : Int) ∧ j ≤ n ∧ n - j ≤ q ∧ Hid (t = false → ∀ u, u < j → layP m X u = false) ∧ Apart W1.heap.size [gk0] V wv ∧ wv.heap[gk0]? = some (.cells (flat (putRow row (fun u => layP m X u && decide (u < j)) (layF frow X)) ++ restk).toArray 40 (0, 0)))
        case atStart =>
          refine ⟨0, false, rfl, rfl, by omega, by omega, fun _ u hu => absurd hu (by omega), Apart.refl _ _ _, ?_⟩
          rw [putRow_none _ _ _ (fun u _ => by simp)]
          exact hgk
        case round =>
          obtain ⟨j, t, rfl, rfl, hj, hq2, ht, hap, hgj⟩ := hrel
          have w0 := hap.carry v0 (by simp; omega)
          have wG := hap.carry hG (by simpa using HGG.out)
          have hcj := out_cell wG k (by omega)
          rw [HVK.out] at hcj
          have wA := (hap.1.block ga hgal).trans ((hb.block ga hgal).trans HGA.out)
          have wB := (hap.1.block G1 hGl1).trans ((hb.block G1 hGl1).trans HG1.out)
          have hca1 := out_cell wB qy (by omega)
          rw [HVA.out] at hca1
          obtain ⟨t0, t1, t2, _⟩ := cells3 w0
          by_cases hjn : j < n
          · have lt2 : ((j : Int) < (n : Int)) := by omega
            by_cases hin : X ≤ (j : Int) ∧ (j : Int) < X + m
            · obtain ⟨u, hu⟩ := Int.eq_ofNat_of_zero_le (show 0 ≤ (j : Int) - X by omega)
              have hum : u < m := by omega
              have hum' : (u : Int) < (m : Int) := by omega
              have hsu : IntKind.i64.wrap ((j : Int) - X) = (u : Int) := by rw [hu]; exact IntWalk.i64_in _ (by omega)
              have HLF : Hid (layF frow X j = frow.getD u z0) := by unfold Hid layF; rw [hu]; rfl
              have hjl : j < (putRow row (fun u => layP m X u && decide (u < j)) (layF frow X)).length := by rw [putRow_len, HRL.out]; exact hjn
              have hsv := store_cell (w := wr.drew) (pre := []) (by rw [List.nil_append]; exact hgj) j hjl (layF frow X j)
              rw [List.length_nil, Nat.zero_add] at hsv
              rw [List.nil_append, putRow_set row _ (fun u => layP m X u && decide (u < j + 1)) (layF frow X) j (by rw [HRL.out]; exact hjn) (fun v _ => by
                by_cases hvj : v = j
                · subst hvj; unfold layP; simp; omega
                · simp only [hvj, decide_false, Bool.or_false]
                  rw [show decide (v < j + 1) = decide (v < j) by rw [decide_eq_decide]; omega])] at hsv
              rw [HLF.out] at hsv
              have ⟨c0, c1', c2', c3⟩ := (cellsAt_flat wA) u (by rw [HFRL.out]; exact hum)
              rw [Nat.zero_add] at c0 c1' c2' c3
              rcases hce : frow.getD u z0 with ⟨r, f, bk, x⟩
              rw [hce] at hsv c0 c1' c2' c3
              dsimp only at c0 c1' c2' c3
              have HSV : Hid ((wr.drew.setCells gk0 (j * 4) (words (r, f, bk, x))).heap[gk0]? = some (.cells (flat (putRow row (fun u => layP m X u && decide (u < j + 1)) (layF frow X)) ++ restk).toArray 40 (0, 0))) := hsv
              have HAZ : Hid (Apart W1.heap.size [gk0] V (wr.drew.setCells gk0 (j * 4) (words (r, f, bk, x)))) := hap.drew.setCells gk0 (j * 4) (words (r, f, bk, x)) (by simp) (by omega)
              have ⟨o0, o1', o2', o3⟩ := (cellsAt_flat hgj) j hjl
              rw [Nat.zero_add] at o0 o1' o2' o3
              have q0 : wr.frozen? ⟨gk0, j * 4, none⟩ = false := frozen_of hgj _
              have q1 : wr.frozen? ⟨gk0, j * 4 + 1, none⟩ = false := frozen_of hgj _
              have q2 : wr.frozen? ⟨gk0, j * 4 + 2, none⟩ = false := frozen_of hgj _
              have q3 : wr.frozen? ⟨gk0, j * 4 + 3, none⟩ = false := frozen_of hgj _
              generalize (putRow row (fun u => layP m X u && decide (u < j)) (layF frow X)).getD j Grd.z0 = oc at o0 o1' o2' o3
              clear hsv hjl hgj hce hu hin HLF wA wB wG w0
              go_wp2_with fail
              go_region
              go_wp2_with fail
              go_roundg (n - (j + 1))
              case measure => omega
              case rel => exact ⟨j + 1, true, rfl, rfl, by omega, by omega, (fun h => by cases h), HAZ.out, HSV.out⟩
            · have HLP : Hid (layP m X j = false) := by unfold Hid layP; rw [decide_eq_false_iff_not]; exact hin
              have HNX : Hid ((putRow row (fun u => layP m X u && decide (u < j)) (layF frow X)) = putRow row (fun u => layP m X u && decide (u < j + 1)) (layF frow X)) := putRow_congr _ _ _ _ _ (fun u hu => ⟨by
                by_cases huj : u = j
                · subst huj
                  rw [HLP.out]; simp
                · rw [show decide (u < j + 1) = decide (u < j) by rw [decide_eq_decide]; omega], fun _ => rfl⟩)
              have HT2 : Hid (t = false → ∀ u, u < j + 1 → layP m X u = false) := fun h u hu => by
                by_cases huj : u = j
                · subst huj; exact HLP.out
                · exact ht.out h u (by omega)
              rw [HNX.out] at hgj
              by_cases h0 : 0 ≤ (j : Int) - X
              · obtain ⟨u, hu⟩ := Int.eq_ofNat_of_zero_le h0
                have hsu : IntKind.i64.wrap ((j : Int) - X) = (u : Int) := by rw [hu]; exact IntWalk.i64_in _ (by omega)
                have f1 : ¬ ((u : Int) < (m : Int)) := by omega
                have g1 : decide ((u : Int) < (m : Int)) = false := by rw [decide_eq_false_iff_not]; omega
                clear hin hu h0
                go_wp2_with fail
                go_roundg (n - (j + 1))
                case measure => omega
                case rel => exact ⟨j + 1, t, rfl, rfl, by omega, by omega, HT2, hap, hgj⟩
              · have hsu : IntKind.i64.wrap ((j : Int) - X) = (j : Int) - X := IntWalk.i64_in _ (by omega)
                have f1 : ¬ (0 ≤ (j : Int) - X) := h0
                have g1 : decide (0 ≤ (j : Int) - X) = false := by rw [decide_eq_false_iff_not]; exact h0
                clear hin h0
                go_wp2_with fail
                go_roundg (n - (j + 1))
                case measure => omega
                case rel => exact ⟨j + 1, t, rfl, rfl, by omega, by omega, HT2, hap, hgj⟩
          · have lt2 : ¬ ((j : Int) < (n : Int)) := by omega
            have HPE : Hid ((putRow row (fun u => layP m X u && decide (u < j)) (layF frow X)) = putRow row (layP m X) (layF frow X)) := putRow_congr _ _ _ _ _ (fun u hu => ⟨by rw [HRL.out] at hu; simp; omega, fun _ => rfl⟩)
            rw [HPE.out] at hgj
            clear wA wB t0 t1 t2 w0 hca1
            cases t
            · have HSM : Hid (putRow row (layP m X) (layF frow X) = row) := putRow_none _ _ _ (fun u hu => ht.out rfl u (by rw [HRL.out] at hu; omega))
              rw [HSM.out] at hgj
              go_wp2_with fail
              go_roundg (hh - (k + 1))
              case measure => omega
              case rel =>
                refine ⟨k + 1, vs, gs, rfl, by omega, by omega, hb.trans hap.1, wG, ?_⟩
                rw [HFs.out HSM.out]
                refine HR.out.kept fun i hi => ?_
                by_cases hik : i = k
                · subst hik
                  rw [HGK.out, hgj, hgk]
                · have h1 := HR.out.lt i hi
                  have h2 := HR.out.ne i k hi (by rw [rowsF_len]; exact hlt) hik
                  rw [HGK.out] at h2
                  exact hap.2 _ (by simpa using h2) h1
            · have KM := mendRow_any gk0 0 capk (putRow row (layP m X) (layF frow X)) wr (cellsAt_flat hgj) (by rw [putRow_len, HRL.out]; omega)
              rw [putRow_len, HRL.out] at KM
              have HKM : Hid (Calls Tryd.prog 29 #[.slice (some ⟨gk0, 0, none⟩) n capk] wr fun e w' => ∃ v' g, e = .returned v' ∧ wr.heap.size ≤ g ∧ RowB w' g v' (mendL (putRow row (layP m X) (layF frow X))) ∧ Below wr.heap.size wr w') := KM
              clear KM HPE
              have hkv : k < vs.length := by omega
              go_wp2_with (go_at_call 29; refine HKM.out.mono ?_; rintro e W6 ⟨v6, g6, rfl, hg6, hr6, b6⟩
                           have wG6 := carry wG b6
                           have hce : W6.cell? ⟨G2, k, none⟩ = some (vs.getD k nilV) := out_cell wG6 k hkv
                           have hfz : W6.frozen? ⟨G2, k, none⟩ = false := frozen_of wG6 _
                           have HR6 : Hid (RowB W6 g6 v6 (mendL (putRow row (layP m X) (layF frow X)))) := hr6
                           obtain ⟨cap6, _, rfl, _⟩ := hr6)
              have hGl : G2 < V.heap.size := blk_lt hG
              have hsV := hap.1.size
              have hs6 := b6.size
              have hbs := hb.size
              go_roundg (hh - (k + 1))
              case measure => omega
              case rel =>
                refine ⟨k + 1, vs.set k (.slice (some ⟨g6, 0, none⟩) (mendL (putRow row (layP m X) (layF frow X))).length cap6), gs.set k g6, rfl, by omega, by omega, ?_, ?_, ?_⟩
                · exact ((hb.trans hap.1).trans (b6.mono (by omega))).setCell (by dsimp only; omega) _
                · have := heap_setCell_same W6 G2 k _ _ (.slice (some ⟨g6, 0, none⟩) (mendL (putRow row (layP m X) (layF frow X))).length cap6) wG6
                  rw [this]
                  simp [List.set_append_left _ _ hkv]
                · rw [HFk.out]
                  refine HR.out.set k (by rw [rowsF_len]; exact hlt) g6 _ _ (by omega) ?_ (fun i hi hik => ?_) (fun i hi hik => ?_)
                  · obtain ⟨cp, rs, e1, e2, e3, e4⟩ := HR6.out
                    exact ⟨cp, rs, e1, e2, e3, by rw [heap_setCell_other _ _ _ _ (by dsimp only; omega)]; exact e4⟩
                  · have := HR.out.lt i hi
                    omega
                  · have h1 := HR.out.lt i hi
                    have h2 := HR.out.ne i k hi (by rw [rowsF_len]; exact hlt) hik
                    rw [HGK.out] at h2
                    have h3 : gs.getD i 0 ≠ G2 := by
                      intro e
                      obtain ⟨_, _, _, _, _, _, h5⟩ := HR.out.2.2.2 i hi
                      rw [e, hG] at h5
                      simp at h5
                    rw [heap_setCell_other _ _ _ _ (by dsimp only; exact h3), b6.block _ (by omega), hap.2 _ (by simpa using h2) h1]
      · have HFk : Hid (rowsF n hh cs F (k + 1) = rowsF n hh cs F k) := rowsF_same n hh cs F k hlt (HF0.out k hy _)
        have hyy : (IntKind.i64.wrap ((k : Int) - Y) = (k : Int) - Y ∧ decide (0 ≤ (k : Int) - Y) = false) ∨ (∃ qy : Nat, IntKind.i64.wrap ((k : Int) - Y) = (qy : Int) ∧ decide ((qy : Int) < (p : Int)) = false) := by
          by_cases h0 : 0 ≤ (k : Int) - Y
          · right
            obtain ⟨qy, hqy⟩ := Int.eq_ofNat_of_zero_le h0
            exact ⟨qy, by rw [hqy]; exact IntWalk.i64_in _ (by omega), by rw [decide_eq_false_iff_not]; omega⟩
          · left; exact ⟨IntWalk.i64_in _ (by omega), by rw [decide_eq_false_iff_not]; exact h0⟩
        obtain ⟨t0, t1, t2, _⟩ := cells3 v0
        clear hy
        go_wp2_with fail
        generalize hV : wr = V at *
        go_loopg [12, 32] n (fun q tt xx wv => ∃ j : Nat, tt = .bool false ∧ xx = .int .i64 (j : Int) ∧ j ≤ n ∧ n - j ≤ q ∧ wv = V)
        case atStart => exact ⟨0, rfl, rfl, by omega, by omega, rfl⟩
        case round =>
          obtain ⟨j, rfl, rfl, hj, hq2, rfl⟩ := hrel
          by_cases hjn : j < n
          · have lt2 : ((j : Int) < (n : Int)) := by omega
            rcases hyy with ⟨hsub, g1⟩ | ⟨qy, hsub, g1⟩
            · have f1 := of_decide_eq_false g1
              go_wp2_with fail
              go_roundg (n - (j + 1))
              case measure => omega
              case rel => exact ⟨j + 1, rfl, rfl, by omega, by omega, rfl⟩
            · have f1 := of_decide_eq_false g1
              go_wp2_with fail
              go_roundg (n - (j + 1))
              case measure => omega
              case rel => exact ⟨j + 1, rfl, rfl, by omega, by omega, rfl⟩
          · have lt2 : ¬ ((j : Int) < (n : Int)) := by omega
            clear hyy
            go_wp2_with fail
            go_roundg (hh - (k + 1))
            case measure => omega
            case rel => exact ⟨k + 1, vs, gs, rfl, by omega, by omega, hb, hG, by rw [HFk.out]; exact HR.out⟩
    · have lt1 : ¬ ((k : Int) < (hh : Int)) := by omega
      have hkh : k = hh := by omega
      subst hkh
      have KG := gridOf_any n k G2 cap2 W1.heap.size vs rest2 gs (rowsF n k cs F k) wr (by omega) (by omega) (by omega) (by omega) hG HR.out (rowsF_len _ _ _ _ _) (fun i hi => by
        rw [rowsF_len] at hi
        rw [rowsF_at n k cs F k i hi, if_pos hi]
        exact HFL.out i _ (row_len n k cs i HL2.out hi))
      rw [rowsF_flat, HFG.out] at KG
      have HKG : Hid (Calls Tryd.prog 30 #[.slice (some ⟨G2, 0, none⟩) k cap2] wr fun e w' => ∃ v, e = .returned (.agg #[.int .i64 (n : Int), .int .i64 (k : Int), v]) ∧ OwnG w' wr.heap.size v LG ∧ Below wr.heap.size wr w') := KG
      have kW : Below w.heap.size w wr := kN1.trans (hb.mono (by omega))
      have hNw : w.heap.size + 2 < wr.heap.size := blk_lt v2
      clear KG
      go_wp2_with (first
        | (go_at_call 30; refine HKG.out.mono ?_; rintro e W7 ⟨_, rfl, ⟨g7, c7, r7, t7, rfl, hg7, hc7, hm7, h7⟩, b7⟩; have u3' := carry v2 b7)
        | (refine wpList_store_row rfl 24 (.tmp 8) _ rfl (w.heap.size + 2) #[.int .i64 (n : Int), .int .i64 (k : Int), .slice (some ⟨g7, 0, none⟩) LG.length c7] rfl rfl _ _ u3' (by kernel_rfl) rfl (one3v _ _ _ _ _) ?_))
      (try simp only [Exit.inBlock, Exit.then])
      refine bodyPost_ret (v := .agg #[.int .i64 (n : Int), .int .i64 (k : Int), .slice (some ⟨g7, 0, none⟩) LG.length c7]) ?_ rfl ⟨_, rfl, ⟨g7, c7, r7, t7, by rw [HLG.out], by have := kW.size; omega, by rw [HLG.out]; exact hc7, hm7, ?_⟩, below_setRow (kW.trans (b7.mono kW.size)) (by omega) _⟩
      · exact results_cell_row rfl _ _ (w.heap.size + 2) _ _ _ _ rfl (setRow_heap _ _ _ _ _ _ u3') Tryd.underlying24 rfl (by kernel_rfl)
      · rw [setRow_other _ _ _ _ (by omega), HLG.out]
        exact h7
end Grd
end Go.Proofs.YtinhmklpnkikgaaDoor

/- The shelf's contract for (*strings.Builder).WriteRune, laid at this program by hand. -/
namespace Go.Proofs
open Go.Shelf
def Tryd.lays168_ren : Go.Shelf.Ren := ⟨fun | 168 => 50 | 240 => 58 | 242 => 59 | 276 => 66 | 278 => 67 | n => n, fun | 0 => 0 | 3 => 3 | 4 => 4 | 5 => 5 | 9 => 9 | 20 => 20 | 21 => 21 | 37 => 79 | 46 => 89 | 51 => 106 | 70 => 78 | 72 => 81 | 75 => 83 | 80 => 87 | 164 => 112 | n => n, fun | n => n⟩
theorem Tryd.lays168 : Go.Proofs.Lays.n168 Tryd.prog Tryd.lays168_ren := {
  mixed := by kernel_rfl
  f168 := Tryd.func50.trans (congrArg some (by kernel_rfl))
  f240 := Tryd.func58.trans (congrArg some (by kernel_rfl))
  f242 := Tryd.func59.trans (congrArg some (by kernel_rfl))
  f276 := Tryd.func66.trans (congrArg some (by kernel_rfl))
  f278 := Tryd.func67.trans (congrArg some (by kernel_rfl))
  t0 := Tryd.underlying0
  a0 := Tryd.isAgg0
  z0 := Tryd.sizeOf0
  v0 := Tryd.zeroValue0
  t3 := Tryd.underlying3
  a3 := Tryd.isAgg3
  z3 := Tryd.sizeOf3
  v3 := Tryd.zeroValue3
  t4 := Tryd.underlying4
  a4 := Tryd.isAgg4
  z4 := Tryd.sizeOf4
  v4 := Tryd.zeroValue4
  t5 := Tryd.underlying5
  a5 := Tryd.isAgg5
  z5 := Tryd.sizeOf5
  v5 := Tryd.zeroValue5
  t9 := Tryd.underlying9
  a9 := Tryd.isAgg9
  z9 := Tryd.sizeOf9
  v9 := Tryd.zeroValue9
  t20 := Tryd.underlying20
  a20 := Tryd.isAgg20
  z20 := Tryd.sizeOf20
  v20 := Tryd.zeroValue20
  t21 := Tryd.underlying21
  a21 := Tryd.isAgg21
  z21 := Tryd.sizeOf21
  v21 := Tryd.zeroValue21
  t37 := Tryd.underlying79
  a37 := Tryd.isAgg79
  z37 := Tryd.sizeOf79
  v37 := Tryd.zeroValue79
  t46 := Tryd.underlying89
  a46 := Tryd.isAgg89
  z46 := Tryd.sizeOf89
  v46 := Tryd.zeroValue89
  t51 := Tryd.underlying106
  a51 := Tryd.isAgg106
  z51 := Tryd.sizeOf106
  v51 := Tryd.zeroValue106
  t70 := Tryd.underlying78
  a70 := Tryd.isAgg78
  z70 := Tryd.sizeOf78
  v70 := Tryd.zeroValue78
  t72 := Tryd.underlying81
  a72 := Tryd.isAgg81
  z72 := Tryd.sizeOf81
  v72 := Tryd.zeroValue81
  t75 := Tryd.underlying83
  a75 := Tryd.isAgg83
  z75 := Tryd.sizeOf83
  v75 := Tryd.zeroValue83
  t164 := Tryd.underlying112
  a164 := Tryd.isAgg112
  z164 := Tryd.sizeOf112
  v164 := Tryd.zeroValue112
}
theorem Tryd.Builder_Extra_168 : Builder.Extra Tryd.prog Tryd.lays168_ren := {
  sizeBuilder := by kernel_rfl
  liesBuilder := by kernel_rfl
  t5 := Tryd.underlying5
  a5 := Tryd.isAgg5
  z5 := Tryd.sizeOf5
  v5 := Tryd.zeroValue5
  infoByte := by kernel_rfl
  cellsByte := by kernel_rfl
  sizeByte := by kernel_rfl
  neB5 := by decide }
open Go.RowKit in
theorem Tryd.Builder_WriteRune_k (B b : Nat) (bs : List Value) (r : Int) (hr0 : -2147483648 ≤ r) (hr1 : r ≤ 2147483647) (w : World) (h : Lib.IsBuilderF 81 5 B b bs w) (hlen : bs.length + 4 ≤ 140737488355328) (hBw : B ≤ w.heap.size) :
    Calls Tryd.prog 50 #[.pointer (some ⟨b, 0, none⟩), .int .i32 r] w fun e w' => e = .returned (.tuple #[.int .i64 (Lib.runeCells r).length, .nilIface]) ∧ (Lib.BuilderAtF 81 5 B b (.pointer (some ⟨b, 0, none⟩)) (bs ++ Lib.runeCells r) w' ∧ Below B w w' ∧ Lib.OthersKept 5 (some b) w w') := Any.Builder_WriteRune_k Tryd.lays168 Tryd.Builder_Extra_168 B b bs r hr0 hr1 w h hlen hBw
end Go.Proofs

/- The walk of grid.Lines. -/
namespace Go.Proofs.YtinhmklpnkikgaaDoor
open Go.ChangeShapes Go.WideShapes Go.ChangeAt Go.RowKit
namespace Grd
open Txt (wd)
open Sty (isSt)
/-- The bytes of a row's runes, and without blanks at the end. -/
def rowBytes (row : List C) : List UInt8 := row.flatMap fun c => if c.1 = 0 then [] else Lib.encodeRune c.1
def lineB (row : List C) : ByteArray := ⟨(Lib.trimRightB (rowBytes row) 32).toArray⟩
def linesL (n hh : Nat) (cs : List C) : List ByteArray := (List.range hh).map fun y => lineB (rowAt n cs y)
/-- A slice of the call's own, of texts. -/
def OwnS (w : World) (base : Nat) (v : Value) (ss : List ByteArray) : Prop := ∃ (g : Nat) (t : TypeId), v = .slice (some ⟨g, 0, none⟩) ss.length ss.length ∧ base ≤ g ∧ w.heap[g]? = some (.cells (ss.map Value.string).toArray t (0, 0))
theorem builder_below {T e : TypeId} {B b : Nat} {bs : List Value} {w w' : World} (h : Lib.IsBuilderF T e B b bs w) (hb : Below w.heap.size w w') : Lib.IsBuilderF T e B b bs w' := by
  have key : ∀ p, Lib.BuilderAtF T e B b p bs w → Lib.BuilderAtF T e B b p bs w' := by
    rintro p ⟨hB, v, hh, hown, hne⟩
    refine ⟨hB, v, by rw [hb.block b (Array.getElem?_eq_some_iff.1 hh).1]; exact hh, ⟨hown.1, ?_⟩, hne⟩
    rcases hown.2 with hn | ⟨g, cap, cur, fz, hv, hbg, hg, rest⟩
    · exact .inl hn
    · exact .inr ⟨g, cap, cur, fz, hv, hbg, by rw [hb.block g (Array.getElem?_eq_some_iff.1 hg).1]; exact hg, rest⟩
  exact h.elim (fun x => .inl (key _ x)) (fun x => .inr (key _ x))
theorem encode_len (r : Int) : (Lib.encodeRune r).length ≤ 4 := by
  rw [← Lib.runeCells_length]; exact (Lib.runeCells_le r).2
theorem und_strs : Tryd.prog.underlying 60 = some (.slice 9) := by kernel_rfl
theorem info_str : (Tryd.prog.info? 9).map (fun i => (i.zero, i.size, i.bytes)) = some (some (.string ByteArray.empty), 1, 16) := by kernel_rfl
theorem make_strs (N : Nat) (hN : N ≤ 1000000) (w : World) :
    (Instr.makeSlice 60 (.int .i64 (N : Int)) (.int .i64 (N : Int))).run Tryd.prog w = .ok (.slice (some ⟨w.heap.size, 0, none⟩) N N) (w.alloc (.cells (madeCells #[.string ByteArray.empty] (N * 1)) 9)) := by
  obtain ⟨i, hi, hzz⟩ := Option.map_eq_some_iff.1 info_str
  simp only [Prod.mk.injEq] at hzz
  obtain ⟨hz, hs, hb⟩ := hzz
  have hr := run_make (P := Tryd.prog) w 60 9 i _ und_strs hi hz .i64 .i64 N N (by omega) (Int.le_refl _) (by rw [hb]; omega) (by omega)
  simp only [Int.toNat_natCast, hs] at hr
  exact hr
set_option maxHeartbeats 1000000 in
theorem lines_bad (a h : Int) (v : Value) (cs : List C) (w : World) (hT : Txt.Tab w) (hS : SliceAt w v cs) (hok : gridErr a h cs ≠ 0) :
    Calls Tryd.prog 31 #[.agg #[.int .i64 a, .int .i64 h, v]] w fun e w' => e = .returned (.tuple #[.slice none 0 0, .int .i64 (gridErr a h cs)]) ∧ Below w.heap.size w w' := by
  have kk : Below w.heap.size w (w.alloc (.cells #[.int .i64 a, .int .i64 h, v] 24)) := (Below.refl _ _).alloc (Nat.le_refl _) _
  have HK := check_any a h v cs _ (Tab.next hT kk) (hS.below kk)
  generalize gridErr a h cs = er at *
  have HK' : Hid (Calls Tryd.prog 11 #[.agg #[.int .i64 a, .int .i64 h, v]] (w.alloc (.cells #[.int .i64 a, .int .i64 h, v] 24)) fun e w' => e = .returned (.int .i64 er) ∧ Below (w.alloc (.cells #[.int .i64 a, .int .i64 h, v] 24)).heap.size (w.alloc (.cells #[.int .i64 a, .int .i64 h, v] 24)) w') := HK
  have ne : (er != 0) = true := by simpa using hok
  clear HK hok
  go_enter Tryd.func31, Tryd.ntmps31
  go_wp2_with (go_at_call 11; refine HK'.out.mono ?_; rintro e W1 ⟨rfl, b1⟩)
  go_ret2
  exact ⟨rfl, kk.trans (b1.mono kk.size)⟩
theorem cellR_in (n hh : Nat) (cs : List C) (hok : gridErr n hh cs = 0) (y j : Nat) (hy : y < hh) (hj : j < n) : 0 ≤ ((rowAt n cs y).getD j z0).1 ∧ ((rowAt n cs y).getD j z0).1 ≤ 1114111 := by
  obtain ⟨_, hL, hr⟩ := (gridErr_zero n hh cs).1 hok
  have := ((hr y hy).1 j (by rw [row_len n hh cs y hL hy]; exact hj)).1
  generalize ((rowAt n cs y).getD j z0).1 = r at *
  by_cases h0 : r = 0
  · omega
  · have := this h0
    unfold Txt.wd at this
    by_cases hc : r < 0 ∨ 1114111 < r
    · rw [if_pos hc] at this; exact absurd rfl this
    · omega
theorem rowBytes_next (row : List C) (j : Nat) (hj : j < row.length) : rowBytes (row.take (j + 1)) = rowBytes (row.take j) ++ (if (row.getD j z0).1 = 0 then [] else Lib.encodeRune (row.getD j z0).1) := by
  unfold rowBytes
  rw [List.take_add_one, List.flatMap_append, List.getElem?_eq_getElem hj]
  have : row.getD j z0 = row[j] := by simp [List.getD, hj]
  rw [this]
  simp
end Grd
end Go.Proofs.YtinhmklpnkikgaaDoor

/- The walk of grid.Lines: a right grid. -/
namespace Go.Proofs.YtinhmklpnkikgaaDoor
open Go.ChangeShapes Go.WideShapes Go.ChangeAt Go.RowKit
namespace Grd
open Txt (wd)
open Sty (isSt)
set_option maxHeartbeats 8000000 in
set_option maxRecDepth 100000 in
theorem lines_good (n hh b o cx : Nat) (cs : List C) (w : World) (hT : Txt.Tab w) (hC : CellsAt w b o cs) (hok : gridErr n hh cs = 0) (hc : cs.length ≤ cx) (hm : cx ≤ 9223372036854775807) :
    Calls Tryd.prog 31 #[.agg #[.int .i64 (n : Int), .int .i64 (hh : Int), .slice (some ⟨b, o, none⟩) cs.length cx]] w fun e w' => ∃ v, e = .returned (.tuple #[v, .int .i64 0]) ∧ OwnS w' w.heap.size v (linesL n hh cs) ∧ Below w.heap.size w w' := by
  obtain ⟨hsize, hL, hrows⟩ := (gridErr_zero n hh cs).1 hok
  have ⟨p0, p1, p2, p3, p4, p5⟩ := prod_in n hh hsize
  have hne : cs ≠ [] := by
    intro h
    rw [h, List.length_nil] at hL
    have : 0 < n * hh := Nat.mul_pos (by omega) (by omega)
    omega
  have hS : SliceAt w (.slice (some ⟨b, o, none⟩) cs.length cx) cs := .inr ⟨hne, b, o, cx, rfl, hc, hm, hC⟩
  have HIN : Hid (∀ y j, y < hh → j < n → 0 ≤ ((rowAt n cs y).getD j z0).1 ∧ ((rowAt n cs y).getD j z0).1 ≤ 1114111) := fun y j hy hj => cellR_in n hh cs hok y j hy hj
  have HC : Hid (CellsAt w b o cs) := hC
  have HL : Hid (cs.length = n * hh) := hL
  have kk : Below w.heap.size w (w.alloc (.cells #[.int .i64 (n : Int), .int .i64 (hh : Int), .slice (some ⟨b, o, none⟩) cs.length cx] 24)) := (Below.refl _ _).alloc (Nat.le_refl _) _
  have HK' : Hid (Calls Tryd.prog 11 #[.agg #[.int .i64 (n : Int), .int .i64 (hh : Int), .slice (some ⟨b, o, none⟩) cs.length cx]] (w.alloc (.cells #[.int .i64 (n : Int), .int .i64 (hh : Int), .slice (some ⟨b, o, none⟩) cs.length cx] 24)) fun e w' => e = .returned (.int .i64 0) ∧ Below (w.alloc (.cells #[.int .i64 (n : Int), .int .i64 (hh : Int), .slice (some ⟨b, o, none⟩) cs.length cx] 24)).heap.size (w.alloc (.cells #[.int .i64 (n : Int), .int .i64 (hh : Int), .slice (some ⟨b, o, none⟩) cs.length cx] 24)) w') := check_ok n hh _ cs _ (Tab.next hT kk) (hS.below kk) hok
  have hmk := make_strs hh (by omega)
  obtain ⟨A, hA⟩ : ∃ A, A = madeCells #[.string ByteArray.empty] (hh * 1) := ⟨_, rfl⟩
  have hAs : A.size = hh := by rw [hA, size_madeCells]; omega
  rw [← hA] at hmk
  have x0 := heap_alloc_new w (.cells #[.int .i64 (n : Int), .int .i64 (hh : Int), .slice (some ⟨b, o, none⟩) cs.length cx] 24)
  clear hA hT hS hok hC hne hrows hL p0 p1 hsize
  go_enter Tryd.func31, Tryd.ntmps31
  go_wp2_with (go_at_call 11; refine HK'.out.mono ?_; rintro e W1 ⟨rfl, b1⟩; have y0 := carry x0 b1; have ⟨e0, e1, e2, _⟩ := cells3 y0)
  have k1 := kk.trans (b1.mono kk.size)
  have yN : w.heap.size < W1.heap.size := blk_lt y0
  have z0 : (W1.alloc (.cells A 9)).heap[w.heap.size]? = _ := (Below.heap_alloc _ _ _ yN).trans y0
  have zG : (W1.alloc (.cells A 9)).heap[W1.heap.size]? = some (.cells A.toList.toArray 9 (0, 0)) := by simpa using heap_alloc_new W1 (.cells A 9)
  have kX : Below w.heap.size w (W1.alloc (.cells A 9)) := k1.alloc k1.size _
  have hAl : A.toList.length = hh := by simpa using hAs
  generalize (W1.alloc (.cells A 9)) = X at *
  generalize hG : W1.heap.size = G at *
  have HAL : Hid (A.toList.length = hh) := hAl
  clear b1 y0 e0 e1 e2 kk x0 HK' hmk k1 hAs hAl hG
  go_loopg [20] hh (fun q y wr => ∃ (k : Nat) (Ls : List Value), y = .int .i64 (k : Int) ∧ k ≤ hh ∧ hh - k ≤ q ∧ Below w.heap.size w wr ∧ wr.heap[w.heap.size]? = some (.cells #[.int .i64 (n : Int), .int .i64 (hh : Int), .slice (some ⟨b, o, none⟩) cs.length cx] 24 (0, 0)) ∧ wr.heap[G]? = some (.cells Ls.toArray 9 (0, 0)) ∧ Ls.length = hh ∧ ∀ i, i < k → Ls[i]? = some (.string (lineB (rowAt n cs i))))
  case atStart => exact ⟨0, A.toList, rfl, by omega, by omega, kX, z0, zG, HAL.out, fun i hi => by omega⟩
  case round =>
    clear z0 zG kX HAL
    obtain ⟨k, Ls, rfl, hk, hq, kW, v0, vG, hLs, hdone⟩ := hrel
    have HLS : Hid (Ls.length = hh) := hLs
    have HD : Hid (∀ i, i < k → Ls[i]? = some (.string (lineB (rowAt n cs i)))) := hdone
    clear hLs hdone
    by_cases hlt : k < hh
    · have lt1 : ((k : Int) < (hh : Int)) := by omega
      have hrl := row_len n hh cs k HL.out hlt
      obtain ⟨c0, c1, c2, _⟩ := cells3 v0
      have hw0 : Below wr.heap.size wr (wr.alloc (.cells #[.pointer none, .slice none 0 0] 81)) := (Below.refl _ _).alloc (Nat.le_refl _) _
      have HB0 : Hid (Lib.IsBuilderF 81 5 wr.heap.size wr.heap.size (Lib.byteCells []) (wr.alloc (.cells #[.pointer none, .slice none 0 0] 81))) := Lib.IsBuilderF.of (Lib.fresh_isBuilder 81 5 wr)
      have d0 := carry v0 hw0
      obtain ⟨f0, f1, f2, _⟩ := cells3 d0
      have HR : Hid (Calls Tryd.prog 36 #[.agg #[.int .i64 (n : Int), .int .i64 (hh : Int), .slice (some ⟨b, o, none⟩) cs.length cx], .int .i64 (k : Int)] (wr.alloc (.cells #[.pointer none, .slice none 0 0] 81)) fun e w' => e = .returned (.slice (some ⟨b, o + k * n * 4, none⟩) n (cx - k * n)) ∧ Below (wr.alloc (.cells #[.pointer none, .slice none 0 0] 81)).heap.size (wr.alloc (.cells #[.pointer none, .slice none 0 0] 81)) w') := rowOf_any b o cs.length cx n k hh _ (by omega) (row_fits n hh _ k HL.out hlt) hc hm
      have HCR : Hid (∀ W, Below w.heap.size w W → CellsAt W b (o + k * n * 4) (rowAt n cs k)) := fun W kW => (HC.out.below kW).part (k * n) n (by have := row_fits n hh _ k HL.out hlt; rw [Nat.add_mul, Nat.one_mul] at this; omega)
      have HINR : Hid (∀ j, j < n → 0 ≤ ((rowAt n cs k).getD j Grd.z0).1 ∧ ((rowAt n cs k).getD j Grd.z0).1 ≤ 1114111) := fun j hj => HIN.out k j hlt hj
      have HRL : Hid ((rowAt n cs k).length = n) := hrl
      clear hrl
      go_wp2_with (go_at_call 36; refine HR.out.mono ?_; rintro e W5 ⟨rfl, b5⟩)
      have kB : Below wr.heap.size wr W5 := hw0.trans (b5.mono hw0.size)
      have HB1 := builder_below HB0.out b5
      clear HR b5 HB0 f0 f1 f2 d0 hw0 c0 c1 c2
      generalize wr = V at *
      have hNB : w.heap.size ≤ V.heap.size := kW.size
      generalize hB0 : V.heap.size = B0 at *
      go_loopg [27] n (fun q xx wv => ∃ (j : Nat) (acc : List UInt8), xx = .int .i64 (j : Int) ∧ j ≤ n ∧ n - j ≤ q ∧ Below B0 V wv ∧ Lib.IsBuilderF 81 5 B0 B0 (Lib.byteCells acc) wv ∧ acc = rowBytes ((rowAt n cs k).take j) ∧ acc.length ≤ 4 * j)
      case atStart => exact ⟨0, [], rfl, by omega, by omega, kB, HB1, rfl, by simp⟩
      case round =>
        clear kB HB1
        obtain ⟨j, acc, rfl, hj, hq2, hb, hI, hacc, hal⟩ := hrel
        have HACC : Hid (acc = rowBytes ((rowAt n cs k).take j)) := hacc
        clear hacc
        have hBW : B0 ≤ wr.heap.size := by rw [← hB0]; exact hb.size
        have kN : Below w.heap.size w wr := kW.trans (hb.mono hNB)
        by_cases hlt2 : j < n
        · have lt2 : ((j : Int) < (n : Int)) := by omega
          have hrg := range_cell (HCR.out wr kN) j (by rw [HRL.out]; exact hlt2)
          have hin := HINR.out j hlt2
          have HNX : Hid (rowBytes ((rowAt n cs k).take (j + 1)) = rowBytes ((rowAt n cs k).take j) ++ (if ((rowAt n cs k).getD j Grd.z0).1 = 0 then [] else Lib.encodeRune ((rowAt n cs k).getD j Grd.z0).1)) := rowBytes_next _ j (by rw [HRL.out]; exact hlt2)
          rcases hce : (rowAt n cs k).getD j Grd.z0 with ⟨r, f, bk, x⟩
          rw [hce] at hrg hin HNX
          dsimp only at hin HNX
          have HRG : Hid (wr.rangeAt b (o + k * n * 4 + j * 4) (words (r, f, bk, x))) := hrg
          have HI0 : Hid (Lib.IsBuilderF 81 5 B0 B0 (Lib.byteCells acc) wr) := hI
          clear hrg hce hI
          by_cases hr0 : r = 0
          · have ne : (r != 0) = false := by simp [hr0]
            have HN2 : Hid (acc = rowBytes ((rowAt n cs k).take (j + 1))) := by
              unfold Hid
              rw [HNX.out, if_pos hr0, List.append_nil]
              exact HACC.out
            clear HNX HACC hin hr0
            go_wp2_with (first
            | (refine wpList_load_mid rfl 40 (.tmp 29) rfl b (o + k * n * 4 + j * 4) rfl (words (r, f, bk, x)) _ HRG.out Tryd.underlying40 rfl cell4_size ?_)
            | (refine wpList_store_row rfl 40 (.tmp 9) _ rfl wr.heap.size #[.int .i32 r, .int .i64 f, .int .i64 bk, .int .i64 x] rfl rfl _ _ (heap_alloc_new wr _) cell4_size rfl (words_one (r, f, bk, x)) ?_
               have hn0 := setRow_heap _ _ _ #[.int .i32 r, .int .i64 f, .int .i64 bk, .int .i64 x] _ _ (heap_alloc_new wr (.cells #[.int .i32 0, .int .i64 0, .int .i64 0, .int .i64 0] 40))
               have kZ : Below wr.heap.size wr ((wr.alloc (.cells #[.int .i32 0, .int .i64 0, .int .i64 0, .int .i64 0] 40)).setRow wr.heap.size #[.int .i32 r, .int .i64 f, .int .i64 bk, .int .i64 x]) := below_setRow ((Below.refl _ _).alloc (Nat.le_refl _) _) (Nat.le_refl _) _
               generalize ((wr.alloc (.cells #[.int .i32 0, .int .i64 0, .int .i64 0, .int .i64 0] 40)).setRow wr.heap.size #[.int .i32 r, .int .i64 f, .int .i64 bk, .int .i64 x]) = Z at *
               obtain ⟨g0, g1, g2, g3⟩ := cells4 hn0))
            go_roundg (n - (j + 1))
            case measure => omega
            case rel => exact ⟨j + 1, acc, rfl, by omega, by omega, hb.trans (kZ.mono hBW), builder_below HI0.out kZ, HN2.out, by omega⟩
          · have ne : (r != 0) = true := by simpa using hr0
            have HN2 : Hid (acc ++ Lib.encodeRune r = rowBytes ((rowAt n cs k).take (j + 1))) := by
              unfold Hid
              rw [HNX.out, if_neg hr0, ← HACC.out]
            have hl4 := encode_len r
            clear HNX HACC
            go_wp2_with (first
            | (refine wpList_load_mid rfl 40 (.tmp 29) rfl b (o + k * n * 4 + j * 4) rfl (words (r, f, bk, x)) _ HRG.out Tryd.underlying40 rfl cell4_size ?_)
            | (refine wpList_store_row rfl 40 (.tmp 9) _ rfl wr.heap.size #[.int .i32 r, .int .i64 f, .int .i64 bk, .int .i64 x] rfl rfl _ _ (heap_alloc_new wr _) cell4_size rfl (words_one (r, f, bk, x)) ?_
               have hn0 := setRow_heap _ _ _ #[.int .i32 r, .int .i64 f, .int .i64 bk, .int .i64 x] _ _ (heap_alloc_new wr (.cells #[.int .i32 0, .int .i64 0, .int .i64 0, .int .i64 0] 40))
               have kZ : Below wr.heap.size wr ((wr.alloc (.cells #[.int .i32 0, .int .i64 0, .int .i64 0, .int .i64 0] 40)).setRow wr.heap.size #[.int .i32 r, .int .i64 f, .int .i64 bk, .int .i64 x]) := below_setRow ((Below.refl _ _).alloc (Nat.le_refl _) _) (Nat.le_refl _) _
               generalize ((wr.alloc (.cells #[.int .i32 0, .int .i64 0, .int .i64 0, .int .i64 0] 40)).setRow wr.heap.size #[.int .i32 r, .int .i64 f, .int .i64 bk, .int .i64 x]) = Z at *
               obtain ⟨g0, g1, g2, g3⟩ := cells4 hn0)
            | (go_at_call 50; refine (Tryd.Builder_WriteRune_k B0 B0 _ r (by omega) (by omega) _ (builder_below HI0.out kZ) (by rw [Lib.byteCells_length]; omega) (by have := kZ.size; omega)).mono ?_; rintro e W8 ⟨rfl, h8, b8, k8⟩))
            go_roundg (n - (j + 1))
            case measure => omega
            case rel =>
              refine ⟨j + 1, acc ++ Lib.encodeRune r, rfl, by omega, by omega, (hb.trans (kZ.mono hBW)).trans b8, ?_, HN2.out, by rw [List.length_append]; omega⟩
              rw [Lib.byteCells_append, Lib.byteCells_encodeRune]
              exact Or.inr h8
        · have lt2 : ¬ ((j : Int) < (n : Int)) := by omega
          have HE : Hid (acc = rowBytes (rowAt n cs k)) := by
            unfold Hid
            rw [HACC.out, List.take_of_length_le (by rw [HRL.out]; omega)]
          clear HACC
          have hkL : k < Ls.length := by rw [HLS.out]; exact hlt
          have hGB : G < B0 := by rw [← hB0]; exact blk_lt vG
          have hTR : ∀ W, Calls Tryd.prog 51 #[.string ⟨acc.toArray⟩, .string ⟨#[32]⟩] W fun e w' => e = .returned (.string ⟨(Lib.trimRightB acc 32).toArray⟩) ∧ W = w' := fun W => by
            have := Tryd.strings_TrimRight_one ⟨acc.toArray⟩ 32 (by decide) W (by show acc.toArray.size ≤ _; simp; omega)
            exact this.mono fun e w' h => ⟨by simpa using h.1, h.2.symm⟩
          go_wp2_with (first
            | (go_at_call 52; refine (Tryd.Builder_String_any_k B0 B0 acc _ hI hBW).mono ?_; rintro e W7 ⟨rfl, _, b7, _⟩
               have kV := hb.trans b7
               have vG7 : W7.heap[G]? = _ := (kV.block G hGB).trans vG
               have v07 : W7.heap[w.heap.size]? = _ := (kV.block _ (by rw [← hB0]; exact blk_lt v0)).trans v0
               have hce : W7.cell? ⟨G, k, none⟩ = some Ls[k] := by unfold World.cell?; rw [vG7]; simp [hkL]
               have hfz : W7.frozen? ⟨G, k, none⟩ = false := frozen_of vG7 _)
            | (go_at_call 51; refine (hTR _).mono ?_; rintro e W8 ⟨rfl, rfl⟩))
          go_roundg (hh - (k + 1))
          case measure => omega
          case rel =>
            refine ⟨k + 1, Ls.set k (.string ⟨(Lib.trimRightB acc 32).toArray⟩), rfl, by omega, by omega, (kW.trans (kV.mono hNB)).setCell (by dsimp only; omega) _, ?_, ?_, by rw [List.length_set]; exact HLS.out, ?_⟩
            · rw [heap_setCell_other _ _ _ _ (by dsimp only; omega)]; exact v07
            · have := heap_setCell_same W7 G k _ _ (.string ⟨(Lib.trimRightB acc 32).toArray⟩) vG7
              simpa using this
            · intro i hi
              by_cases hik : i = k
              · subst hik
                rw [List.getElem?_set_self hkL, HE.out]; rfl
              · rw [List.getElem?_set_ne (by omega)]; exact HD.out i (by omega)
    · have lt1 : ¬ ((k : Int) < (hh : Int)) := by omega
      have hkh : k = hh := by omega
      go_wp2_with fail
      go_ret2
      refine ⟨_, rfl, ⟨G, 9, ?_, by omega, ?_⟩, kW⟩
      · simp [linesL]
      · rw [vG]
        have : Ls = (linesL n hh cs).map Value.string := by
          refine List.ext_getElem? fun i => ?_
          by_cases hi : i < hh
          · rw [HD.out i (by omega)]; simp [linesL, hi]
          · rw [List.getElem?_eq_none (by rw [HLS.out]; omega), List.getElem?_eq_none (by simp [linesL]; omega)]
        rw [this]
end Grd
end Go.Proofs.YtinhmklpnkikgaaDoor

/- The walk of grid.Fill: a right cell. -/
namespace Go.Proofs.YtinhmklpnkikgaaDoor
open Go.ChangeShapes Go.WideShapes Go.ChangeAt Go.RowKit
namespace Grd
open Txt (wd)
open Sty (isSt)
theorem info_cell4 : (Tryd.prog.info? 40).map (·.size) = some 4 := by kernel_rfl
theorem row_off (n k o : Nat) (hf : o = k * n) : 0 + k * n * 4 = o * 4 := by omega
set_option maxHeartbeats 8000000 in
theorem fill_good (n hh b o cx : Nat) (cs : List C) (rx ry rw rh r f bk x : Int) (w : World) (hT : Txt.Tab w) (hC : CellsAt w b o cs) (hok : gridErr n hh cs = 0) (hc : cs.length ≤ cx) (hm : cx ≤ 9223372036854775807) (hr : wd r = 1) (hs : isSt (f, bk, x) = true) :
    Calls Tryd.prog 18 #[.agg #[.int .i64 (n : Int), .int .i64 (hh : Int), .slice (some ⟨b, o, none⟩) cs.length cx], .agg #[.int .i64 rx, .int .i64 ry, .int .i64 rw, .int .i64 rh], .agg #[.int .i32 r, .int .i64 f, .int .i64 bk, .int .i64 x]] w fun e w' => ∃ v, e = .returned (.tuple #[.agg #[.int .i64 (n : Int), .int .i64 (hh : Int), v], .int .i64 0]) ∧ OwnG w' w.heap.size v (fillG n hh cs rx ry rw rh (r, f, bk, x)) ∧ Below w.heap.size w w' := by
  obtain ⟨hsize, hL, hrows⟩ := (gridErr_zero n hh cs).1 hok
  have ⟨p0, p1, p2, p3, p4, p5⟩ := prod_in n hh hsize
  have hne : cs ≠ [] := by
    intro h
    rw [h, List.length_nil] at hL
    have : 0 < n * hh := Nat.mul_pos (by omega) (by omega)
    omega
  have hl2 : cs.length ≤ 7200 := by
    have : ((n * hh : Nat) : Int) ≤ 7200 := by rw [Int.natCast_mul]; exact p1
    omega
  have hS : SliceAt w (.slice (some ⟨b, o, none⟩) cs.length cx) cs := .inr ⟨hne, b, o, cx, rfl, hc, hm, hC⟩
  obtain ⟨x0, x1, x2, x3, kk, hsz⟩ := alloc4 w (.cells #[.int .i64 (n : Int), .int .i64 (hh : Int), .slice (some ⟨b, o, none⟩) cs.length cx] 24) (.cells #[.int .i64 rx, .int .i64 ry, .int .i64 rw, .int .i64 rh] 36) (.cells #[.int .i32 r, .int .i64 f, .int .i64 bk, .int .i64 x] 40) (.cells #[.int .i64 0, .int .i64 0, .slice none 0 0] 24)
  have HK := check_ok n hh _ cs _ (Tab.next hT kk) (hS.below kk) hok
  have HT : Hid (∀ W, Below w.heap.size w W → Txt.Tab W) := fun W k => Tab.next hT k
  have HTP : Hid (0 < w.heap.size) := hT.pos
  have HC : Hid (CellsAt w b o cs) := hC
  have HL : Hid (cs.length = n * hh) := hL
  have HML : Hid (∀ k, k < hh → ∀ p, Alike (putRow (rowAt n cs k) p fun _ => (r, f, bk, x))) := fun k hk p => (meant_fill (rowAt n cs k) p (r, f, bk, x) (hrows k hk).1 hr hs).alike
  clear hT hS hok hC hne hrows hL p0 p1 hsize
  generalize hW0 : ((((w.alloc (.cells #[.int .i64 (n : Int), .int .i64 (hh : Int), .slice (some ⟨b, o, none⟩) cs.length cx] 24)).alloc (.cells #[.int .i64 rx, .int .i64 ry, .int .i64 rw, .int .i64 rh] 36)).alloc (.cells #[.int .i32 r, .int .i64 f, .int .i64 bk, .int .i64 x] 40)).alloc (.cells #[.int .i64 0, .int .i64 0, .slice none 0 0] 24)) = W0 at x0 x1 x2 x3 kk hsz HK
  have HW0 : Hid (_ = W0) := hW0
  have HK' : Hid (Calls Tryd.prog 11 #[.agg #[.int .i64 (n : Int), .int .i64 (hh : Int), .slice (some ⟨b, o, none⟩) cs.length cx]] W0 fun e w' => e = .returned (.int .i64 0) ∧ Below W0.heap.size W0 w') := HK
  have HR : Hid (wd r = 1) := hr
  have HS : Hid (isSt (f, bk, x) = true) := hs
  clear HK hW0 hr hs
  go_enter Tryd.func18, Tryd.ntmps18
  go_wp2_with (first
    | (go_at_call 11; rw [HW0.out]; refine HK'.out.mono ?_; rintro e W1 ⟨rfl, b1⟩; have k1 := kk.trans (b1.mono kk.size); have y3 := carry x3 b1; have y2 := carry x2 b1; have y1 := carry x1 b1; have y0 := carry x0 b1; have ⟨c0, c1, c2, c3⟩ := cells4 y2)
    | (go_at_call 40; refine (width_to r _ (HT.out _ k1) _ HR.out).mono ?_; rintro e W2 ⟨rfl, b2⟩; have k2 := k1.trans (b2.mono k1.size); have z3 := carry y3 b2; have z2 := carry y2 b2; have z1 := carry y1 b2; have z0 := carry y0 b2; have ⟨d0, d1, d2, d3⟩ := cells4 z2)
    | (go_at_call 41; refine (check_to f bk x _ HS.out _).mono ?_; rintro e W3 ⟨rfl, b3⟩; have k3 := k2.trans (b3.mono k2.size); have u3 := carry z3 b3; have u2 := carry z2 b3; have u1 := carry z1 b3; have u0 := carry z0 b3; have ⟨e0, e1, e2, _⟩ := cells3 u0)
    | (go_at_call 42; refine (copyOf_any n hh b o cx cs _ (HC.out.below k3) (by omega)).mono ?_; rintro e W4 ⟨v4, rfl, ⟨g, cap, rest, t, rfl, hgb, hlc, hcm, hgh⟩, b4⟩; have hW4 := heap_alloc_new W4 (.cells #[.int .i64 0, .int .i64 0, .slice none 0 0] 24))
    | (refine wpList_store_row rfl 24 (.tmp 9) _ rfl W4.heap.size #[.int .i64 (n : Int), .int .i64 (hh : Int), .slice (some ⟨g, 0, none⟩) cs.length cap] rfl rfl _ _ hW4 (by kernel_rfl) rfl (one3v _ _ _ _ _) ?_))
  have hsz1 := b1.size
  have hsz2 := b2.size
  have hsz3 := b3.size
  have hsz4 := b4.size
  have hg4 : g < W4.heap.size := blk_lt hgh
  have hX : ∀ k o', W4.heap[k]? = some o' → ((W4.alloc (.cells #[.int .i64 0, .int .i64 0, .slice none 0 0] 24)).setRow W4.heap.size #[.int .i64 (n : Int), .int .i64 (hh : Int), .slice (some ⟨g, 0, none⟩) cs.length cap]).heap[k]? = some o' := fun k o' hk => by
    have := blk_lt hk
    rw [setRow_other _ _ _ _ (by omega), Below.heap_alloc _ _ _ this, hk]
  have q0 := hX _ _ (carry u0 b4)
  have q1 := hX _ _ (carry u1 b4)
  have q2 := hX _ _ (carry u2 b4)
  have q3 := hX _ _ (carry u3 b4)
  have qg := hX _ _ hgh
  have qM := setRow_heap _ _ _ #[.int .i64 (n : Int), .int .i64 (hh : Int), .slice (some ⟨g, 0, none⟩) cs.length cap] _ _ hW4
  have k4 := k3.trans (b4.mono k3.size)
  have kX := below_setRow (k4.alloc k4.size (.cells #[.int .i64 0, .int .i64 0, .slice none 0 0] 24)) k4.size #[.int .i64 (n : Int), .int .i64 (hh : Int), .slice (some ⟨g, 0, none⟩) cs.length cap]
  generalize ((W4.alloc (.cells #[.int .i64 0, .int .i64 0, .slice none 0 0] 24)).setRow W4.heap.size #[.int .i64 (n : Int), .int .i64 (hh : Int), .slice (some ⟨g, 0, none⟩) cs.length cap]) = X at *
  generalize hM : W4.heap.size = M at *
  have hgN : w.heap.size + 4 ≤ g := by omega
  clear hX hW4 hgh u0 u1 u2 u3 e0 e1 e2 b4 b3 z0 z1 z2 z3 d0 d1 d2 d3 c0 c1 c2 c3 b2 y0 y1 y2 y3 b1 x0 x1 x2 x3 HW0 HK' k1 k2 k3 k4 kk hsz hsz1 hsz2 hsz3 hsz4 hM hgb
  have ⟨e0, e1, e2, _⟩ := cells3 q0
  have ⟨f0, f1, f2, f3⟩ := cells4 q1
  go_quiet (first
    | (go_at_call 44; exact Calls.quiet_of_same (near_same _ _))
    | (go_at_call 43; exact Calls.quiet_of_same (reach_same _ _ _ _)))
  go_wp2_with fail
  generalize hY : X.drewN nq = Y
  have hYh : Y.heap = X.heap := by rw [← hY]; rfl
  have kY : Below w.heap.size w Y := by rw [← hY]; exact kX.trans ⟨rfl, rfl, rfl, Nat.le_refl _, fun _ _ => rfl⟩
  rw [← hYh] at q0 q1 q2 q3 qg qM
  clear hYh hY kX e0 e1 e2 f0 f1 f2 f3
  have ⟨e0, e1, e2, _⟩ := cells3 q0
  have ⟨f0, f1, f2, f3⟩ := cells4 q1
  go_quiet (first
    | (go_at_call 44; exact Calls.quiet_of_same (near_same _ _))
    | (go_at_call 43; exact Calls.quiet_of_same (reach_same _ _ _ _)))
  have HFG : Hid (preF n cs (fillF n hh rx ry rw rh (r, f, bk, x)) hh = fillG n hh cs rx ry rw rh (r, f, bk, x)) := rfl
  have HFL : Hid (KeepLen n (fillF n hh rx ry rw rh (r, f, bk, x))) := fillF_len n hh rx ry rw rh _
  have HF0 : Hid (∀ y : Nat, ((y : Int) < max (nearI ry) 0 ∨ ¬ (y : Int) < min (nearI ry + nearI rh) hh) → ∀ row, fillF n hh rx ry rw rh (r, f, bk, x) y row = row) := fun y hy row => by
    unfold fillF inside
    rw [if_neg (by simp only [decide_eq_true_eq]; omega)]
  have HF1 : Hid (∀ y : Nat, max (nearI ry) 0 ≤ (y : Int) → (y : Int) < min (nearI ry + nearI rh) hh → ∀ row, fillF n hh rx ry rw rh (r, f, bk, x) y row = mendL (putRow row (inside rx rw n) fun _ => (r, f, bk, x))) := fun y h1 h2 row => by
    unfold fillF
    rw [if_pos (by unfold inside; simp only [decide_eq_true_eq]; omega)]
  have HP : Hid (∀ u : Nat, inside rx rw n u = decide (max (nearI rx) 0 ≤ (u : Int) ∧ (u : Int) < min (nearI rx + nearI rw) n)) := fun u => rfl
  have hRt : min (nearI rx + nearI rw) (n : Int) ≤ n := by omega
  have hBt : min (nearI ry + nearI rh) (hh : Int) ≤ hh := by omega
  generalize fillF n hh rx ry rw rh (r, f, bk, x) = F at HFG HFL HF0 HF1
  generalize inside rx rw n = ins at HF1 HP
  obtain ⟨T, hT⟩ := Int.eq_ofNat_of_zero_le (show 0 ≤ max (nearI ry) 0 by omega)
  obtain ⟨Lf, hLf⟩ := Int.eq_ofNat_of_zero_le (show 0 ≤ max (nearI rx) 0 by omega)
  rw [hT] at HF0 HF1
  rw [hLf] at HP
  simp only [hT, hLf]
  generalize min (nearI rx + nearI rw) (n : Int) = Rt at *
  generalize min (nearI ry + nearI rh) (hh : Int) = Bt at *
  clear hT hLf e0 e1 e2 f0 f1 f2 f3 q0 q1
  go_wp2_with fail
  go_loopg [14] hh (fun q y wr => ∃ k : Nat, y = .int .i64 (k : Int) ∧ T ≤ k ∧ hh - k ≤ q ∧ Apart g [g] Y wr ∧ wr.heap[g]? = some (.cells (flat (upto n hh cs F k) ++ rest).toArray t (0, 0)))
  case atStart =>
    refine ⟨T, rfl, Nat.le_refl _, by omega, ⟨(Below.refl _ _).trans ⟨rfl, rfl, rfl, Nat.le_refl _, fun _ _ => rfl⟩, fun _ _ _ => rfl⟩, ?_⟩
    rw [upto_start n hh cs F T (fun y hy => HF0.out y (.inl (by omega)) _)]
    exact qg
  case round =>
    obtain ⟨k, rfl, hk, hq, hap, hv⟩ := hrel
    have hY := hap.1
    have v2 := hap.carry q2 (by simp; omega)
    have v3 := hap.carry q3 (by simp; omega)
    have vM := hap.carry qM (by simp; omega)
    have kW : Below w.heap.size w wr := kY.trans (hY.mono (by omega))
    by_cases hlt : (k : Int) < Bt
    · have hkh : k < hh := by omega
      have hrl := row_len n hh cs k HL.out hkh
      have HRW : Hid (Calls Tryd.prog 36 #[.agg #[.int .i64 (n : Int), .int .i64 (hh : Int), .slice (some ⟨g, 0, none⟩) cs.length cap], .int .i64 (k : Int)] wr fun e w' => e = .returned (.slice (some ⟨g, 0 + k * n * 4, none⟩) n (cap - k * n)) ∧ Below wr.heap.size wr w') := rowOf_any g 0 cs.length cap n k hh wr (by omega) (row_fits n hh _ k HL.out hkh) hlc hcm
      have HE : Hid (flat (upto n hh cs F k) ++ rest = flat (preF n cs F k) ++ (flat (rowAt n cs k) ++ (flat (cs.drop ((k + 1) * n)) ++ rest))) := by
        unfold Hid
        rw [upto_at n hh cs F k hkh, flat_three]
      have HN : Hid (flat (upto n hh cs F (k + 1)) ++ rest = flat (preF n cs F k) ++ (flat (F k (rowAt n cs k)) ++ (flat (cs.drop ((k + 1) * n)) ++ rest))) := by
        unfold Hid
        rw [upto_next n hh cs F k hkh, flat_three]
      have HFk : Hid (F k (rowAt n cs k) = mendL (putRow (rowAt n cs k) ins fun _ => (r, f, bk, x))) := HF1.out k (by omega) hlt _
      have hpl : (flat (preF n cs F k)).length = 0 + k * n * 4 := by rw [flat_len, preF_len n hh cs F HL.out HFL.out k (by omega)]; omega
      have HPL : Hid ((flat (preF n cs F k)).length = 0 + k * n * 4) := hpl
      rw [HE.out] at hv
      clear hpl HE
      generalize flat (preF n cs F k) = pre at *
      generalize flat (cs.drop ((k + 1) * n)) ++ rest = post at *
      have HRL : Hid ((rowAt n cs k).length = n) := hrl
      have HMR : Hid (∀ p, Alike (putRow (rowAt n cs k) p fun _ => (r, f, bk, x))) := HML.out k hkh
      clear hrl
      generalize hrow : rowAt n cs k = row at HN HFk HRL hv HMR
      clear hrow
      generalize hoff : 0 + k * n * 4 = off at *
      have ⟨vM0, vM1, vM2, _⟩ := cells3 vM
      go_wp2_with (go_at_call 36; refine HRW.out.mono ?_; rintro e W5 ⟨rfl, b5⟩)
      have hap5 : Apart g [g] Y W5 := hap.step b5 (by have := blk_lt hv; omega)
      have hv5 := carry hv b5
      clear hap hv v2 v3 vM vM0 vM1 vM2 kW b5 HRW hY
      go_loopg [16] n (fun q xx wr => ∃ j : Nat, xx = .int .i64 (j : Int) ∧ Lf ≤ j ∧ n - j ≤ q ∧ Apart g [g] Y wr ∧ wr.heap[g]? = some (.cells (pre ++ (flat (putRow row (fun u => ins u && decide (u < j)) fun _ => (r, f, bk, x)) ++ post)).toArray t (0, 0)))
      case atStart =>
        refine ⟨Lf, rfl, Nat.le_refl _, by omega, hap5, ?_⟩
        rw [putRow_none]
        · exact hv5
        · intro u _
          rw [HP.out u]
          simp
          omega
      case round =>
        clear hap5 hv5
        obtain ⟨j, rfl, hj, hq2, hap, hv⟩ := hrel
        have v2 := hap.carry q2 (by simp; omega)
        by_cases hlt2 : (j : Int) < Rt
        · have hjn : j < n := by omega
          have hth := there_cell hv j (by rw [putRow_len, HRL.out]; exact hjn)
          have hst := store_cell hv j (by rw [putRow_len, HRL.out]; exact hjn) (r, f, bk, x)
          rw [putRow_set row _ (fun u => ins u && decide (u < j + 1)) (fun _ => (r, f, bk, x)) j (by rw [HRL.out]; exact hjn) (fun u _ => by
            rw [HP.out u]
            by_cases huj : u = j
            · subst huj; simp; omega
            · simp only [huj, decide_false, Bool.or_false]
              rw [show decide (u < j + 1) = decide (u < j) by rw [decide_eq_decide]; omega])] at hst
          rw [HPL.out] at hth hst
          have HST : Hid ((wr.setCells g (off + j * 4) (words (r, f, bk, x))).heap[g]? = some (.cells (pre ++ (flat (putRow row (fun u => ins u && decide (u < j + 1)) fun _ => (r, f, bk, x)) ++ post)).toArray t (0, 0))) := hst
          have HTH : Hid (wr.there g (off + j * 4) 4) := hth
          have HAP : Hid (Apart g [g] Y (wr.setCells g (off + j * 4) (words (r, f, bk, x)))) := hap.setCells g _ _ (by simp) (Nat.le_refl _)
          clear hst hth hap hv
          go_wp2_with (first
            | (refine wpList_load_row rfl 40 _ rfl (w.heap.size + 2) rfl _ _ _ _ v2 Tryd.underlying40 rfl (by kernel_rfl) ?_)
            | (refine wpList_store_mid rfl 40 (.tmp 78) (.tmp 77) rfl g (off + j * 4) #[.int .i32 r, .int .i64 f, .int .i64 bk, .int .i64 x] rfl rfl HTH.out info_cell4 (words_one (r, f, bk, x)) ?_))
          go_roundg (n - (j + 1))
          case measure => omega
          case rel => exact ⟨j + 1, rfl, by omega, by omega, HAP.out, HST.out⟩
        · have HEQ : Hid (putRow row (fun u => ins u && decide (u < j)) (fun _ => (r, f, bk, x)) = putRow row ins fun _ => (r, f, bk, x)) := putRow_congr _ _ _ _ _ (fun u _ => ⟨by rw [HP.out u, Bool.eq_iff_iff]; simp; omega, fun _ => rfl⟩)
          rw [HEQ.out] at hv
          have KM := mend_any g (cap - k * n) (putRow row ins fun _ => (r, f, bk, x)) pre post t wr hv (by rw [putRow_len, HRL.out]; omega) (HT.out _ (kY.trans (hap.1.mono (by omega)))) (by have := HTP.out; omega) (HMR.out ins)
          rw [putRow_len, HRL.out, HPL.out, ← HFk.out, ← HN.out] at KM
          have HKM : Hid (Calls Tryd.prog 45 #[.slice (some ⟨g, off, none⟩) n (cap - k * n)] wr fun e w' => e = .returned (.tuple #[]) ∧ w'.heap[g]? = some (.cells (flat (upto n hh cs F (k + 1)) ++ rest).toArray t (0, 0)) ∧ Apart g [g] wr w') := KM
          have HAP : Hid (Apart g [g] Y wr) := hap
          clear KM HEQ v2 hv hap
          go_wp2_with (go_at_call 45; refine HKM.out.mono ?_; rintro e W6 ⟨rfl, hv6, ap6⟩)
          go_roundg (hh - (k + 1))
          case measure => omega
          case rel => exact ⟨k + 1, rfl, by omega, by omega, HAP.out.trans ap6, hv6⟩
    · have HEN : Hid (upto n hh cs F k = preF n cs F hh) := upto_end n hh cs F HL.out k (fun y hy => HF0.out y (.inr (by omega)) _)
      have HEL : Hid ((upto n hh cs F k).length = cs.length) := upto_len n hh cs F HL.out HFL.out k
      go_wp2_with (first
        | (refine wpList_load_row rfl 24 _ rfl M rfl _ _ _ _ vM Tryd.underlying24 rfl (by kernel_rfl) ?_)
        | (refine wpList_store_row rfl 24 (.tmp 6) _ rfl (w.heap.size + 3) #[.int .i64 (n : Int), .int .i64 (hh : Int), .slice (some ⟨g, 0, none⟩) cs.length cap] rfl rfl _ _ v3 (by kernel_rfl) rfl (one3v _ _ _ _ _) ?_))
      (try simp only [Exit.inBlock, Exit.then])
      refine bodyPost_ret (v := .tuple #[.agg #[.int .i64 (n : Int), .int .i64 (hh : Int), .slice (some ⟨g, 0, none⟩) cs.length cap], .int .i64 0]) ?_ rfl ⟨_, rfl, ?_, below_setRow kW (by omega) _⟩
      · exact results_row_tmp rfl _ _ (w.heap.size + 3) _ _ _ _ rfl (setRow_heap _ _ _ _ _ _ v3) Tryd.underlying24 rfl (by kernel_rfl) _ rfl
      · rw [← HFG.out, ← HEN.out]
        refine ⟨g, cap, rest, t, by rw [HEL.out], by omega, by rw [HEL.out]; exact hlc, hcm, ?_⟩
        rw [setRow_other _ _ _ _ (by omega)]
        exact hv
end Grd
end Go.Proofs.YtinhmklpnkikgaaDoor
