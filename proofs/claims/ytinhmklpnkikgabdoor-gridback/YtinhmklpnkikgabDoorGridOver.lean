/- The walk of overwrite. -/
import Derived.Test.YtinhmklpnkikgabDoorGridFill2
import Derived.Lib.QuietBelow
import Derived.BigQuiet
namespace Go.Proofs.YtinhmklpnkikgabDoor
open Go.ChangeShapes Go.WideShapes Go.ChangeAt Go.RowKit
namespace Grd
open Txt (wd)
theorem CellsAt.apart {w w' : World} {N : Nat} {S : List Nat} {b o : Nat} {cs : List C} (h : CellsAt w b o cs) (ha : Apart N S w w') (hb : b ∉ S) : CellsAt w' b o cs := fun j hj => by
  obtain ⟨h0, h1, h2, h3⟩ := h j hj
  have hlt := World.block_lt_of_cell? w _ h0
  have e : ∀ i, w'.cell? ⟨b, i, none⟩ = w.cell? ⟨b, i, none⟩ := fun i => by
    unfold World.cell?
    rw [ha.2 b hb hlt]
  exact ⟨(e _).trans h0, (e _).trans h1, (e _).trans h2, (e _).trans h3⟩
/-- The cells of a grid of width m and height p upon another's rows, from X, Y on. -/
def layFn (m p : Nat) (fs : List C) (X Y : Int) (y : Nat) (row : List C) : List C :=
  if Y ≤ (y : Int) ∧ (y : Int) < Y + p then mendL (putRow row (layP m X) (layF (rowAt m fs ((y : Int) - Y).toNat) X)) else row
def layG (n hh : Nat) (cs : List C) (m p : Nat) (fs : List C) (X Y : Int) : List C := preF n cs (layFn m p fs X Y) hh
theorem layFn_len (n m p : Nat) (fs : List C) (X Y : Int) : KeepLen n (layFn m p fs X Y) := fun y row h => by
  unfold layFn
  split
  · rw [mendL_len, putRow_len, h]
  · exact h
theorem size_cellO : (Tryd.prog.info? 30).map (·.size) = some 4 := by kernel_rfl
theorem wpList_store_cellO {ops : Array Oper} {rest : List Oper} {op : Oper} {a : Act} {w : World} {Q : Exit → Act → World → Prop} (hgd : op.guard = none) (x y : Operand) (ho : op.op = .store 30 x y)
    (g o : Nat) (c : C) (hx : a.eval x = .pointer (some ⟨g, o, none⟩)) (hy : a.eval y = .agg #[.int .i32 c.1, .int .i64 c.2.1, .int .i64 c.2.2.1, .int .i64 c.2.2.2]) (ht : w.there g o 4)
    (h : ∀ Z, Z = w.setCells g o (words c) → wpList Tryd.prog ops Q rest (a.put op.dst undef) Z) : wpList Tryd.prog ops Q (op :: rest) a w :=
  wpList_store_mid hgd 30 x y ho g o _ hx hy ht size_cellO (words_one c) (h _ rfl)
theorem alloc2' (w : World) (o0 o1 : Obj) : ((w.alloc o0).alloc o1).heap[w.heap.size]? = some o0 ∧ ((w.alloc o0).alloc o1).heap[w.heap.size + 1]? = some o1 ∧ Below w.heap.size w ((w.alloc o0).alloc o1) ∧ ((w.alloc o0).alloc o1).heap.size = w.heap.size + 2 := by
  have s1 : (w.alloc o0).heap.size = w.heap.size + 1 := by simp
  refine ⟨?_, ?_, ((Below.refl _ _).alloc (Nat.le_refl _) _).alloc (by omega) _, by simp⟩
  · rw [Below.heap_alloc _ _ _ (by omega), heap_alloc_new]
  · rw [← s1, heap_alloc_new]
set_option maxHeartbeats 8000000 in
set_option maxRecDepth 100000 in
theorem overwrite_any (n hh g cap : Nat) (cs : List C) (rest : List Value) (t : TypeId) (m p b o cx : Nat) (fs : List C) (X Y : Int) (w : World) (hT : Txt.Tab w) (hg : 0 < g)
    (hh1 : w.heap[g]? = some (.cells (flat cs ++ rest).toArray t (0, 0))) (hL : cs.length = n * hh) (hn1 : 1 ≤ n) (hn2 : n ≤ 120) (hh2 : hh ≤ 60) (hlc : cs.length ≤ cap) (hcm : cap ≤ 9223372036854775807)
    (hF : CellsAt w b o fs) (hbg : b ≠ g) (hLf : fs.length = m * p) (hm1 : 1 ≤ m) (hm2 : m ≤ 120) (hp2 : p ≤ 60) (hlf : fs.length ≤ cx) (hcx : cx ≤ 9223372036854775807) (hX : -1000 ≤ X) (hX' : X ≤ 1000) (hY : -1000 ≤ Y) (hY' : Y ≤ 1000) (hMc : ∀ y, y < hh → Meant (rowAt n cs y)) (hRf : ∀ y, y < p → RightRow (rowAt m fs y)) :
    Calls Tryd.prog 27 #[.agg #[.int .i64 (n : Int), .int .i64 (hh : Int), .slice (some ⟨g, 0, none⟩) cs.length cap], .agg #[.int .i64 (m : Int), .int .i64 (p : Int), .slice (some ⟨b, o, none⟩) fs.length cx], .int .i64 X, .int .i64 Y] w fun e w' => e = .returned (.tuple #[]) ∧ w'.heap[g]? = some (.cells (flat (layG n hh cs m p fs X Y) ++ rest).toArray t (0, 0)) ∧ Apart g [g] w w' := by
  have HTP : Hid (0 < g) := hg
  have HT : Hid (Txt.Tab w) := hT
  have HF : Hid (CellsAt w b o fs) := hF
  have HL : Hid (cs.length = n * hh) := hL
  have HLf : Hid (fs.length = m * p) := hLf
  have hgw := blk_lt hh1
  have HMC : Hid (∀ y, y < hh → Meant (rowAt n cs y)) := hMc
  have HRF : Hid (∀ y, y < p → RightRow (rowAt m fs y)) := hRf
  clear hMc hRf
  obtain ⟨x0, x1, kk, hsz⟩ := alloc2' w (.cells #[.int .i64 (n : Int), .int .i64 (hh : Int), .slice (some ⟨g, 0, none⟩) cs.length cap] 24) (.cells #[.int .i64 (m : Int), .int .i64 (p : Int), .slice (some ⟨b, o, none⟩) fs.length cx] 24)
  generalize hW0 : ((w.alloc (.cells #[.int .i64 (n : Int), .int .i64 (hh : Int), .slice (some ⟨g, 0, none⟩) cs.length cap] 24)).alloc (.cells #[.int .i64 (m : Int), .int .i64 (p : Int), .slice (some ⟨b, o, none⟩) fs.length cx] 24)) = W0 at x0 x1 kk hsz
  have HW0 : Hid (_ = W0) := hW0
  clear hT hF hL hLf hg hW0
  go_enter Tryd.func27, Tryd.ntmps27
  have r1 : ∀ W, Calls Tryd.prog 23 #[.int .i64 X, .int .i64 (m : Int), .int .i64 (n : Int)] W fun e w' => e = .returned (.tuple #[.int .i64 (max X 0), .int .i64 (min (X + m) n)]) ∧ W = w' := fun W => reach_any X m n W (by omega) (by omega) (by omega) (by omega)
  have r2 : ∀ W, Calls Tryd.prog 23 #[.int .i64 Y, .int .i64 (p : Int), .int .i64 (hh : Int)] W fun e w' => e = .returned (.tuple #[.int .i64 (max Y 0), .int .i64 (min (Y + p) hh)]) ∧ W = w' := fun W => reach_any Y p hh W (by omega) (by omega) (by omega) (by omega)
  have R1 : Hid (∀ W, Calls Tryd.prog 23 #[.int .i64 X, .int .i64 (m : Int), .int .i64 (n : Int)] W fun e w' => e = .returned (.tuple #[.int .i64 (max X 0), .int .i64 (min (X + m) n)]) ∧ W = w') := r1
  have R2 : Hid (∀ W, Calls Tryd.prog 23 #[.int .i64 Y, .int .i64 (p : Int), .int .i64 (hh : Int)] W fun e w' => e = .returned (.tuple #[.int .i64 (max Y 0), .int .i64 (min (Y + p) hh)]) ∧ W = w') := r2
  clear r1 r2
  go_wp2_with fail
  refine (R1.out _).mono ?_
  rintro e _ ⟨rfl, rfl⟩
  go_wp2_with fail
  refine (R2.out _).mono ?_
  rintro e _ ⟨rfl, rfl⟩
  rw [HW0.out]
  go_wp2_with fail
  have hv0 := carry hh1 kk
  have HTW : Hid (∀ W, Apart g [g] W0 W → Txt.Tab W) := fun W k => (Tab.next HT.out kk).below k.1 HTP.out
  have HFW : Hid (∀ W, Apart g [g] W0 W → CellsAt W b o fs) := fun W k => (HF.out.below kk).apart k (by simpa using hbg)
  have HFG : Hid (preF n cs (layFn m p fs X Y) hh = layG n hh cs m p fs X Y) := rfl
  have HFL : Hid (KeepLen n (layFn m p fs X Y)) := layFn_len n m p fs X Y
  have HF0 : Hid (∀ y : Nat, (y < hh ∨ hh ≤ y) → ((y : Int) < max Y 0 ∨ ¬ (y : Int) < min (Y + p) hh) → y < hh → ∀ row, layFn m p fs X Y y row = row) := fun y _ hy hyh row => by
    unfold layFn
    rw [if_neg (by omega)]
  have HF1 : Hid (∀ y : Nat, max Y 0 ≤ (y : Int) → (y : Int) < min (Y + p) hh → ∀ row, layFn m p fs X Y y row = mendL (putRow row (layP m X) (layF (rowAt m fs ((y : Int) - Y).toNat) X))) := fun y h1 h2 row => by
    unfold layFn
    rw [if_pos (by omega)]
  have hBt : min (Y + p) (hh : Int) ≤ hh := by omega
  have hBt2 : min (Y + p) (hh : Int) ≤ Y + p := by omega
  have hTT : Y ≤ max Y 0 := by omega
  have hRt : min (X + m) (n : Int) ≤ n := by omega
  have hRt2 : min (X + m) (n : Int) ≤ X + m := by omega
  have hLL : X ≤ max X 0 := by omega
  have hRl : ∀ u : Nat, u < n → ((u : Int) < X + m → (u : Int) < min (X + m) (n : Int)) := by intro u hu h; omega
  have HRl : Hid (∀ u : Nat, u < n → ((u : Int) < X + m → (u : Int) < min (X + m) (n : Int))) := hRl
  have hLl : ∀ u : Nat, X ≤ (u : Int) → max X 0 ≤ (u : Int) := by intro u h; omega
  have HLl : Hid (∀ u : Nat, X ≤ (u : Int) → max X 0 ≤ (u : Int)) := hLl
  clear hRl hLl
  generalize layFn m p fs X Y = F at HFG HFL HF0 HF1
  obtain ⟨T, hT⟩ := Int.eq_ofNat_of_zero_le (show 0 ≤ max Y 0 by omega)
  obtain ⟨Lf, hLf⟩ := Int.eq_ofNat_of_zero_le (show 0 ≤ max X 0 by omega)
  rw [hT] at HF0 HF1 hTT
  rw [hLf] at hLL HLl
  simp only [hT, hLf]
  generalize min (X + m) (n : Int) = Rt at *
  generalize min (Y + p) (hh : Int) = Bt at *
  clear hT hLf R1 R2 HW0
  go_loopg [12] hh (fun q y wr => ∃ k : Nat, y = .int .i64 (k : Int) ∧ T ≤ k ∧ hh - k ≤ q ∧ Apart g [g] W0 wr ∧ wr.heap[g]? = some (.cells (flat (upto n hh cs F k) ++ rest).toArray t (0, 0)))
  case atStart =>
    refine ⟨T, rfl, Nat.le_refl _, by omega, Apart.refl _ _ _, ?_⟩
    have : upto n hh cs F T = cs := by
      unfold upto
      rw [preF_id n cs F _ (fun y hy => HF0.out y (.inl (by omega)) (.inl (by omega)) (by omega) _), List.take_append_drop]
    rw [this]
    exact hv0
  case round =>
    obtain ⟨k, rfl, hk, hq, hap, hv⟩ := hrel
    have v0 := hap.carry x0 (by simp; omega)
    have v1 := hap.carry x1 (by simp; omega)
    by_cases hlt : (k : Int) < Bt
    · have hkh : k < hh := by omega
      obtain ⟨qy, hqy⟩ := Int.eq_ofNat_of_zero_le (show 0 ≤ (k : Int) - Y by omega)
      have hqp : qy < p := by omega
      have hrl := row_len n hh cs k HL.out hkh
      have hfl := row_len m p fs qy HLf.out hqp
      obtain ⟨e0, e1, e2, _⟩ := cells3 v0
      obtain ⟨f0, f1, f2, _⟩ := cells3 v1
      have y0 : ∀ d os, (Sort.grow (redrawn wr d) os).cell? ⟨w.heap.size, 0, none⟩ = some (.int .i64 (n : Int)) := fun d os => cell_regrown e0 d os
      have y1 : ∀ d os, (Sort.grow (redrawn wr d) os).cell? ⟨w.heap.size, 1, none⟩ = some (.int .i64 (hh : Int)) := fun d os => cell_regrown e1 d os
      have y2 : ∀ d os, (Sort.grow (redrawn wr d) os).cell? ⟨w.heap.size, 2, none⟩ = some (.slice (some ⟨g, 0, none⟩) cs.length cap) := fun d os => cell_regrown e2 d os
      have z0 : ∀ d os, (Sort.grow (redrawn wr d) os).cell? ⟨w.heap.size + 1, 0, none⟩ = some (.int .i64 (m : Int)) := fun d os => cell_regrown f0 d os
      have z1 : ∀ d os, (Sort.grow (redrawn wr d) os).cell? ⟨w.heap.size + 1, 1, none⟩ = some (.int .i64 (p : Int)) := fun d os => cell_regrown f1 d os
      have z2 : ∀ d os, (Sort.grow (redrawn wr d) os).cell? ⟨w.heap.size + 1, 2, none⟩ = some (.slice (some ⟨b, o, none⟩) fs.length cx) := fun d os => cell_regrown f2 d os
      have K1 : Hid (∀ d os, Calls Tryd.prog 18 #[.agg #[.int .i64 (n : Int), .int .i64 (hh : Int), .slice (some ⟨g, 0, none⟩) cs.length cap], .int .i64 (k : Int)] (Sort.grow (redrawn wr d) os) fun e w'' => e = .returned (.slice (some ⟨g, 0 + k * n * 4, none⟩) n (cap - k * n)) ∧ ∃ p : Regrown, w'' = Sort.grow (redrawn wr p.d) p.os) := fun d os => Calls.regrown_of (rowOf_any g 0 cs.length cap n k hh _ hn1 (row_fits n hh _ k HL.out hkh) hlc hcm)
      have K2 : Hid (∀ d os, Calls Tryd.prog 18 #[.agg #[.int .i64 (m : Int), .int .i64 (p : Int), .slice (some ⟨b, o, none⟩) fs.length cx], .int .i64 (qy : Int)] (Sort.grow (redrawn wr d) os) fun e w'' => e = .returned (.slice (some ⟨b, o + qy * m * 4, none⟩) m (cx - qy * m)) ∧ ∃ p : Regrown, w'' = Sort.grow (redrawn wr p.d) p.os) := fun d os => Calls.regrown_of (rowOf_any b o fs.length cx m qy p _ hm1 (row_fits m p _ qy HLf.out hqp) hlf hcx)
      have hsub : IntKind.i64.wrap ((k : Int) - Y) = (qy : Int) := by rw [hqy]; exact IntWalk.i64_in _ (by omega)
      have HQY : Hid (((k : Int) - Y).toNat = qy) := by unfold Hid; rw [hqy]; rfl
      clear hqy e0 e1 e2 f0 f1 f2
      go_wp2_with fail
      refine wp_region_quiet_below (by kernel_rfl) (by kernel_rfl) ?_
      repeat (first | go_big_quiet_skip | quiet_step (first | (go_at_call_of 18 qy; exact K2.out _ _) | (go_at_call_of 18 cap; exact K1.out _ _)))
      refine wpQuiet_nil ?_
      intro _ hw'
      obtain ⟨⟨dq, os⟩, hw''⟩ := hw'
      subst hw''
      have kR := below_regrown wr dq os
      have ap5 : Apart g [g] W0 (Sort.grow (redrawn wr dq) os) := hap.step kR (Nat.le_of_lt (blk_lt hv))
      have hv5 := carry hv kR
      clear K1 K2 y0 y1 y2 z0 z1 z2 v0 v1 kR hap hv
      generalize Sort.grow (redrawn wr dq) os = V at *
      have HE : Hid (flat (upto n hh cs F k) ++ rest = flat (preF n cs F k) ++ (flat (rowAt n cs k) ++ (flat (cs.drop ((k + 1) * n)) ++ rest))) := by
        unfold Hid
        rw [upto_at n hh cs F k hkh, flat_three]
      have HN : Hid (flat (upto n hh cs F (k + 1)) ++ rest = flat (preF n cs F k) ++ (flat (F k (rowAt n cs k)) ++ (flat (cs.drop ((k + 1) * n)) ++ rest))) := by
        unfold Hid
        rw [upto_next n hh cs F k hkh, flat_three]
      have HFk : Hid (F k (rowAt n cs k) = mendL (putRow (rowAt n cs k) (layP m X) (layF (rowAt m fs qy) X))) := by
        have := HF1.out k (by omega) hlt (rowAt n cs k)
        rw [HQY.out] at this
        exact this
      have hpl : (flat (preF n cs F k)).length = k * n * 4 := by rw [flat_len, preF_len n hh cs F HL.out HFL.out k (by omega)]
      have HPL : Hid ((flat (preF n cs F k)).length = k * n * 4) := hpl
      have HFR : Hid (∀ W, Apart g [g] W0 W → CellsAt W b (o + qy * m * 4) (rowAt m fs qy)) := fun W k' => (HFW.out W k').part (qy * m) m (by have := row_fits m p _ qy HLf.out hqp; rw [Nat.add_mul, Nat.one_mul] at this; omega)
      rw [HE.out] at hv5
      clear hpl HE HQY
      generalize flat (preF n cs F k) = pre at *
      generalize flat (cs.drop ((k + 1) * n)) ++ rest = post at *
      have HRL : Hid ((rowAt n cs k).length = n) := hrl
      have HFRL : Hid ((rowAt m fs qy).length = m) := hfl
      have HMR : Hid (Alike (putRow (rowAt n cs k) (layP m X) (layF (rowAt m fs qy) X))) := by
        have := (meant_lay (rowAt n cs k) (rowAt m fs qy) X (HMC.out k hkh) (HRF.out qy hqp)).alike
        rw [hfl] at this
        exact this
      clear hrl hfl
      generalize rowAt n cs k = row at *
      generalize rowAt m fs qy = frow at *
      generalize k * n * 4 = off at *
      generalize o + qy * m * 4 = fo at *
      go_wp2_with fail
      go_loopg [15] n (fun q xx wv => ∃ j : Nat, xx = .int .i64 (j : Int) ∧ Lf ≤ j ∧ n - j ≤ q ∧ Apart g [g] W0 wv ∧ wv.heap[g]? = some (.cells (pre ++ (flat (putRow row (fun u => layP m X u && decide (u < j)) (layF frow X)) ++ post)).toArray t (0, 0)))
      case atStart =>
        refine ⟨Lf, rfl, Nat.le_refl _, by omega, ap5, ?_⟩
        rw [putRow_none]
        · exact hv5
        · intro u hu
          unfold layP
          have := HLl.out u
          simp
          omega
      case round =>
        clear ap5 hv5
        obtain ⟨j, rfl, hj, hq2, hap, hv⟩ := hrel
        by_cases hlt2 : (j : Int) < Rt
        · have hjn : j < n := by omega
          obtain ⟨u, hu⟩ := Int.eq_ofNat_of_zero_le (show 0 ≤ (j : Int) - X by omega)
          have hum : u < m := by omega
          have hrg := range_cell (HFR.out wr hap) u (by rw [HFRL.out]; exact hum)
          have HLF : Hid (layF frow X j = frow.getD u z0) := by unfold Hid layF; rw [hu]; rfl
          have hth := there_cell hv j (by rw [putRow_len, HRL.out]; exact hjn)
          have hst := store_cell hv j (by rw [putRow_len, HRL.out]; exact hjn) (layF frow X j)
          rw [putRow_set row _ (fun u => layP m X u && decide (u < j + 1)) (layF frow X) j (by rw [HRL.out]; exact hjn) (fun v _ => by
            by_cases hvj : v = j
            · subst hvj; unfold layP; simp; omega
            · simp only [hvj, decide_false, Bool.or_false]
              rw [show decide (v < j + 1) = decide (v < j) by rw [decide_eq_decide]; omega])] at hst
          rw [HPL.out] at hth hst
          rw [HLF.out] at hst
          rcases hce : frow.getD u z0 with ⟨r, f, bk, x⟩
          rw [hce] at hrg hst
          have HRG : Hid (wr.rangeAt b (fo + u * 4) (words (r, f, bk, x))) := hrg
          have HST : Hid ((wr.setCells g (off + j * 4) (words (r, f, bk, x))).heap[g]? = some (.cells (pre ++ (flat (putRow row (fun u => layP m X u && decide (u < j + 1)) (layF frow X)) ++ post)).toArray t (0, 0))) := hst
          have HTH : Hid (wr.there g (off + j * 4) 4) := hth
          have HAP : Hid (Apart g [g] W0 (wr.setCells g (off + j * 4) (words (r, f, bk, x)))) := hap.setCells g _ _ (by simp) (Nat.le_refl _)
          have hub : (u : Int) < (m : Int) := by omega
          clear hst hth hap hv hce hrg HLF
          go_wp2_with (first
            | (refine wpList_load_mid rfl 30 (.tmp 60) rfl b (fo + u * 4) rfl (words (r, f, bk, x)) _ HRG.out Tryd.underlying30 rfl size_cellO ?_)
            | (refine wpList_store_cellO rfl (.tmp 62) (.tmp 61) rfl g (off + j * 4) (r, f, bk, x) rfl rfl HTH.out ?_
               intro Z hZ
               have hvZ := HST.out
               have apZ := HAP.out
               rw [← hZ] at hvZ apZ
               clear hZ))
          go_roundg (n - (j + 1))
          case measure => omega
          case rel => exact ⟨j + 1, rfl, by omega, by omega, apZ, hvZ⟩
        · have HEQ : Hid (putRow row (fun u => layP m X u && decide (u < j)) (layF frow X) = putRow row (layP m X) (layF frow X)) := putRow_congr _ _ _ _ _ (fun u hu => ⟨by
            have := HRl.out u (by rw [HRL.out] at hu; exact hu)
            unfold layP
            rw [Bool.eq_iff_iff]
            simp
            omega, fun _ => rfl⟩)
          rw [HEQ.out] at hv
          have KM := mend_any g (cap - k * n) (putRow row (layP m X) (layF frow X)) pre post t wr hv (by rw [putRow_len, HRL.out]; omega) (HTW.out _ hap) HTP.out HMR.out
          rw [putRow_len, HRL.out, HPL.out, ← HFk.out, ← HN.out] at KM
          have HKM : Hid (Calls Tryd.prog 25 #[.slice (some ⟨g, off, none⟩) n (cap - k * n)] wr fun e w' => e = .returned (.tuple #[]) ∧ w'.heap[g]? = some (.cells (flat (upto n hh cs F (k + 1)) ++ rest).toArray t (0, 0)) ∧ Apart g [g] wr w') := KM
          have HAP : Hid (Apart g [g] W0 wr) := hap
          clear KM HEQ hv hap
          go_wp2_with fail
          refine HKM.out.mono ?_
          rintro e W6 ⟨rfl, hv6, ap6⟩
          go_wp2_with fail
          go_roundg (hh - (k + 1))
          case measure => omega
          case rel => exact ⟨k + 1, rfl, by omega, by omega, HAP.out.trans ap6, hv6⟩
    · have HEN : Hid (upto n hh cs F k = preF n cs F hh) := by
        unfold Hid upto
        by_cases hkh : k ≤ hh
        · rw [Nat.min_eq_left hkh]
          exact (preF_rest n hh cs F HL.out k (hh - k) (by omega) (fun y h1 h2 => HF0.out y (.inl h2) (.inr (by omega)) h2 _)).symm
        · rw [Nat.min_eq_right (by omega), List.drop_of_length_le (by rw [HL.out, Nat.mul_comm]; exact Nat.le_refl _), List.append_nil]
      go_wp2_with fail
      go_end0
      refine ⟨rfl, ?_, ?_⟩
      · rw [← HFG.out, ← HEN.out]; exact hv
      · exact (Apart.of kk (by omega)).trans (hap.mono (Nat.le_refl _) (fun _ h => h))
end Grd
end Go.Proofs.YtinhmklpnkikgabDoor
