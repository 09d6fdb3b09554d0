/- The walk of grid.Write: a right place and a right style. -/
import Derived.Test.YtinhmklpnkikgabDoorGridWrite
namespace Go.Proofs.YtinhmklpnkikgabDoor
open Go.ChangeShapes Go.WideShapes Go.ChangeAt Go.RowKit
namespace Grd
open Txt (wd)
open Sty (isSt)
theorem cell4_size : (Tryd.prog.info? 30).map (·.size) = some 4 := by kernel_rfl
def writeF (X Y : Nat) (l : List (Int × Nat)) (look : Int × Int × Int) (y : Nat) (row : List C) : List C := if y = Y then mendL (writeR look l row X) else row
def writeG (n hh : Nat) (cs : List C) (X Y : Nat) (l : List (Int × Nat)) (look : Int × Int × Int) : List C := preF n cs (writeF X Y l look) hh
theorem writeF_len (n X Y : Nat) (l : List (Int × Nat)) (look : Int × Int × Int) : KeepLen n (writeF X Y l look) := fun y row h => by
  unfold writeF
  split
  · rw [mendL_len, writeR_len, h]
  · exact h
theorem writeR_stop (look : Int × Int × Int) (r : Int × Nat) (t : List (Int × Nat)) (row : List C) (x n : Nat) (hn : row.length = n) (h : (n : Int) - x < wd r.1) : writeR look (r :: t) row x = row := by
  unfold writeR; rw [hn, if_pos h]
theorem writeR_go (look : Int × Int × Int) (r : Int × Nat) (t : List (Int × Nat)) (row : List C) (x n : Nat) (hn : row.length = n) (h : ¬ (n : Int) - x < wd r.1) : writeR look (r :: t) row x = writeR look t (writeOne look row x r.1) (x + (wd r.1).toNat) := by
  rw [writeR, hn, if_neg h]
/-- A store of one cell, the world behind it a name. -/
theorem wpList_store_cell {ops : Array Oper} {rest : List Oper} {op : Oper} {a : Act} {w : World} {Q : Exit → Act → World → Prop} (hgd : op.guard = none) (x y : Operand) (ho : op.op = .store 30 x y)
    (g o : Nat) (c : C) (hx : a.eval x = .pointer (some ⟨g, o, none⟩)) (hy : a.eval y = .agg #[.int .i32 c.1, .int .i64 c.2.1, .int .i64 c.2.2.1, .int .i64 c.2.2.2]) (ht : w.there g o 4)
    (h : ∀ Z, Z = w.setCells g o (words c) → wpList Tryd.prog ops Q rest (a.put op.dst undef) Z) : wpList Tryd.prog ops Q (op :: rest) a w :=
  wpList_store_mid hgd 30 x y ho g o _ hx hy ht cell4_size (words_one c) (h _ rfl)
set_option maxHeartbeats 8000000 in
theorem write_good (n hh b o cx X Y : Nat) (cs : List C) (f bk x : Int) (s : ByteArray) (w : World) (hT : Txt.Tab w) (hC : CellsAt w b o cs) (hok : gridErr n hh cs = 0) (hc : cs.length ≤ cx) (hm : cx ≤ 9223372036854775807) (hX : X < n) (hY : Y < hh) (hs : isSt (f, bk, x) = true) :
    Calls Tryd.prog 9 #[.agg #[.int .i64 (n : Int), .int .i64 (hh : Int), .slice (some ⟨b, o, none⟩) cs.length cx], .int .i64 (X : Int), .int .i64 (Y : Int), .string s, .agg #[.int .i64 f, .int .i64 bk, .int .i64 x]] w fun e w' => ∃ v, e = .returned (.tuple #[.agg #[.int .i64 (n : Int), .int .i64 (hh : Int), v], .int .i64 0]) ∧ OwnG w' w.heap.size v (writeG n hh cs X Y (Txt.runes s) (f, bk, x)) ∧ Below w.heap.size w w' := by
  obtain ⟨hsize, hL, hrows⟩ := (gridErr_zero n hh cs).1 hok
  have ⟨p0, p1, p2, p3, p4, p5⟩ := prod_in n hh hsize
  have hne : cs ≠ [] := by
    intro h
    rw [h, List.length_nil] at hL
    have : 0 < n * hh := Nat.mul_pos (by omega) (by omega)
    omega
  have hl2 : cs.length ≤ 7200 := by
    have : ((n * hh : Nat) : Int) ≤ 7200 := by rw [Int.natCast_mul]; exact p1
    omega
  have hS : SliceAt w (.slice (some ⟨b, o, none⟩) cs.length cx) cs := .inr ⟨hne, b, o, cx, rfl, hc, hm, hC⟩
  obtain ⟨x0, x1, x2, kk, hsz⟩ := alloc3 w (.cells #[.int .i64 (n : Int), .int .i64 (hh : Int), .slice (some ⟨b, o, none⟩) cs.length cx] 24) (.cells #[.int .i64 f, .int .i64 bk, .int .i64 x] 28) (.cells #[.int .i64 0, .int .i64 0, .slice none 0 0] 24)
  have HK := check_ok n hh _ cs _ (Tab.next hT kk) (hS.below kk) hok
  have HT : Hid (∀ W, Below w.heap.size w W → Txt.Tab W) := fun W k => Tab.next hT k
  have HTP : Hid (0 < w.heap.size) := hT.pos
  have HC : Hid (CellsAt w b o cs) := hC
  have HL : Hid (cs.length = n * hh) := hL
  have HMW : Hid (Alike (writeR (f, bk, x) (Txt.runes s) (rowAt n cs Y) X)) := (meant_write (f, bk, x) hs (Txt.runes s) _ X (hrows Y hY).1).alike
  have HH : Hid (holdsI n hh X Y 1 1 = true) := by unfold Hid holdsI; rw [decide_eq_true_eq]; omega
  clear hT hS hok hC hne hrows hL p0 p1 hsize
  generalize hW0 : (((w.alloc (.cells #[.int .i64 (n : Int), .int .i64 (hh : Int), .slice (some ⟨b, o, none⟩) cs.length cx] 24)).alloc (.cells #[.int .i64 f, .int .i64 bk, .int .i64 x] 28)).alloc (.cells #[.int .i64 0, .int .i64 0, .slice none 0 0] 24)) = W0 at x0 x1 x2 kk hsz HK
  have HW0 : Hid (_ = W0) := hW0
  have HK' : Hid (Calls Tryd.prog 7 #[.agg #[.int .i64 (n : Int), .int .i64 (hh : Int), .slice (some ⟨b, o, none⟩) cs.length cx]] W0 fun e w' => e = .returned (.int .i64 0) ∧ Below W0.heap.size W0 w') := HK
  have HS : Hid (isSt (f, bk, x) = true) := hs
  clear HK hW0 hs
  go_enter Tryd.func9, Tryd.ntmps9
  go_wp2_with (first
    | (go_at_call 7; rw [HW0.out]; refine HK'.out.mono ?_; rintro e W1 ⟨rfl, b1⟩; have k1 := kk.trans (b1.mono kk.size); have y2 := carry x2 b1; have y1 := carry x1 b1; have y0 := carry x0 b1; have ⟨e0, e1, e2, _⟩ := cells3 y0)
    | (go_at_call 26; refine (holds_to n hh _ X Y 1 1 _ HH.out _ (by omega) (by omega) (by omega) (by omega) (by omega) (by omega)).mono ?_; rintro e W2 ⟨rfl, b2⟩; have k2 := k1.trans (b2.mono k1.size); have z2 := carry y2 b2; have z1 := carry y1 b2; have z0 := carry y0 b2; have ⟨d0, d1, d2, _⟩ := cells3 z1)
    | (go_at_call 21; refine (check_to f bk x _ HS.out _).mono ?_; rintro e W3 ⟨rfl, b3⟩; have k3 := k2.trans (b3.mono k2.size); have u2 := carry z2 b3; have u1 := carry z1 b3; have u0 := carry z0 b3; have ⟨g0, g1, g2, _⟩ := cells3 u0)
    | (go_at_call 22; refine (copyOf_any n hh b o cx cs _ (HC.out.below k3) (by omega)).mono ?_; rintro e W4 ⟨v4, rfl, ⟨g, cap, rest, t, rfl, hgb, hlc, hcm, hgh⟩, b4⟩; have hW4 := heap_alloc_new W4 (.cells #[.int .i64 0, .int .i64 0, .slice none 0 0] 24))
    | (refine wpList_store_row rfl 24 (.tmp 13) _ rfl W4.heap.size #[.int .i64 (n : Int), .int .i64 (hh : Int), .slice (some ⟨g, 0, none⟩) cs.length cap] rfl rfl _ _ hW4 (by kernel_rfl) rfl (one3v _ _ _ _ _) ?_; have qM0 := setRow_heap _ _ _ #[.int .i64 (n : Int), .int .i64 (hh : Int), .slice (some ⟨g, 0, none⟩) cs.length cap] _ _ hW4)
    | (refine wpList_load_row rfl 24 _ rfl W4.heap.size rfl _ _ _ _ qM0 Tryd.underlying24 rfl (by kernel_rfl) ?_)
    | (go_at_call 18; refine (rowOf_any g 0 cs.length cap n Y hh _ (by omega) (row_fits n hh _ Y HL.out hY) hlc hcm).mono ?_; rintro e W5 ⟨rfl, b5⟩))
  have hsz1 := b1.size
  have hsz2 := b2.size
  have hsz3 := b3.size
  have hsz4 := b4.size
  have hg4 : g < W4.heap.size := blk_lt hgh
  have hX' : ∀ k o', W4.heap[k]? = some o' → W5.heap[k]? = some o' := fun k o' hk => carry (by
    have := blk_lt hk
    rw [setRow_other _ _ _ _ (by omega), Below.heap_alloc _ _ _ this, hk]) b5
  have q1 := hX' _ _ (carry u1 b4)
  have q3 := hX' _ _ (carry u2 b4)
  have qg := hX' _ _ hgh
  have qM := carry qM0 b5
  have k4 := k3.trans (b4.mono k3.size)
  have kY : Below w.heap.size w W5 := (below_setRow (k4.alloc k4.size (.cells #[.int .i64 0, .int .i64 0, .slice none 0 0] 24)) k4.size #[.int .i64 (n : Int), .int .i64 (hh : Int), .slice (some ⟨g, 0, none⟩) cs.length cap]).trans (b5.mono (by simp; omega))
  have hgN : w.heap.size + 3 ≤ g := by omega
  have hMW : W4.heap.size < W5.heap.size := blk_lt qM
  generalize hM : W4.heap.size = M at *
  clear hX' qM0 hW4 hgh u0 u1 u2 g0 g1 g2 b4 b3 z0 z1 z2 d0 d1 d2 b2 y0 y1 y2 e0 e1 e2 b1 x0 x1 x2 HW0 HK' k1 k2 k3 k4 kk hsz hsz1 hsz2 hsz3 hsz4 hgb b5 hM HS HH
  generalize W5 = Y0 at *
  have HGL : Hid ((writeG n hh cs X Y (Txt.runes s) (f, bk, x)).length = cs.length) := by
    unfold Hid writeG
    rw [preF_len n hh cs _ HL.out (writeF_len n X Y _ _) hh (Nat.le_refl _), HL.out, Nat.mul_comm]
  have hst0 := upto_start n hh cs (writeF X Y (Txt.runes s) (f, bk, x)) Y (fun y hy => by unfold writeF; rw [if_neg (by omega)])
  rw [upto_at n hh cs _ Y hY] at hst0
  have hen0 := upto_end n hh cs (writeF X Y (Txt.runes s) (f, bk, x)) HL.out (Y + 1) (fun y hy => by unfold writeF; rw [if_neg (by omega)])
  rw [upto_next n hh cs _ Y hY] at hen0
  have hpl : (flat (preF n cs (writeF X Y (Txt.runes s) (f, bk, x)) Y)).length = Y * n * 4 := by rw [flat_len, preF_len n hh cs _ HL.out (writeF_len n X Y _ _) Y (by omega)]
  have hqg : flat cs ++ rest = flat (preF n cs (writeF X Y (Txt.runes s) (f, bk, x)) Y) ++ (flat (rowAt n cs Y) ++ (flat (cs.drop ((Y + 1) * n)) ++ rest)) := by
    rw [← flat_three, hst0]
  have HGE : Hid (flat (preF n cs (writeF X Y (Txt.runes s) (f, bk, x)) Y) ++ (flat (mendL (writeR (f, bk, x) (Txt.runes s) (rowAt n cs Y) X)) ++ (flat (cs.drop ((Y + 1) * n)) ++ rest)) = flat (writeG n hh cs X Y (Txt.runes s) (f, bk, x)) ++ rest) := by
    unfold Hid writeG
    rw [← hen0, flat_three]
    unfold writeF
    rw [if_pos rfl]
  have hrl := row_len n hh cs Y HL.out hY
  rw [hqg] at qg
  clear hqg hst0 hen0
  generalize flat (preF n cs (writeF X Y (Txt.runes s) (f, bk, x)) Y) = pre at *
  generalize flat (cs.drop ((Y + 1) * n)) ++ rest = post at *
  generalize rowAt n cs Y = row0 at *
  generalize Y * n * 4 = off at *
  have HPL : Hid (pre.length = off) := hpl
  have HRL : Hid (row0.length = n) := hrl
  clear hpl hrl
  go_loopw [1] (fun a wr => ∃ (pos fu xx : Nat) (row : List C), wr.heap[Y0.heap.size]? = some (.stringIter s pos) ∧ Apart g [g] Y0 wr ∧ a = .int .i64 (xx : Int) ∧ xx ≤ n ∧ row.length = n ∧ wr.heap[g]? = some (.cells (pre ++ (flat row ++ post)).toArray t (0, 0)) ∧ writeR (f, bk, x) (Txt.rs s fu pos) row xx = writeR (f, bk, x) (Txt.runes s) row0 X ∧ s.size ≤ pos + fu ∧ pos ≤ s.size) (fun _ wr => s.size - wr.iterPos Y0.heap.size)
  case atStart =>
    refine ⟨0, s.size, X, row0, World.iter_heap Y0 s 0, ⟨(Below.refl _ Y0).alloc (by omega) _, fun k _ hk => Below.heap_alloc _ _ _ hk⟩, rfl, by omega, HRL.out, ?_, rfl, by omega, by omega⟩
    exact (Below.heap_alloc _ _ _ (by omega)).trans qg
  case round =>
    obtain ⟨pos, fu, xx, row, hit, hap, rfl, hxn, hrn, hv, heq, hfu, hps⟩ := hrel
    clear qg
    have HEQ : Hid (writeR (f, bk, x) (Txt.rs s fu pos) row xx = writeR (f, bk, x) (Txt.runes s) row0 X) := heq
    have HRN : Hid (row.length = n) := hrn
    clear heq hrn
    by_cases hp : pos < s.size
    · have hnx : ∀ ty, (Instr.next (.pointer (some ⟨Y0.heap.size, 0, none⟩)) true ty).run Tryd.prog wr = _ := fun ty => Lib.run_next_any_at wr Y0.heap.size s pos ty hit hp
      have hwd := Txt.width_pos s pos hp
      have hfit := Txt.decode_fits s pos hp
      obtain ⟨fu, rfl⟩ : ∃ q, fu = q + 1 := ⟨fu - 1, by omega⟩
      have HR : Hid (Txt.rs s (fu + 1) pos = (((Utf8.decode s pos).1 : Int), (Utf8.decode s pos).2) :: Txt.rs s fu (pos + (Utf8.decode s pos).2)) := Txt.rs_step s fu pos hp
      have hwr := Txt.wd_range (Utf8.decode s pos).1
      have hit2 := Lib.iterAt_heap wr Y0.heap.size s pos (pos + (Utf8.decode s pos).2) hit
      have ap2 := hap.iterNew Y0.heap.size s (pos + (Utf8.decode s pos).2) (Nat.le_refl _) (by omega)
      have hv2 := (Lib.iterAt_other wr Y0.heap.size g s (pos + (Utf8.decode s pos).2) (by omega)).trans hv
      have kI2 := kY.trans (ap2.1.mono (show w.heap.size ≤ g by omega))
      have HI : Hid (wr.iterPos Y0.heap.size = pos) := by simp only [Hid, World.iterPos, hit]
      clear hit hap hv
      generalize Utf8.decode s pos = d at *
      by_cases hbr : (n : Int) - xx < wd d.1
      · have HST : Hid (row = writeR (f, bk, x) (Txt.runes s) row0 X) := by
          unfold Hid
          rw [← HEQ.out, HR.out, writeR_stop (f, bk, x) _ _ row xx n HRN.out hbr]
        obtain ⟨wv, hwv⟩ : ∃ q, wd d.1 = q := ⟨_, rfl⟩
        have HW : Hid (wd d.1 = wv) := hwv
        rw [hwv] at hbr hwr
        clear hwv HEQ HR
        go_wp2_with (first
          | (go_at_call 20; refine (width_to d.1 _ (HT.out _ kI2) _ HW.out).mono ?_; rintro e W1 ⟨rfl, b1⟩; have apW := ap2.step b1 (by have := blk_lt hv2; omega); have hvW := carry hv2 b1
             have KM := mend_any g (cap - Y * n) row pre post t W1 hvW (by rw [HRN.out]; omega) (HT.out _ (kY.trans (apW.1.mono (by omega)))) (by have := HTP.out; omega) (by rw [HST.out]; exact HMW.out)
             rw [HRN.out, HPL.out] at KM)
          | (go_at_call 25; refine KM.mono ?_; rintro e W6 ⟨rfl, hv6, ap6⟩; have ap7 := apW.trans ap6; have v3 := ap7.carry q3 (by simp; omega); have vM := ap7.carry qM (by simp; omega); have kW := kY.trans (ap7.1.mono (show w.heap.size ≤ g by omega)))
          | (refine wpList_load_row rfl 24 _ rfl M rfl _ _ _ _ vM Tryd.underlying24 rfl (by kernel_rfl) ?_)
          | (refine wpList_store_row rfl 24 (.tmp 10) _ rfl (w.heap.size + 2) #[.int .i64 (n : Int), .int .i64 (hh : Int), .slice (some ⟨g, 0, none⟩) cs.length cap] rfl rfl _ _ v3 (by kernel_rfl) rfl (one3v _ _ _ _ _) ?_))
        (try simp only [Exit.inBlock, Exit.then])
        refine bodyPost_ret (v := .tuple #[.agg #[.int .i64 (n : Int), .int .i64 (hh : Int), .slice (some ⟨g, 0, none⟩) cs.length cap], .int .i64 0]) ?_ rfl ⟨_, rfl, ?_, below_setRow kW (by omega) _⟩
        · exact results_row_tmp rfl _ _ (w.heap.size + 2) _ _ _ _ rfl (setRow_heap _ _ _ _ _ _ v3) Tryd.underlying24 rfl (by kernel_rfl) _ rfl
        · refine ⟨g, cap, rest, t, by rw [HGL.out], by omega, by rw [HGL.out]; exact hlc, hcm, ?_⟩
          rw [setRow_other _ _ _ _ (by omega), hv6, HST.out, HGE.out]
      · have HGO : Hid (writeR (f, bk, x) (Txt.rs s fu (pos + d.2)) (writeOne (f, bk, x) row xx d.1) (xx + (wd d.1).toNat) = writeR (f, bk, x) (Txt.runes s) row0 X) := by
          unfold Hid
          rw [← HEQ.out, HR.out, writeR_go (f, bk, x) _ _ row xx n HRN.out hbr]
        clear HEQ HR
        rcases (show wd d.1 = 0 ∨ wd d.1 = 1 ∨ wd d.1 = 2 by omega) with h0 | h0 | h0
        · have HG2 : Hid (writeR (f, bk, x) (Txt.rs s fu (pos + d.2)) row xx = writeR (f, bk, x) (Txt.runes s) row0 X) := by
            have := HGO.out
            unfold writeOne at this
            rw [if_pos h0, h0] at this
            exact this
          have HW : Hid (wd d.1 = 0) := h0
          have nb : ¬ (n : Int) - xx < 0 := by omega
          clear h0 hwr hbr HGO
          go_wp2_with (go_at_call 20; refine (width_to d.1 _ (HT.out _ kI2) _ HW.out).mono ?_; rintro e W1 ⟨rfl, b1⟩; have apW := ap2.step b1 (by have := blk_lt hv2; omega); have hvW := carry hv2 b1; have hitW := carry hit2 b1; have ⟨s0, s1, s2, _⟩ := cells3 (apW.carry q1 (by simp; omega)))
          go_roundw
          case rel => exact ⟨pos + d.2, fu, xx, row, hitW, apW, by first | rfl | simp, hxn, HRN.out, hvW, HG2.out, by omega, by omega⟩
          case measure =>
            rw [HI.out]
            simp only [World.iterPos, hitW]
            omega
        · have HG2 : Hid (writeR (f, bk, x) (Txt.rs s fu (pos + d.2)) (row.set xx (d.1, f, bk, x)) (xx + 1) = writeR (f, bk, x) (Txt.runes s) row0 X) := by
            have := HGO.out
            unfold writeOne at this
            rw [if_neg (by omega), if_neg (by omega), h0] at this
            exact this
          have HW : Hid (wd d.1 = 1) := h0
          have nb : ¬ (n : Int) - xx < 1 := by omega
          have hxl : xx < n := by omega
          clear h0 hwr hbr HGO
          go_wp2_with (first
            | (go_at_call 20; refine (width_to d.1 _ (HT.out _ kI2) _ HW.out).mono ?_; rintro e W1 ⟨rfl, b1⟩; have apW := ap2.step b1 (by have := blk_lt hv2; omega); have hvW := carry hv2 b1; have hitW := carry hit2 b1; have ⟨s0, s1, s2, _⟩ := cells3 (apW.carry q1 (by simp; omega)))
            | (refine wpList_store_cell rfl (.tmp 61) (.tmp 60) rfl g (off + xx * 4) (d.1, f, bk, x) rfl rfl (by have := there_cell hvW xx (by rw [HRN.out]; exact hxl); rwa [HPL.out] at this) ?_
               intro Z hZ
               have hvZ := store_cell hvW xx (by rw [HRN.out]; exact hxl) (d.1, f, bk, x)
               have apZ := apW.setCells g (pre.length + xx * 4) (words (d.1, f, bk, x)) (by simp) (Nat.le_refl _)
               have hitZ := (heap_setCells_ne g Y0.heap.size (by omega) (words (d.1, f, bk, x)) (pre.length + xx * 4) W1).trans hitW
               rw [HPL.out, ← hZ] at hvZ apZ hitZ
               clear hZ))
          go_roundw
          case rel => exact ⟨pos + d.2, fu, xx + 1, row.set xx (d.1, f, bk, x), hitZ, apZ, by first | rfl | simp, by omega, by rw [List.length_set, HRN.out], hvZ, HG2.out, by omega, by omega⟩
          case measure =>
            rw [HI.out]
            simp only [World.iterPos, hitZ]
            omega
        · have HG2 : Hid (writeR (f, bk, x) (Txt.rs s fu (pos + d.2)) ((row.set xx (d.1, f, bk, x)).set (xx + 1) (0, f, bk, x)) (xx + 2) = writeR (f, bk, x) (Txt.runes s) row0 X) := by
            have := HGO.out
            unfold writeOne at this
            rw [if_neg (by omega), if_pos h0, h0] at this
            exact this
          have HW : Hid (wd d.1 = 2) := h0
          have nb : ¬ (n : Int) - xx < 2 := by omega
          have hxl : xx + 1 < n := by omega
          clear h0 hwr hbr HGO
          go_wp2_with (first
            | (go_at_call 20; refine (width_to d.1 _ (HT.out _ kI2) _ HW.out).mono ?_; rintro e W1 ⟨rfl, b1⟩; have apW := ap2.step b1 (by have := blk_lt hv2; omega); have hvW := carry hv2 b1; have hitW := carry hit2 b1; have ⟨s0, s1, s2, _⟩ := cells3 (apW.carry q1 (by simp; omega)))
            | (refine wpList_store_cell rfl (.tmp 61) (.tmp 60) rfl g (off + xx * 4) (d.1, f, bk, x) rfl rfl (by have := there_cell hvW xx (by rw [HRN.out]; omega); rwa [HPL.out] at this) ?_
               intro Z hZ
               have hvZ := store_cell hvW xx (by rw [HRN.out]; omega) (d.1, f, bk, x)
               have apZ := apW.setCells g (pre.length + xx * 4) (words (d.1, f, bk, x)) (by simp) (Nat.le_refl _)
               have hitZ := (heap_setCells_ne g Y0.heap.size (by omega) (words (d.1, f, bk, x)) (pre.length + xx * 4) W1).trans hitW
               rw [HPL.out, ← hZ] at hvZ apZ hitZ
               have ⟨t0, t1, t2, _⟩ := cells3 (apZ.carry q1 (by simp; omega))
               clear hZ)
            | (refine wpList_store_cell rfl (.tmp 69) (.tmp 68) rfl g (off + (xx + 1) * 4) (0, f, bk, x) rfl rfl (by have := there_cell hvZ (xx + 1) (by rw [List.length_set, HRN.out]; exact hxl); rwa [HPL.out] at this) ?_
               intro Z2 hZ
               have hvY := store_cell hvZ (xx + 1) (by rw [List.length_set, HRN.out]; exact hxl) (0, f, bk, x)
               have apY := apZ.setCells g (pre.length + (xx + 1) * 4) (words (0, f, bk, x)) (by simp) (Nat.le_refl _)
               have hitY := (heap_setCells_ne g Y0.heap.size (by omega) (words (0, f, bk, x)) (pre.length + (xx + 1) * 4) Z).trans hitZ
               rw [HPL.out, ← hZ] at hvY apY hitY
               clear hZ))
          go_roundw
          case rel => exact ⟨pos + d.2, fu, xx + 2, (row.set xx (d.1, f, bk, x)).set (xx + 1) (0, f, bk, x), hitY, apY, by first | rfl | simp, by omega, by rw [List.length_set, List.length_set, HRN.out], hvY, HG2.out, by omega, by omega⟩
          case measure =>
            rw [HI.out]
            simp only [World.iterPos, hitY]
            omega
    · have hnx : ∀ ty, (Instr.next (.pointer (some ⟨Y0.heap.size, 0, none⟩)) true ty).run Tryd.prog wr = _ := fun ty => Lib.run_next_end_at wr Y0.heap.size s pos ty hit hp
      have HST : Hid (row = writeR (f, bk, x) (Txt.runes s) row0 X) := by
        have := HEQ.out
        rw [Txt.rs_end s fu pos hp] at this
        exact this
      have KM := mend_any g (cap - Y * n) row pre post t wr hv (by rw [HRN.out]; omega) (HT.out _ (kY.trans (hap.1.mono (by omega)))) (by have := HTP.out; omega) (by rw [HST.out]; exact HMW.out)
      rw [HRN.out, HPL.out] at KM
      go_wp2_with (first
        | (go_at_call 25; refine KM.mono ?_; rintro e W6 ⟨rfl, hv6, ap6⟩; have ap7 := hap.trans ap6; have v3 := ap7.carry q3 (by simp; omega); have vM := ap7.carry qM (by simp; omega); have kW := kY.trans (ap7.1.mono (show w.heap.size ≤ g by omega)))
        | (refine wpList_load_row rfl 24 _ rfl M rfl _ _ _ _ vM Tryd.underlying24 rfl (by kernel_rfl) ?_)
        | (refine wpList_store_row rfl 24 (.tmp 10) _ rfl (w.heap.size + 2) #[.int .i64 (n : Int), .int .i64 (hh : Int), .slice (some ⟨g, 0, none⟩) cs.length cap] rfl rfl _ _ v3 (by kernel_rfl) rfl (one3v _ _ _ _ _) ?_))
      (try simp only [Exit.inBlock, Exit.then])
      refine bodyPost_ret (v := .tuple #[.agg #[.int .i64 (n : Int), .int .i64 (hh : Int), .slice (some ⟨g, 0, none⟩) cs.length cap], .int .i64 0]) ?_ rfl ⟨_, rfl, ?_, below_setRow kW (by omega) _⟩
      · exact results_row_tmp rfl _ _ (w.heap.size + 2) _ _ _ _ rfl (setRow_heap _ _ _ _ _ _ v3) Tryd.underlying24 rfl (by kernel_rfl) _ rfl
      · refine ⟨g, cap, rest, t, by rw [HGL.out], by omega, by rw [HGL.out]; exact hlc, hcm, ?_⟩
        rw [setRow_other _ _ _ _ (by omega), hv6, HST.out, HGE.out]
end Grd
end Go.Proofs.YtinhmklpnkikgabDoor
