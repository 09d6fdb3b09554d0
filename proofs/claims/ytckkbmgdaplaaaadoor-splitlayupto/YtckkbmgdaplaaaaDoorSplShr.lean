/- Package split: shares. -/
import Derived.Test.YtckkbmgdaplaaaaDoorSplLayM
namespace Go.Proofs.YtckkbmgdaplaaaaDoor
open Go.ChangeShapes Go.WideShapes Go.ChangeAt Go.RowKit Go.Maps
namespace Spl
open Fo
def cellsI (L : List Int) (k : Nat) : Array Value := (L.map (Value.int .i64) ++ List.replicate k (Value.int .i64 0)).toArray
theorem cellsI_set (L : List Int) (k : Nat) (x : Int) : (cellsI L (k + 1)).setIfInBounds L.length (.int .i64 x) = cellsI (L ++ [x]) k := by
  unfold cellsI
  rw [List.setIfInBounds_toArray]
  congr 1
  rw [List.set_append_right _ _ (by simp)]
  simp [List.replicate_succ]
theorem cellsI_get (L : List Int) (k i : Nat) (x : Int) (h : L[i]? = some x) : (cellsI L k)[i]? = some (.int .i64 x) := by
  unfold cellsI
  obtain ⟨hi, hx⟩ := List.getElem?_eq_some_iff.1 h
  simp [List.getElem?_append, hi, hx]
theorem cell_cells {w : World} {g i : Nat} {cs : Array Value} {t : TypeId} {fr : Nat × Nat} {v : Value} (h : w.heap[g]? = some (.cells cs t fr)) (hv : cs[i]? = some v) : w.cell? ⟨g, i, none⟩ = some v := by
  unfold World.cell?
  rw [h]
  exact hv
theorem made_ints (n : Nat) : madeCells (Value.int .i64 0).cells (n * 1) = cellsI [] n := by
  unfold madeCells cellsI
  apply Array.ext
  · simp
  · intro i h1 h2
    have e : i % 1 = 0 := by omega
    simp [Value.cells, e]
theorem makeInts (n : Nat) (hn : n ≤ 2000000) (W : World) : (Instr.makeSlice 32 (.int .i64 (n : Int)) (.int .i64 (n : Int))).run Tryd.prog W = .ok (.slice (some ⟨W.heap.size, 0, none⟩) n n) (W.alloc (.cells (cellsI [] n) 3)) := by
  obtain ⟨i0, hi, hzz⟩ := Option.map_eq_some_iff.1 int_info
  simp only [Prod.mk.injEq] at hzz
  obtain ⟨hz0, hz1, hz2⟩ := hzz
  have h := run_makeSlice (P := Tryd.prog) (w := W) 32 3 i0 (.int .i64 0) ints_und hi hz0 .i64 .i64 (n : Int) (n : Int) (by omega) (by omega) (by rw [hz1]; simp; omega) (by rw [hz2]; simp; omega) (by omega)
  rw [h, hz1, Int.toNat_natCast, made_ints]
theorem old_at' (w : World) (o : Obj) (i : Nat) (h : i < w.heap.size) : (w.alloc o).heap[i]? = w.heap[i]? := by
  show (w.heap.push o)[i]? = _
  rw [Array.getElem?_push_lt h, Array.getElem?_eq_getElem h]
theorem leastN_any (wy pn sz : Int) (ks : Fo) (kv : Value) (w : World) (hcnt : ks.cnt ≤ 2000000) (h1 : wy = 0 ∨ ks ≠ .nil) (hrt : Rt ks) (hk : KAt w kv ks) :
    Calls Tryd.prog 44 #[.agg #[.int .i64 wy, .int .i64 pn, .int .i64 sz, kv]] w fun e w' => e = .returned (.tuple #[.int .i64 ((ls wy ks).1 : Nat), .int .i64 ((ls wy ks).2 : Nat)]) ∧ Below w.heap.size w w' :=
  least_any (ks.cnt + 1) wy pn sz ks kv w (Nat.lt_succ_self _) hcnt h1 hrt hk
theorem kat_below {w w' : World} {v : Value} {f : Fo} (h : KAt w v f) (hb : Below w.heap.size w w') : KAt w' v f := h.ck (CK.below hb)
set_option maxHeartbeats 8000000 in
set_option maxRecDepth 100000 in
theorem shares_any (wy pn sz : Int) (ks : Fo) (kv : Value) (x y W H : Int) (w : World) (hwy : wy = 1 ∨ wy = 2) (hne : ks ≠ nil) (hok : Ok ks) (hcnt : ks.cnt ≤ 2000000) (hk : KAt w kv ks)
    (hW0 : ((ls wy ks).1 : Int) ≤ W) (hW : W ≤ 1000) (hH0 : ((ls wy ks).2 : Int) ≤ H) (hH : H ≤ 1000) :
    Calls Tryd.prog 68 #[.agg #[.int .i64 wy, .int .i64 pn, .int .i64 sz, kv], .agg #[.int .i64 x, .int .i64 y, .int .i64 W, .int .i64 H]] w fun e w' => ∃ v, e = .returned v ∧ OwnI w' w.heap.size v (shF (leftT wy (ls wy ks) W H) (szF ks) 0 ks) ∧ Below w.heap.size w w' := by
  have hl2 := heap_alloc2_new w (.cells #[.int .i64 wy, .int .i64 pn, .int .i64 sz, kv] 24) (.cells #[.int .i64 x, .int .i64 y, .int .i64 W, .int .i64 H] 44)
  have hl1 := heap_alloc2_old w (.cells #[.int .i64 wy, .int .i64 pn, .int .i64 sz, kv] 24) (.cells #[.int .i64 x, .int .i64 y, .int .i64 W, .int .i64 H] 44)
  have kb : Below w.heap.size w ((w.alloc (.cells #[.int .i64 wy, .int .i64 pn, .int .i64 sz, kv] 24)).alloc (.cells #[.int .i64 x, .int .i64 y, .int .i64 W, .int .i64 H] 44)) := ((Below.refl _ _).alloc (Nat.le_refl _) _).alloc (by simp only [World.size_alloc]; omega) _
  have HL := leastN_any wy pn sz ks kv _ hcnt (.inr hne) hok.rt (kat_below hk kb)
  have hk0 := kat_below hk kb
  have hszl := szF_le ks hok
  have hlc := len_le_cnt ks
  have hl1' : 1 ≤ ks.len := by
    rcases Nat.eq_zero_or_pos ks.len with h | h
    · exact absurd (len_nil h) hne
    · exact h
  obtain ⟨ka, kc, rfl, hkle, hkk⟩ := hk
  obtain ⟨b, o, rfl, hf⟩ := hkk.resolve_left hne
  obtain ⟨LF, hLF⟩ : ∃ LF, leftT wy (ls wy ks) W H = LF := ⟨_, rfl⟩
  have hLb : 0 ≤ LF ∧ LF ≤ 1000 := by
    rw [← hLF]
    unfold leftT
    split <;> omega
  have HLF : Hid (leftT wy (ls wy ks) W H = LF) := hLF
  rw [hLF]
  have HF0 : Hid (FoAt w ks b o) := hf
  have HLB : Hid (0 ≤ LF ∧ LF ≤ 1000) := hLb
  obtain ⟨all, hall⟩ : ∃ all, szF ks = all := ⟨_, rfl⟩
  have HALL : Hid (szF ks = all) := hall
  rw [hall] at hszl ⊢
  have HSZ : Hid ((ks.len : Int) ≤ all ∧ all ≤ 9999 * (ks.len : Int)) := hszl
  obtain ⟨RR, hRR⟩ : ∃ RR, shF LF all 0 ks = RR := ⟨_, rfl⟩
  have HRR : Hid (shF LF all 0 ks = RR) := hRR
  rw [hRR]
  clear hLF hf hkk hk0 hall hRR
  rcases hwy with rfl | rfl
  · obtain rfl : LF = W - ((ls 1 ks).1 : Int) := by
      rw [← HLF.out]
      unfold leftT
      rw [if_neg (by decide)]
    clear HLF
    have hwl : wrap64 (W - ((ls 1 ks).1 : Int)) = W - ((ls 1 ks).1 : Int) := by unfold wrap64; omega
    have hmk := makeInts ks.len (by omega)
    go_enter Tryd.func68, Tryd.ntmps68
    go_wp2_with fail
    refine HL.mono ?_
    rintro e W2 ⟨rfl, b2⟩
    have x2 := (b2.block _ (Array.getElem?_eq_some_iff.1 hl1).1).trans hl1
    have y2 := (b2.block _ (Array.getElem?_eq_some_iff.1 hl2).1).trans hl2
    have k2 := kb.trans (b2.mono kb.size)
    obtain ⟨⟨x0, x1, x3, x4⟩, _⟩ := four_at x2
    obtain ⟨⟨r0, r1, r2, r3⟩, _⟩ := four_at y2
    have HX2 : Hid (W2.heap[w.heap.size]? = some (.cells #[.int .i64 1, .int .i64 pn, .int .i64 sz, .slice (some ⟨b, o, none⟩) ks.len kc] 24 (0, 0))) := x2
    clear HL kb b2 hl1 hl2 x2 y2
    go_wp2_with fail
    clear hwl r0 r1 r2 r3 x0 x1 x3 x4
    go_loopg [8, 35] ks.len (fun g v8 v35 wr => ∃ (i : Nat) (rs : Fo) (A : Int), v8 = .int .i64 A ∧ v35 = .int .i64 (i : Int) ∧ i + rs.len = ks.len ∧ rs.len ≤ g ∧ rs.cnt ≤ ks.cnt ∧ Ok rs ∧ FoAt w rs b (o + i * 4) ∧ A + szF rs = all ∧ 0 ≤ A ∧ A ≤ 9999 * (i : Int) ∧ Below w.heap.size w wr ∧ wr.heap[w.heap.size]? = some (.cells #[.int .i64 1, .int .i64 pn, .int .i64 sz, .slice (some ⟨b, o, none⟩) ks.len kc] 24 (0, 0)))
    case atStart => exact ⟨0, ks, 0, rfl, rfl, by omega, Nat.le_refl _, Nat.le_refl _, hok, by simpa using HF0.out, by rw [Int.zero_add]; exact HALL.out, Int.le_refl _, by omega, k2, HX2.out⟩
    case round =>
      obtain ⟨i, rs, A, rfl, rfl, hil, hg, hrc, hrr, hfo, hA, hA0, hA1, hbel, hx⟩ := hrel
      obtain ⟨⟨x0, x1, x3, x4⟩, _⟩ := four_at hx
      clear k2 HX2
      cases rs with
      | nil =>
        have iex : ¬ (i : Int) < (ks.len : Int) := by simp only [len] at hil; omega
        have hAA : all = A := by simp only [szF] at hA; omega
        clear hA
        subst hAA
        have HBE : Hid (Below w.heap.size w wr ∧ w.heap.size < wr.heap.size) := ⟨hbel, (Array.getElem?_eq_some_iff.1 hx).1⟩
        have hnew := heap_alloc_new wr (.cells (cellsI [] ks.len) 3)
        have k3 := hbel.alloc hbel.size (.cells (cellsI [] ks.len) 3)
        have x5 := (old_at' wr (.cells (cellsI [] ks.len) 3) _ (Array.getElem?_eq_some_iff.1 hx).1).trans hx
        have x5c := (four_at x5).1.2.2.2
        have hX0 : w.heap.size ≤ wr.heap.size := hbel.size
        have hall1 := HSZ.out
        clear hfo hil hg hrc hrr hA0 hA1 hbel hx x0 x1 x3
        go_wp2_with fail
        generalize hWX : wr.alloc (.cells (cellsI [] ks.len) 3) = V at *
        generalize wr.heap.size = X at *
        clear hWX hmk x5c x4
        go_loopg [12, 13, 51] ks.len (fun g v12 v13 v51 wr => ∃ (i : Nat) (rs : Fo) (S : Int) (L : List Int), v12 = .int .i64 S ∧ v13 = .int .i64 (gv (W - ((ls 1 ks).1 : Int)) all S) ∧ v51 = .int .i64 (i : Int) ∧ i + rs.len = ks.len ∧ rs.len ≤ g ∧ rs.cnt ≤ ks.cnt ∧ Ok rs ∧ FoAt w rs b (o + i * 4) ∧ S + szF rs = all ∧ 0 ≤ S ∧ L.length = i ∧ L ++ shF (W - ((ls 1 ks).1 : Int)) all S rs = RR ∧ Below w.heap.size w wr ∧ wr.heap[X]? = some (.cells (cellsI L rs.len) 3 (0, 0)))
        case atStart => exact ⟨0, ks, 0, [], rfl, by rw [gv_zero], rfl, by omega, Nat.le_refl _, Nat.le_refl _, hok, by simpa using HF0.out, by rw [HALL.out]; omega, Int.le_refl _, rfl, by rw [List.nil_append]; exact HRR.out, k3, hnew⟩
        case round =>
          obtain ⟨i, rs, S, L, rfl, rfl, rfl, hil, hg, hrc, hrr, hfo, hS, hS0, hLl, hL, hbel, hx⟩ := hrel
          clear k3 hnew x5
          cases rs with
          | nil =>
            have iex : ¬ (i : Int) < (ks.len : Int) := by simp only [len] at hil; omega
            have hLR : L = RR := by rw [← hL]; simp [shF]
            subst hLR
            have hfin : OwnI wr w.heap.size (.slice (some ⟨X, 0, none⟩) ks.len ks.len) L := by
              simp only [len, Nat.add_zero] at hil
              refine ⟨by simp, .inr ⟨X, ks.len, _, by rw [hLl, hil], hX0, hx, by omega, by unfold maxLen; omega, by unfold cellsI; simp [len]; omega, ?_⟩⟩
              unfold cellsI
              simp [len, List.take_of_length_le]
            clear hfo hil hx hL hS hS0 hrr
            go_wp2_with fail
            go_ret
            exact ⟨_, rfl, hfin, hbel⟩
          | cons wy' pn' sz' ks' rs' =>
            obtain ⟨kv', h0, h1, h2, h3, hk', hr'⟩ := hfo.head
            obtain ⟨q1, q2, q3, q4⟩ := hrr
            simp only [len] at hil hg hx
            simp only [cnt] at hrc
            simp only [szF] at hS
            have hck := CK.below hbel
            have y0 := hck _ _ _ h0
            have y1 := hck _ _ _ h1
            have y2 := hck _ _ _ h2
            have y3 := hck _ _ _ h3
            obtain ⟨ka', kc', rfl, hkle', _⟩ := hk'
            have iin : (i : Int) < (ks.len : Int) := by omega
            have hXl : X < wr.heap.size := (Array.getElem?_eq_some_iff.1 hx).1
            have kA : Below wr.heap.size wr (wr.alloc (.cells #[.int .i64 wy', .int .i64 pn', .int .i64 sz', .slice ka' ks'.len kc'] 24)) := (Below.refl _ _).alloc (Nat.le_refl _) _
            have hA := heap_alloc_new wr (.cells #[.int .i64 wy', .int .i64 pn', .int .i64 sz', .slice ka' ks'.len kc'] 24)
            have hxA := (kA.block _ hXl).trans hx
            have kAA := hbel.alloc hbel.size (.cells #[.int .i64 wy', .int .i64 pn', .int .i64 sz', .slice ka' ks'.len kc'] 24)
            have HR' : Hid (FoAt w rs' b (o + (i + 1) * 4)) := by
              unfold Hid
              rw [show o + (i + 1) * 4 = o + i * 4 + 4 by omega]
              exact hr'
            have hsr := szF_pos rs' q4
            have hL9 := HLB.out
            have hgl := gv_le (left := (W - ((ls 1 ks).1 : Int))) (all := all) (S := S) (T := S + sz') hL9.1 hS0 (by omega) (by omega) (by omega)
            have hms := mul_small (a := (W - ((ls 1 ks).1 : Int))) (b := S + sz') hL9.1 hL9.2 (by omega) (by omega)
            have hq0 : ((W - ((ls 1 ks).1 : Int)) * (S + sz')).tdiv all = gv (W - ((ls 1 ks).1 : Int)) all (S + sz') := Int.tdiv_eq_ediv_of_nonneg hms.1
            have HLN : Hid ((L ++ [gv (W - ((ls 1 ks).1 : Int)) all (S + sz') - gv (W - ((ls 1 ks).1 : Int)) all S]) ++ shF (W - ((ls 1 ks).1 : Int)) all (S + sz') rs' = RR) := by
              unfold Hid
              rw [← hL, shF, List.append_assoc]
              rfl
            generalize gv (W - ((ls 1 ks).1 : Int)) all S = G0 at *
            have HG1 : Hid (∃ G, gv (W - ((ls 1 ks).1 : Int)) all (S + sz') = G) := ⟨_, rfl⟩
            generalize hG1 : gv (W - ((ls 1 ks).1 : Int)) all (S + sz') = G1 at *
            have hG : Hid (gv (W - ((ls 1 ks).1 : Int)) all (S + sz') = G1) := hG1
            clear HG1 hG1
            have hm1 : wrap64 (S + sz') = S + sz' := by unfold wrap64; omega
            have hm2 : wrap64 ((W - ((ls 1 ks).1 : Int)) * (S + sz')) = (W - ((ls 1 ks).1 : Int)) * (S + sz') := by unfold wrap64; omega
            have hm3 : wrap64 (((W - ((ls 1 ks).1 : Int)) * (S + sz')).tdiv all) = G1 := by rw [hq0]; unfold wrap64; omega
            have hm4 : wrap64 (G1 - G0) = G1 - G0 := by unfold wrap64; omega
            have hm5 : wrap64 (G0 + (G1 - G0)) = G1 := by unfold wrap64; omega
            have hne0 : ¬ all = 0 := by omega
            have hne1 : (all == 0) = false := beq_eq_false_iff_ne.2 hne0
            have hst := heap_setCell_same (wr.alloc (.cells #[.int .i64 wy', .int .i64 pn', .int .i64 sz', .slice ka' ks'.len kc'] 24)) X i _ _ (.int .i64 (G1 - G0)) hxA
            rw [← hLl, cellsI_set] at hst
            rw [hLl] at hst
            have cl0 : (wr.alloc (.cells #[.int .i64 wy', .int .i64 pn', .int .i64 sz', .slice ka' ks'.len kc'] 24)).cell? ⟨X, 0 + i, none⟩ = some (.int .i64 0) := by
              rw [Nat.zero_add]
              refine cell_cells hxA ?_
              unfold cellsI
              simp [hLl]
            have cl1 : ((wr.alloc (.cells #[.int .i64 wy', .int .i64 pn', .int .i64 sz', .slice ka' ks'.len kc'] 24)).setCell ⟨X, i, none⟩ (.int .i64 (G1 - G0))).cell? ⟨X, i, none⟩ = some (.int .i64 (G1 - G0)) := by
              refine cell_cells hst (cellsI_get _ _ _ _ ?_)
              simp [← hLl]
            have fr : (wr.alloc (.cells #[.int .i64 wy', .int .i64 pn', .int .i64 sz', .slice ka' ks'.len kc'] 24)).frozen? ⟨X, i, none⟩ = false := by simp only [World.frozen?, hxA]; rfl
            have cl2 : wr.cell? ⟨X, i, none⟩ = some (.int .i64 0) := by
              refine cell_cells hx ?_
              unfold cellsI
              simp [hLl]
            have fr2 : wr.frozen? ⟨X, i, none⟩ = false := by simp only [World.frozen?, hx]; rfl
            have kS := hbel.setCell (p := ⟨X, i, none⟩) hX0 (.int .i64 (G1 - G0))
            have kF := kS.alloc kS.size (.cells #[.int .i64 wy', .int .i64 pn', .int .i64 sz', .slice ka' ks'.len kc'] 24)
            have hs2 := heap_setCell_same wr X i _ _ (.int .i64 (G1 - G0)) hx
            rw [← hLl, cellsI_set] at hs2
            rw [hLl] at hs2
            have HST0 : Hid (((wr.setCell ⟨X, i, none⟩ (.int .i64 (G1 - G0))).alloc (.cells #[.int .i64 wy', .int .i64 pn', .int .i64 sz', .slice ka' ks'.len kc'] 24)).heap[X]? = some (.cells (cellsI (L ++ [G1 - G0]) rs'.len) 3 (0, 0))) := (old_at' _ _ X (Array.getElem?_eq_some_iff.1 hs2).1).trans hs2
            clear hs2 kS
            clear hfo hr' h0 h1 h2 h3 hck hx hxA hgl hms hq0 hL hL9 hsr
            have HM1 : Hid (wrap64 (S + sz') = S + sz') := hm1
            have HM5 : Hid (wrap64 (G0 + (G1 - G0)) = G1) := hm5
            have HST : Hid (((wr.setCell ⟨X, i, none⟩ (.int .i64 (G1 - G0))).alloc (.cells #[.int .i64 wy', .int .i64 pn', .int .i64 sz', .slice ka' ks'.len kc'] 24)).heap[X]? = some (.cells (cellsI (L ++ [G1 - G0]) rs'.len) 3 (0, 0))) := HST0.out
            clear hst
            go_wp2_with fail
            clear hm1 hm2 hm3 hm4 hm5
            go_roundg rs'.len
            case measure => omega
            case rel => exact ⟨i + 1, rs', S + sz', L ++ [G1 - G0], congrArg (Value.int .i64) HM1.out, congrArg (Value.int .i64) (HM5.out.trans hG.out.symm), by go_num, by omega, Nat.le_refl _, by omega, q4, HR'.out, by omega, by omega, by rw [List.length_append, List.length_singleton, hLl], HLN.out, kF, HST.out⟩
      | cons wy' pn' sz' ks' rs' =>
        obtain ⟨kv', h0, h1, h2, h3, hk', hr'⟩ := hfo.head
        obtain ⟨q1, q2, q3, q4⟩ := hrr
        simp only [len] at hil hg
        simp only [cnt] at hrc
        simp only [szF] at hA
        have hck := CK.below hbel
        have y0 := hck _ _ _ h0
        have y1 := hck _ _ _ h1
        have y2 := hck _ _ _ h2
        have y3 := hck _ _ _ h3
        obtain ⟨ka', kc', rfl, hkle', _⟩ := hk'
        have iin : (i : Int) < (ks.len : Int) := by omega
        have kA : Below wr.heap.size wr (wr.alloc (.cells #[.int .i64 wy', .int .i64 pn', .int .i64 sz', .slice ka' ks'.len kc'] 24)) := (Below.refl _ _).alloc (Nat.le_refl _) _
        have hxA := (kA.block _ (Array.getElem?_eq_some_iff.1 hx).1).trans hx
        have hnA := heap_alloc_new wr (.cells #[.int .i64 wy', .int .i64 pn', .int .i64 sz', .slice ka' ks'.len kc'] 24)
        have kAA := hbel.alloc hbel.size (.cells #[.int .i64 wy', .int .i64 pn', .int .i64 sz', .slice ka' ks'.len kc'] 24)
        have HR' : Hid (FoAt w rs' b (o + (i + 1) * 4)) := by
          unfold Hid
          rw [show o + (i + 1) * 4 = o + i * 4 + 4 by omega]
          exact hr'
        have hw9 : wrap64 (A + sz') = A + sz' := by unfold wrap64; omega
        obtain ⟨⟨n0, n1, n2, n3⟩, _⟩ := four_at hnA
        clear hfo hr' h0 h1 h2 h3 hck hx hnA kA x0 x1 x3 x4
        go_wp2_with fail
        clear hw9
        go_roundg rs'.len
        case measure => omega
        case rel => exact ⟨i + 1, rs', A + sz', rfl, by go_num, by omega, Nat.le_refl _, by omega, q4, HR'.out, by omega, by omega, by omega, kAA, hxA⟩
  · have hwl0 : wrap64 (W - ((ls 2 ks).1 : Int)) = W - ((ls 2 ks).1 : Int) := by unfold wrap64; omega
    obtain rfl : LF = H - ((ls 2 ks).2 : Int) := by
      rw [← HLF.out]
      unfold leftT
      rw [if_pos rfl]
    clear HLF
    have hwl : wrap64 (H - ((ls 2 ks).2 : Int)) = H - ((ls 2 ks).2 : Int) := by unfold wrap64; omega
    have hmk := makeInts ks.len (by omega)
    go_enter Tryd.func68, Tryd.ntmps68
    go_wp2_with fail
    refine HL.mono ?_
    rintro e W2 ⟨rfl, b2⟩
    have x2 := (b2.block _ (Array.getElem?_eq_some_iff.1 hl1).1).trans hl1
    have y2 := (b2.block _ (Array.getElem?_eq_some_iff.1 hl2).1).trans hl2
    have k2 := kb.trans (b2.mono kb.size)
    obtain ⟨⟨x0, x1, x3, x4⟩, _⟩ := four_at x2
    obtain ⟨⟨r0, r1, r2, r3⟩, _⟩ := four_at y2
    have HX2 : Hid (W2.heap[w.heap.size]? = some (.cells #[.int .i64 2, .int .i64 pn, .int .i64 sz, .slice (some ⟨b, o, none⟩) ks.len kc] 24 (0, 0))) := x2
    clear HL kb b2 hl1 hl2 x2 y2
    go_wp2_with fail
    clear hwl hwl0 r0 r1 r2 r3 x0 x1 x3 x4
    go_loopg [8, 35] ks.len (fun g v8 v35 wr => ∃ (i : Nat) (rs : Fo) (A : Int), v8 = .int .i64 A ∧ v35 = .int .i64 (i : Int) ∧ i + rs.len = ks.len ∧ rs.len ≤ g ∧ rs.cnt ≤ ks.cnt ∧ Ok rs ∧ FoAt w rs b (o + i * 4) ∧ A + szF rs = all ∧ 0 ≤ A ∧ A ≤ 9999 * (i : Int) ∧ Below w.heap.size w wr ∧ wr.heap[w.heap.size]? = some (.cells #[.int .i64 2, .int .i64 pn, .int .i64 sz, .slice (some ⟨b, o, none⟩) ks.len kc] 24 (0, 0)))
    case atStart => exact ⟨0, ks, 0, rfl, rfl, by omega, Nat.le_refl _, Nat.le_refl _, hok, by simpa using HF0.out, by rw [Int.zero_add]; exact HALL.out, Int.le_refl _, by omega, k2, HX2.out⟩
    case round =>
      obtain ⟨i, rs, A, rfl, rfl, hil, hg, hrc, hrr, hfo, hA, hA0, hA1, hbel, hx⟩ := hrel
      obtain ⟨⟨x0, x1, x3, x4⟩, _⟩ := four_at hx
      clear k2 HX2
      cases rs with
      | nil =>
        have iex : ¬ (i : Int) < (ks.len : Int) := by simp only [len] at hil; omega
        have hAA : all = A := by simp only [szF] at hA; omega
        clear hA
        subst hAA
        have HBE : Hid (Below w.heap.size w wr ∧ w.heap.size < wr.heap.size) := ⟨hbel, (Array.getElem?_eq_some_iff.1 hx).1⟩
        have hnew := heap_alloc_new wr (.cells (cellsI [] ks.len) 3)
        have k3 := hbel.alloc hbel.size (.cells (cellsI [] ks.len) 3)
        have x5 := (old_at' wr (.cells (cellsI [] ks.len) 3) _ (Array.getElem?_eq_some_iff.1 hx).1).trans hx
        have x5c := (four_at x5).1.2.2.2
        have hX0 : w.heap.size ≤ wr.heap.size := hbel.size
        have hall1 := HSZ.out
        clear hfo hil hg hrc hrr hA0 hA1 hbel hx x0 x1 x3
        go_wp2_with fail
        generalize hWX : wr.alloc (.cells (cellsI [] ks.len) 3) = V at *
        generalize wr.heap.size = X at *
        clear hWX hmk x5c x4
        go_loopg [12, 13, 51] ks.len (fun g v12 v13 v51 wr => ∃ (i : Nat) (rs : Fo) (S : Int) (L : List Int), v12 = .int .i64 S ∧ v13 = .int .i64 (gv (H - ((ls 2 ks).2 : Int)) all S) ∧ v51 = .int .i64 (i : Int) ∧ i + rs.len = ks.len ∧ rs.len ≤ g ∧ rs.cnt ≤ ks.cnt ∧ Ok rs ∧ FoAt w rs b (o + i * 4) ∧ S + szF rs = all ∧ 0 ≤ S ∧ L.length = i ∧ L ++ shF (H - ((ls 2 ks).2 : Int)) all S rs = RR ∧ Below w.heap.size w wr ∧ wr.heap[X]? = some (.cells (cellsI L rs.len) 3 (0, 0)))
        case atStart => exact ⟨0, ks, 0, [], rfl, by rw [gv_zero], rfl, by omega, Nat.le_refl _, Nat.le_refl _, hok, by simpa using HF0.out, by rw [HALL.out]; omega, Int.le_refl _, rfl, by rw [List.nil_append]; exact HRR.out, k3, hnew⟩
        case round =>
          obtain ⟨i, rs, S, L, rfl, rfl, rfl, hil, hg, hrc, hrr, hfo, hS, hS0, hLl, hL, hbel, hx⟩ := hrel
          clear k3 hnew x5
          cases rs with
          | nil =>
            have iex : ¬ (i : Int) < (ks.len : Int) := by simp only [len] at hil; omega
            have hLR : L = RR := by rw [← hL]; simp [shF]
            subst hLR
            have hfin : OwnI wr w.heap.size (.slice (some ⟨X, 0, none⟩) ks.len ks.len) L := by
              simp only [len, Nat.add_zero] at hil
              refine ⟨by simp, .inr ⟨X, ks.len, _, by rw [hLl, hil], hX0, hx, by omega, by unfold maxLen; omega, by unfold cellsI; simp [len]; omega, ?_⟩⟩
              unfold cellsI
              simp [len, List.take_of_length_le]
            clear hfo hil hx hL hS hS0 hrr
            go_wp2_with fail
            go_ret
            exact ⟨_, rfl, hfin, hbel⟩
          | cons wy' pn' sz' ks' rs' =>
            obtain ⟨kv', h0, h1, h2, h3, hk', hr'⟩ := hfo.head
            obtain ⟨q1, q2, q3, q4⟩ := hrr
            simp only [len] at hil hg hx
            simp only [cnt] at hrc
            simp only [szF] at hS
            have hck := CK.below hbel
            have y0 := hck _ _ _ h0
            have y1 := hck _ _ _ h1
            have y2 := hck _ _ _ h2
            have y3 := hck _ _ _ h3
            obtain ⟨ka', kc', rfl, hkle', _⟩ := hk'
            have iin : (i : Int) < (ks.len : Int) := by omega
            have hXl : X < wr.heap.size := (Array.getElem?_eq_some_iff.1 hx).1
            have kA : Below wr.heap.size wr (wr.alloc (.cells #[.int .i64 wy', .int .i64 pn', .int .i64 sz', .slice ka' ks'.len kc'] 24)) := (Below.refl _ _).alloc (Nat.le_refl _) _
            have hA := heap_alloc_new wr (.cells #[.int .i64 wy', .int .i64 pn', .int .i64 sz', .slice ka' ks'.len kc'] 24)
            have hxA := (kA.block _ hXl).trans hx
            have kAA := hbel.alloc hbel.size (.cells #[.int .i64 wy', .int .i64 pn', .int .i64 sz', .slice ka' ks'.len kc'] 24)
            have HR' : Hid (FoAt w rs' b (o + (i + 1) * 4)) := by
              unfold Hid
              rw [show o + (i + 1) * 4 = o + i * 4 + 4 by omega]
              exact hr'
            have hsr := szF_pos rs' q4
            have hL9 := HLB.out
            have hgl := gv_le (left := (H - ((ls 2 ks).2 : Int))) (all := all) (S := S) (T := S + sz') hL9.1 hS0 (by omega) (by omega) (by omega)
            have hms := mul_small (a := (H - ((ls 2 ks).2 : Int))) (b := S + sz') hL9.1 hL9.2 (by omega) (by omega)
            have hq0 : ((H - ((ls 2 ks).2 : Int)) * (S + sz')).tdiv all = gv (H - ((ls 2 ks).2 : Int)) all (S + sz') := Int.tdiv_eq_ediv_of_nonneg hms.1
            have HLN : Hid ((L ++ [gv (H - ((ls 2 ks).2 : Int)) all (S + sz') - gv (H - ((ls 2 ks).2 : Int)) all S]) ++ shF (H - ((ls 2 ks).2 : Int)) all (S + sz') rs' = RR) := by
              unfold Hid
              rw [← hL, shF, List.append_assoc]
              rfl
            generalize gv (H - ((ls 2 ks).2 : Int)) all S = G0 at *
            have HG1 : Hid (∃ G, gv (H - ((ls 2 ks).2 : Int)) all (S + sz') = G) := ⟨_, rfl⟩
            generalize hG1 : gv (H - ((ls 2 ks).2 : Int)) all (S + sz') = G1 at *
            have hG : Hid (gv (H - ((ls 2 ks).2 : Int)) all (S + sz') = G1) := hG1
            clear HG1 hG1
            have hm1 : wrap64 (S + sz') = S + sz' := by unfold wrap64; omega
            have hm2 : wrap64 ((H - ((ls 2 ks).2 : Int)) * (S + sz')) = (H - ((ls 2 ks).2 : Int)) * (S + sz') := by unfold wrap64; omega
            have hm3 : wrap64 (((H - ((ls 2 ks).2 : Int)) * (S + sz')).tdiv all) = G1 := by rw [hq0]; unfold wrap64; omega
            have hm4 : wrap64 (G1 - G0) = G1 - G0 := by unfold wrap64; omega
            have hm5 : wrap64 (G0 + (G1 - G0)) = G1 := by unfold wrap64; omega
            have hne0 : ¬ all = 0 := by omega
            have hne1 : (all == 0) = false := beq_eq_false_iff_ne.2 hne0
            have hst := heap_setCell_same (wr.alloc (.cells #[.int .i64 wy', .int .i64 pn', .int .i64 sz', .slice ka' ks'.len kc'] 24)) X i _ _ (.int .i64 (G1 - G0)) hxA
            rw [← hLl, cellsI_set] at hst
            rw [hLl] at hst
            have cl0 : (wr.alloc (.cells #[.int .i64 wy', .int .i64 pn', .int .i64 sz', .slice ka' ks'.len kc'] 24)).cell? ⟨X, 0 + i, none⟩ = some (.int .i64 0) := by
              rw [Nat.zero_add]
              refine cell_cells hxA ?_
              unfold cellsI
              simp [hLl]
            have cl1 : ((wr.alloc (.cells #[.int .i64 wy', .int .i64 pn', .int .i64 sz', .slice ka' ks'.len kc'] 24)).setCell ⟨X, i, none⟩ (.int .i64 (G1 - G0))).cell? ⟨X, i, none⟩ = some (.int .i64 (G1 - G0)) := by
              refine cell_cells hst (cellsI_get _ _ _ _ ?_)
              simp [← hLl]
            have fr : (wr.alloc (.cells #[.int .i64 wy', .int .i64 pn', .int .i64 sz', .slice ka' ks'.len kc'] 24)).frozen? ⟨X, i, none⟩ = false := by simp only [World.frozen?, hxA]; rfl
            have cl2 : wr.cell? ⟨X, i, none⟩ = some (.int .i64 0) := by
              refine cell_cells hx ?_
              unfold cellsI
              simp [hLl]
            have fr2 : wr.frozen? ⟨X, i, none⟩ = false := by simp only [World.frozen?, hx]; rfl
            have kS := hbel.setCell (p := ⟨X, i, none⟩) hX0 (.int .i64 (G1 - G0))
            have kF := kS.alloc kS.size (.cells #[.int .i64 wy', .int .i64 pn', .int .i64 sz', .slice ka' ks'.len kc'] 24)
            have hs2 := heap_setCell_same wr X i _ _ (.int .i64 (G1 - G0)) hx
            rw [← hLl, cellsI_set] at hs2
            rw [hLl] at hs2
            have HST0 : Hid (((wr.setCell ⟨X, i, none⟩ (.int .i64 (G1 - G0))).alloc (.cells #[.int .i64 wy', .int .i64 pn', .int .i64 sz', .slice ka' ks'.len kc'] 24)).heap[X]? = some (.cells (cellsI (L ++ [G1 - G0]) rs'.len) 3 (0, 0))) := (old_at' _ _ X (Array.getElem?_eq_some_iff.1 hs2).1).trans hs2
            clear hs2 kS
            clear hfo hr' h0 h1 h2 h3 hck hx hxA hgl hms hq0 hL hL9 hsr
            have HM1 : Hid (wrap64 (S + sz') = S + sz') := hm1
            have HM5 : Hid (wrap64 (G0 + (G1 - G0)) = G1) := hm5
            have HST : Hid (((wr.setCell ⟨X, i, none⟩ (.int .i64 (G1 - G0))).alloc (.cells #[.int .i64 wy', .int .i64 pn', .int .i64 sz', .slice ka' ks'.len kc'] 24)).heap[X]? = some (.cells (cellsI (L ++ [G1 - G0]) rs'.len) 3 (0, 0))) := HST0.out
            clear hst
            go_wp2_with fail
            clear hm1 hm2 hm3 hm4 hm5
            go_roundg rs'.len
            case measure => omega
            case rel => exact ⟨i + 1, rs', S + sz', L ++ [G1 - G0], congrArg (Value.int .i64) HM1.out, congrArg (Value.int .i64) (HM5.out.trans hG.out.symm), by go_num, by omega, Nat.le_refl _, by omega, q4, HR'.out, by omega, by omega, by rw [List.length_append, List.length_singleton, hLl], HLN.out, kF, HST.out⟩
      | cons wy' pn' sz' ks' rs' =>
        obtain ⟨kv', h0, h1, h2, h3, hk', hr'⟩ := hfo.head
        obtain ⟨q1, q2, q3, q4⟩ := hrr
        simp only [len] at hil hg
        simp only [cnt] at hrc
        simp only [szF] at hA
        have hck := CK.below hbel
        have y0 := hck _ _ _ h0
        have y1 := hck _ _ _ h1
        have y2 := hck _ _ _ h2
        have y3 := hck _ _ _ h3
        obtain ⟨ka', kc', rfl, hkle', _⟩ := hk'
        have iin : (i : Int) < (ks.len : Int) := by omega
        have kA : Below wr.heap.size wr (wr.alloc (.cells #[.int .i64 wy', .int .i64 pn', .int .i64 sz', .slice ka' ks'.len kc'] 24)) := (Below.refl _ _).alloc (Nat.le_refl _) _
        have hxA := (kA.block _ (Array.getElem?_eq_some_iff.1 hx).1).trans hx
        have hnA := heap_alloc_new wr (.cells #[.int .i64 wy', .int .i64 pn', .int .i64 sz', .slice ka' ks'.len kc'] 24)
        have kAA := hbel.alloc hbel.size (.cells #[.int .i64 wy', .int .i64 pn', .int .i64 sz', .slice ka' ks'.len kc'] 24)
        have HR' : Hid (FoAt w rs' b (o + (i + 1) * 4)) := by
          unfold Hid
          rw [show o + (i + 1) * 4 = o + i * 4 + 4 by omega]
          exact hr'
        have hw9 : wrap64 (A + sz') = A + sz' := by unfold wrap64; omega
        obtain ⟨⟨n0, n1, n2, n3⟩, _⟩ := four_at hnA
        clear hfo hr' h0 h1 h2 h3 hck hx hnA kA x0 x1 x3 x4
        go_wp2_with fail
        clear hw9
        go_roundg rs'.len
        case measure => omega
        case rel => exact ⟨i + 1, rs', A + sz', rfl, by go_num, by omega, Nat.le_refl _, by omega, q4, HR'.out, by omega, by omega, by omega, kAA, hxA⟩
end Spl
end Go.Proofs.YtckkbmgdaplaaaaDoor
