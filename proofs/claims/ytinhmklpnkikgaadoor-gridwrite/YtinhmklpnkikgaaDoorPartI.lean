/- The walk of grid.Lines: a right grid. -/
import Derived.Test.YtinhmklpnkikgaaDoorPartH
import Derived.Test.YtinhmklpnkikgaaDoorPartG
import Derived.Test.YtinhmklpnkikgaaDoorPartF
import Derived.Lib.QuietBelow
import Derived.BigQuiet
import Derived.Deep.RegionHeld3
namespace Go.Proofs.YtinhmklpnkikgaaDoor
open Go.ChangeShapes Go.WideShapes Go.ChangeAt Go.RowKit
namespace Grd
open Txt (wd)
open Sty (isSt)
set_option maxHeartbeats 8000000 in
set_option maxRecDepth 100000 in
theorem lines_good (n hh b o cx : Nat) (cs : List C) (w : World) (hT : Txt.Tab w) (hC : CellsAt w b o cs) (hok : gridErr n hh cs = 0) (hc : cs.length ≤ cx) (hm : cx ≤ 9223372036854775807) :
    Calls Tryd.prog 31 #[.agg #[.int .i64 (n : Int), .int .i64 (hh : Int), .slice (some ⟨b, o, none⟩) cs.length cx]] w fun e w' => ∃ v, e = .returned (.tuple #[v, .int .i64 0]) ∧ OwnS w' w.heap.size v (linesL n hh cs) ∧ Below w.heap.size w w' := by
  obtain ⟨hsize, hL, hrows⟩ := (gridErr_zero n hh cs).1 hok
  have ⟨p0, p1, p2, p3, p4, p5⟩ := prod_in n hh hsize
  have hne : cs ≠ [] := by
    intro h
    rw [h, List.length_nil] at hL
    have : 0 < n * hh := Nat.mul_pos (by omega) (by omega)
    omega
  have hS : SliceAt w (.slice (some ⟨b, o, none⟩) cs.length cx) cs := .inr ⟨hne, b, o, cx, rfl, hc, hm, hC⟩
  have HIN : Hid (∀ y j, y < hh → j < n → 0 ≤ ((rowAt n cs y).getD j z0).1 ∧ ((rowAt n cs y).getD j z0).1 ≤ 1114111) := fun y j hy hj => cellR_in n hh cs hok y j hy hj
  have HC : Hid (CellsAt w b o cs) := hC
  have HL : Hid (cs.length = n * hh) := hL
  have kk : Below w.heap.size w (w.alloc (.cells #[.int .i64 (n : Int), .int .i64 (hh : Int), .slice (some ⟨b, o, none⟩) cs.length cx] 24)) := (Below.refl _ _).alloc (Nat.le_refl _) _
  have HK' : Hid (Calls Tryd.prog 11 #[.agg #[.int .i64 (n : Int), .int .i64 (hh : Int), .slice (some ⟨b, o, none⟩) cs.length cx]] (w.alloc (.cells #[.int .i64 (n : Int), .int .i64 (hh : Int), .slice (some ⟨b, o, none⟩) cs.length cx] 24)) fun e w' => e = .returned (.int .i64 0) ∧ Below (w.alloc (.cells #[.int .i64 (n : Int), .int .i64 (hh : Int), .slice (some ⟨b, o, none⟩) cs.length cx] 24)).heap.size (w.alloc (.cells #[.int .i64 (n : Int), .int .i64 (hh : Int), .slice (some ⟨b, o, none⟩) cs.length cx] 24)) w') := check_ok n hh _ cs _ (Tab.next hT kk) (hS.below kk) hok
  have hmk := make_strs hh (by omega)
  obtain ⟨A, hA⟩ : ∃ A, A = madeCells #[.string ByteArray.empty] (hh * 1) := ⟨_, rfl⟩
  have hAs : A.size = hh := by rw [hA, size_madeCells]; omega
  rw [← hA] at hmk
  have x0 := heap_alloc_new w (.cells #[.int .i64 (n : Int), .int .i64 (hh : Int), .slice (some ⟨b, o, none⟩) cs.length cx] 24)
  clear hA hT hS hok hC hne hrows hL p0 p1 hsize
  go_enter Tryd.func31, Tryd.ntmps31
  go_wp2_with (go_at_call 11; refine HK'.out.mono ?_; rintro e W1 ⟨rfl, b1⟩; have y0 := carry x0 b1; have ⟨e0, e1, e2, _⟩ := cells3 y0)
  have k1 := kk.trans (b1.mono kk.size)
  have yN : w.heap.size < W1.heap.size := blk_lt y0
  have z0 : (W1.alloc (.cells A 9)).heap[w.heap.size]? = _ := (Below.heap_alloc _ _ _ yN).trans y0
  have zG : (W1.alloc (.cells A 9)).heap[W1.heap.size]? = some (.cells A.toList.toArray 9 (0, 0)) := by simpa using heap_alloc_new W1 (.cells A 9)
  have kX : Below w.heap.size w (W1.alloc (.cells A 9)) := k1.alloc k1.size _
  have hAl : A.toList.length = hh := by simpa using hAs
  generalize (W1.alloc (.cells A 9)) = X at *
  generalize hG : W1.heap.size = G at *
  have HAL : Hid (A.toList.length = hh) := hAl
  clear b1 y0 e0 e1 e2 kk x0 HK' hmk k1 hAs hAl hG
  go_loopg [20] hh (fun q y wr => ∃ (k : Nat) (Ls : List Value), y = .int .i64 (k : Int) ∧ k ≤ hh ∧ hh - k ≤ q ∧ Below w.heap.size w wr ∧ wr.heap[w.heap.size]? = some (.cells #[.int .i64 (n : Int), .int .i64 (hh : Int), .slice (some ⟨b, o, none⟩) cs.length cx] 24 (0, 0)) ∧ wr.heap[G]? = some (.cells Ls.toArray 9 (0, 0)) ∧ Ls.length = hh ∧ ∀ i, i < k → Ls[i]? = some (.string (lineB (rowAt n cs i))))
  case atStart => exact ⟨0, A.toList, rfl, by omega, by omega, kX, z0, zG, HAL.out, fun i hi => by omega⟩
  case round =>
    clear z0 zG kX HAL
    obtain ⟨k, Ls, rfl, hk, hq, kW, v0, vG, hLs, hdone⟩ := hrel
    have HLS : Hid (Ls.length = hh) := hLs
    have HD : Hid (∀ i, i < k → Ls[i]? = some (.string (lineB (rowAt n cs i)))) := hdone
    clear hLs hdone
    by_cases hlt : k < hh
    · have lt1 : ((k : Int) < (hh : Int)) := by omega
      have hrl := row_len n hh cs k HL.out hlt
      obtain ⟨c0, c1, c2, _⟩ := cells3 v0
      have hw0 : Below wr.heap.size wr (wr.alloc (.cells #[.pointer none, .slice none 0 0] 81)) := (Below.refl _ _).alloc (Nat.le_refl _) _
      have HB0 : Hid (Lib.IsBuilderF 81 5 wr.heap.size wr.heap.size (Lib.byteCells []) (wr.alloc (.cells #[.pointer none, .slice none 0 0] 81))) := Lib.IsBuilderF.of (Lib.fresh_isBuilder 81 5 wr)
      have d0 := carry v0 hw0
      obtain ⟨f0, f1, f2, _⟩ := cells3 d0
      have HR : Hid (Calls Tryd.prog 36 #[.agg #[.int .i64 (n : Int), .int .i64 (hh : Int), .slice (some ⟨b, o, none⟩) cs.length cx], .int .i64 (k : Int)] (wr.alloc (.cells #[.pointer none, .slice none 0 0] 81)) fun e w' => e = .returned (.slice (some ⟨b, o + k * n * 4, none⟩) n (cx - k * n)) ∧ Below (wr.alloc (.cells #[.pointer none, .slice none 0 0] 81)).heap.size (wr.alloc (.cells #[.pointer none, .slice none 0 0] 81)) w') := rowOf_any b o cs.length cx n k hh _ (by omega) (row_fits n hh _ k HL.out hlt) hc hm
      have HCR : Hid (∀ W, Below w.heap.size w W → CellsAt W b (o + k * n * 4) (rowAt n cs k)) := fun W kW => (HC.out.below kW).part (k * n) n (by have := row_fits n hh _ k HL.out hlt; rw [Nat.add_mul, Nat.one_mul] at this; omega)
      have HINR : Hid (∀ j, j < n → 0 ≤ ((rowAt n cs k).getD j Grd.z0).1 ∧ ((rowAt n cs k).getD j Grd.z0).1 ≤ 1114111) := fun j hj => HIN.out k j hlt hj
      have HRL : Hid ((rowAt n cs k).length = n) := hrl
      clear hrl
      go_wp2_with (go_at_call 36; refine HR.out.mono ?_; rintro e W5 ⟨rfl, b5⟩)
      have kB : Below wr.heap.size wr W5 := hw0.trans (b5.mono hw0.size)
      have HB1 := builder_below HB0.out b5
      clear HR b5 HB0 f0 f1 f2 d0 hw0 c0 c1 c2
      generalize wr = V at *
      have hNB : w.heap.size ≤ V.heap.size := kW.size
      generalize hB0 : V.heap.size = B0 at *
      go_loopg [27] n (fun q xx wv => ∃ (j : Nat) (acc : List UInt8), xx = .int .i64 (j : Int) ∧ j ≤ n ∧ n - j ≤ q ∧ Below B0 V wv ∧ Lib.IsBuilderF 81 5 B0 B0 (Lib.byteCells acc) wv ∧ acc = rowBytes ((rowAt n cs k).take j) ∧ acc.length ≤ 4 * j)
      case atStart => exact ⟨0, [], rfl, by omega, by omega, kB, HB1, rfl, by simp⟩
      case round =>
        clear kB HB1
        obtain ⟨j, acc, rfl, hj, hq2, hb, hI, hacc, hal⟩ := hrel
        have HACC : Hid (acc = rowBytes ((rowAt n cs k).take j)) := hacc
        clear hacc
        have hBW : B0 ≤ wr.heap.size := by rw [← hB0]; exact hb.size
        have kN : Below w.heap.size w wr := kW.trans (hb.mono hNB)
        by_cases hlt2 : j < n
        · have lt2 : ((j : Int) < (n : Int)) := by omega
          have hrg := range_cell (HCR.out wr kN) j (by rw [HRL.out]; exact hlt2)
          have hin := HINR.out j hlt2
          have HNX : Hid (rowBytes ((rowAt n cs k).take (j + 1)) = rowBytes ((rowAt n cs k).take j) ++ (if ((rowAt n cs k).getD j Grd.z0).1 = 0 then [] else Lib.encodeRune ((rowAt n cs k).getD j Grd.z0).1)) := rowBytes_next _ j (by rw [HRL.out]; exact hlt2)
          rcases hce : (rowAt n cs k).getD j Grd.z0 with ⟨r, f, bk, x⟩
          rw [hce] at hrg hin HNX
          dsimp only at hin HNX
          have HRG : Hid (wr.rangeAt b (o + k * n * 4 + j * 4) (words (r, f, bk, x))) := hrg
          have HI0 : Hid (Lib.IsBuilderF 81 5 B0 B0 (Lib.byteCells acc) wr) := hI
          clear hrg hce hI
          by_cases hr0 : r = 0
          · have ne : (r != 0) = false := by simp [hr0]
            have HN2 : Hid (acc = rowBytes ((rowAt n cs k).take (j + 1))) := by
              unfold Hid
              rw [HNX.out, if_pos hr0, List.append_nil]
              exact HACC.out
            clear HNX HACC hin hr0
            go_wp2_with (first
            | (refine wpList_load_mid rfl 40 (.tmp 29) rfl b (o + k * n * 4 + j * 4) rfl (words (r, f, bk, x)) _ HRG.out Tryd.underlying40 rfl cell4_size ?_)
            | (refine wpList_store_row rfl 40 (.tmp 9) _ rfl wr.heap.size #[.int .i32 r, .int .i64 f, .int .i64 bk, .int .i64 x] rfl rfl _ _ (heap_alloc_new wr _) cell4_size rfl (words_one (r, f, bk, x)) ?_
               have hn0 := setRow_heap _ _ _ #[.int .i32 r, .int .i64 f, .int .i64 bk, .int .i64 x] _ _ (heap_alloc_new wr (.cells #[.int .i32 0, .int .i64 0, .int .i64 0, .int .i64 0] 40))
               have kZ : Below wr.heap.size wr ((wr.alloc (.cells #[.int .i32 0, .int .i64 0, .int .i64 0, .int .i64 0] 40)).setRow wr.heap.size #[.int .i32 r, .int .i64 f, .int .i64 bk, .int .i64 x]) := below_setRow ((Below.refl _ _).alloc (Nat.le_refl _) _) (Nat.le_refl _) _
               generalize ((wr.alloc (.cells #[.int .i32 0, .int .i64 0, .int .i64 0, .int .i64 0] 40)).setRow wr.heap.size #[.int .i32 r, .int .i64 f, .int .i64 bk, .int .i64 x]) = Z at *
               obtain ⟨g0, g1, g2, g3⟩ := cells4 hn0))
            go_roundg (n - (j + 1))
            case measure => omega
            case rel => exact ⟨j + 1, acc, rfl, by omega, by omega, hb.trans (kZ.mono hBW), builder_below HI0.out kZ, HN2.out, by omega⟩
          · have ne : (r != 0) = true := by simpa using hr0
            have HN2 : Hid (acc ++ Lib.encodeRune r = rowBytes ((rowAt n cs k).take (j + 1))) := by
              unfold Hid
              rw [HNX.out, if_neg hr0, ← HACC.out]
            have hl4 := encode_len r
            clear HNX HACC
            go_wp2_with (first
            | (refine wpList_load_mid rfl 40 (.tmp 29) rfl b (o + k * n * 4 + j * 4) rfl (words (r, f, bk, x)) _ HRG.out Tryd.underlying40 rfl cell4_size ?_)
            | (refine wpList_store_row rfl 40 (.tmp 9) _ rfl wr.heap.size #[.int .i32 r, .int .i64 f, .int .i64 bk, .int .i64 x] rfl rfl _ _ (heap_alloc_new wr _) cell4_size rfl (words_one (r, f, bk, x)) ?_
               have hn0 := setRow_heap _ _ _ #[.int .i32 r, .int .i64 f, .int .i64 bk, .int .i64 x] _ _ (heap_alloc_new wr (.cells #[.int .i32 0, .int .i64 0, .int .i64 0, .int .i64 0] 40))
               have kZ : Below wr.heap.size wr ((wr.alloc (.cells #[.int .i32 0, .int .i64 0, .int .i64 0, .int .i64 0] 40)).setRow wr.heap.size #[.int .i32 r, .int .i64 f, .int .i64 bk, .int .i64 x]) := below_setRow ((Below.refl _ _).alloc (Nat.le_refl _) _) (Nat.le_refl _) _
               generalize ((wr.alloc (.cells #[.int .i32 0, .int .i64 0, .int .i64 0, .int .i64 0] 40)).setRow wr.heap.size #[.int .i32 r, .int .i64 f, .int .i64 bk, .int .i64 x]) = Z at *
               obtain ⟨g0, g1, g2, g3⟩ := cells4 hn0)
            | (go_at_call 50; refine (Tryd.Builder_WriteRune_k B0 B0 _ r (by omega) (by omega) _ (builder_below HI0.out kZ) (by rw [Lib.byteCells_length]; omega) (by have := kZ.size; omega)).mono ?_; rintro e W8 ⟨rfl, h8, b8, k8⟩))
            go_roundg (n - (j + 1))
            case measure => omega
            case rel =>
              refine ⟨j + 1, acc ++ Lib.encodeRune r, rfl, by omega, by omega, (hb.trans (kZ.mono hBW)).trans b8, ?_, HN2.out, by rw [List.length_append]; omega⟩
              rw [Lib.byteCells_append, Lib.byteCells_encodeRune]
              exact Or.inr h8
        · have lt2 : ¬ ((j : Int) < (n : Int)) := by omega
          have HE : Hid (acc = rowBytes (rowAt n cs k)) := by
            unfold Hid
            rw [HACC.out, List.take_of_length_le (by rw [HRL.out]; omega)]
          clear HACC
          have hkL : k < Ls.length := by rw [HLS.out]; exact hlt
          have hGB : G < B0 := by rw [← hB0]; exact blk_lt vG
          have hTR : ∀ W, Calls Tryd.prog 51 #[.string ⟨acc.toArray⟩, .string ⟨#[32]⟩] W fun e w' => e = .returned (.string ⟨(Lib.trimRightB acc 32).toArray⟩) ∧ W = w' := fun W => by
            have := Tryd.strings_TrimRight_one ⟨acc.toArray⟩ 32 (by decide) W (by show acc.toArray.size ≤ _; simp; omega)
            exact this.mono fun e w' h => ⟨by simpa using h.1, h.2.symm⟩
          go_wp2_with (first
            | (go_at_call 52; refine (Tryd.Builder_String_any_k B0 B0 acc _ hI hBW).mono ?_; rintro e W7 ⟨rfl, _, b7, _⟩
               have kV := hb.trans b7
               have vG7 : W7.heap[G]? = _ := (kV.block G hGB).trans vG
               have v07 : W7.heap[w.heap.size]? = _ := (kV.block _ (by rw [← hB0]; exact blk_lt v0)).trans v0
               have hce : W7.cell? ⟨G, k, none⟩ = some Ls[k] := by unfold World.cell?; rw [vG7]; simp [hkL]
               have hfz : W7.frozen? ⟨G, k, none⟩ = false := frozen_of vG7 _)
            | (go_at_call 51; refine (hTR _).mono ?_; rintro e W8 ⟨rfl, rfl⟩))
          go_roundg (hh - (k + 1))
          case measure => omega
          case rel =>
            refine ⟨k + 1, Ls.set k (.string ⟨(Lib.trimRightB acc 32).toArray⟩), rfl, by omega, by omega, (kW.trans (kV.mono hNB)).setCell (by dsimp only; omega) _, ?_, ?_, by rw [List.length_set]; exact HLS.out, ?_⟩
            · rw [heap_setCell_other _ _ _ _ (by dsimp only; omega)]; exact v07
            · have := heap_setCell_same W7 G k _ _ (.string ⟨(Lib.trimRightB acc 32).toArray⟩) vG7
              simpa using this
            · intro i hi
              by_cases hik : i = k
              · subst hik
                rw [List.getElem?_set_self hkL, HE.out]; rfl
              · rw [List.getElem?_set_ne (by omega)]; exact HD.out i (by omega)
    · have lt1 : ¬ ((k : Int) < (hh : Int)) := by omega
      have hkh : k = hh := by omega
      go_wp2_with fail
      go_ret2
      refine ⟨_, rfl, ⟨G, 9, ?_, by omega, ?_⟩, kW⟩
      · simp [linesL]
      · rw [vG]
        have : Ls = (linesL n hh cs).map Value.string := by
          refine List.ext_getElem? fun i => ?_
          by_cases hi : i < hh
          · rw [HD.out i (by omega)]; simp [linesL, hi]
          · rw [List.getElem?_eq_none (by rw [HLS.out]; omega), List.getElem?_eq_none (by simp [linesL]; omega)]
        rw [this]
end Grd
end Go.Proofs.YtinhmklpnkikgaaDoor

/- The walk of grid.Fill: a right cell. -/
namespace Go.Proofs.YtinhmklpnkikgaaDoor
open Go.ChangeShapes Go.WideShapes Go.ChangeAt Go.RowKit
namespace Grd
open Txt (wd)
open Sty (isSt)
theorem info_cell4 : (Tryd.prog.info? 40).map (·.size) = some 4 := by kernel_rfl
theorem row_off (n k o : Nat) (hf : o = k * n) : 0 + k * n * 4 = o * 4 := by omega
set_option maxHeartbeats 8000000 in
theorem fill_good (n hh b o cx : Nat) (cs : List C) (rx ry rw rh r f bk x : Int) (w : World) (hT : Txt.Tab w) (hC : CellsAt w b o cs) (hok : gridErr n hh cs = 0) (hc : cs.length ≤ cx) (hm : cx ≤ 9223372036854775807) (hr : wd r = 1) (hs : isSt (f, bk, x) = true) :
    Calls Tryd.prog 18 #[.agg #[.int .i64 (n : Int), .int .i64 (hh : Int), .slice (some ⟨b, o, none⟩) cs.length cx], .agg #[.int .i64 rx, .int .i64 ry, .int .i64 rw, .int .i64 rh], .agg #[.int .i32 r, .int .i64 f, .int .i64 bk, .int .i64 x]] w fun e w' => ∃ v, e = .returned (.tuple #[.agg #[.int .i64 (n : Int), .int .i64 (hh : Int), v], .int .i64 0]) ∧ OwnG w' w.heap.size v (fillG n hh cs rx ry rw rh (r, f, bk, x)) ∧ Below w.heap.size w w' := by
  obtain ⟨hsize, hL, hrows⟩ := (gridErr_zero n hh cs).1 hok
  have ⟨p0, p1, p2, p3, p4, p5⟩ := prod_in n hh hsize
  have hne : cs ≠ [] := by
    intro h
    rw [h, List.length_nil] at hL
    have : 0 < n * hh := Nat.mul_pos (by omega) (by omega)
    omega
  have hl2 : cs.length ≤ 7200 := by
    have : ((n * hh : Nat) : Int) ≤ 7200 := by rw [Int.natCast_mul]; exact p1
    omega
  have hS : SliceAt w (.slice (some ⟨b, o, none⟩) cs.length cx) cs := .inr ⟨hne, b, o, cx, rfl, hc, hm, hC⟩
  obtain ⟨x0, x1, x2, x3, kk, hsz⟩ := alloc4 w (.cells #[.int .i64 (n : Int), .int .i64 (hh : Int), .slice (some ⟨b, o, none⟩) cs.length cx] 24) (.cells #[.int .i64 rx, .int .i64 ry, .int .i64 rw, .int .i64 rh] 36) (.cells #[.int .i32 r, .int .i64 f, .int .i64 bk, .int .i64 x] 40) (.cells #[.int .i64 0, .int .i64 0, .slice none 0 0] 24)
  have HK := check_ok n hh _ cs _ (Tab.next hT kk) (hS.below kk) hok
  have HT : Hid (∀ W, Below w.heap.size w W → Txt.Tab W) := fun W k => Tab.next hT k
  have HTP : Hid (0 < w.heap.size) := hT.pos
  have HC : Hid (CellsAt w b o cs) := hC
  have HL : Hid (cs.length = n * hh) := hL
  have HML : Hid (∀ k, k < hh → ∀ p, Alike (putRow (rowAt n cs k) p fun _ => (r, f, bk, x))) := fun k hk p => (meant_fill (rowAt n cs k) p (r, f, bk, x) (hrows k hk).1 hr hs).alike
  clear hT hS hok hC hne hrows hL p0 p1 hsize
  generalize hW0 : ((((w.alloc (.cells #[.int .i64 (n : Int), .int .i64 (hh : Int), .slice (some ⟨b, o, none⟩) cs.length cx] 24)).alloc (.cells #[.int .i64 rx, .int .i64 ry, .int .i64 rw, .int .i64 rh] 36)).alloc (.cells #[.int .i32 r, .int .i64 f, .int .i64 bk, .int .i64 x] 40)).alloc (.cells #[.int .i64 0, .int .i64 0, .slice none 0 0] 24)) = W0 at x0 x1 x2 x3 kk hsz HK
  have HW0 : Hid (_ = W0) := hW0
  have HK' : Hid (Calls Tryd.prog 11 #[.agg #[.int .i64 (n : Int), .int .i64 (hh : Int), .slice (some ⟨b, o, none⟩) cs.length cx]] W0 fun e w' => e = .returned (.int .i64 0) ∧ Below W0.heap.size W0 w') := HK
  have HR : Hid (wd r = 1) := hr
  have HS : Hid (isSt (f, bk, x) = true) := hs
  clear HK hW0 hr hs
  go_enter Tryd.func18, Tryd.ntmps18
  go_wp2_with (first
    | (go_at_call 11; rw [HW0.out]; refine HK'.out.mono ?_; rintro e W1 ⟨rfl, b1⟩; have k1 := kk.trans (b1.mono kk.size); have y3 := carry x3 b1; have y2 := carry x2 b1; have y1 := carry x1 b1; have y0 := carry x0 b1; have ⟨c0, c1, c2, c3⟩ := cells4 y2)
    | (go_at_call 40; refine (width_to r _ (HT.out _ k1) _ HR.out).mono ?_; rintro e W2 ⟨rfl, b2⟩; have k2 := k1.trans (b2.mono k1.size); have z3 := carry y3 b2; have z2 := carry y2 b2; have z1 := carry y1 b2; have z0 := carry y0 b2; have ⟨d0, d1, d2, d3⟩ := cells4 z2)
    | (go_at_call 41; refine (check_to f bk x _ HS.out _).mono ?_; rintro e W3 ⟨rfl, b3⟩; have k3 := k2.trans (b3.mono k2.size); have u3 := carry z3 b3; have u2 := carry z2 b3; have u1 := carry z1 b3; have u0 := carry z0 b3; have ⟨e0, e1, e2, _⟩ := cells3 u0)
    | (go_at_call 42; refine (copyOf_any n hh b o cx cs _ (HC.out.below k3) (by omega)).mono ?_; rintro e W4 ⟨v4, rfl, ⟨g, cap, rest, t, rfl, hgb, hlc, hcm, hgh⟩, b4⟩; have hW4 := heap_alloc_new W4 (.cells #[.int .i64 0, .int .i64 0, .slice none 0 0] 24))
    | (refine wpList_store_row rfl 24 (.tmp 9) _ rfl W4.heap.size #[.int .i64 (n : Int), .int .i64 (hh : Int), .slice (some ⟨g, 0, none⟩) cs.length cap] rfl rfl _ _ hW4 (by kernel_rfl) rfl (one3v _ _ _ _ _) ?_))
  have hsz1 := b1.size
  have hsz2 := b2.size
  have hsz3 := b3.size
  have hsz4 := b4.size
  have hg4 : g < W4.heap.size := blk_lt hgh
  have hX : ∀ k o', W4.heap[k]? = some o' → ((W4.alloc (.cells #[.int .i64 0, .int .i64 0, .slice none 0 0] 24)).setRow W4.heap.size #[.int .i64 (n : Int), .int .i64 (hh : Int), .slice (some ⟨g, 0, none⟩) cs.length cap]).heap[k]? = some o' := fun k o' hk => by
    have := blk_lt hk
    rw [setRow_other _ _ _ _ (by omega), Below.heap_alloc _ _ _ this, hk]
  have q0 := hX _ _ (carry u0 b4)
  have q1 := hX _ _ (carry u1 b4)
  have q2 := hX _ _ (carry u2 b4)
  have q3 := hX _ _ (carry u3 b4)
  have qg := hX _ _ hgh
  have qM := setRow_heap _ _ _ #[.int .i64 (n : Int), .int .i64 (hh : Int), .slice (some ⟨g, 0, none⟩) cs.length cap] _ _ hW4
  have k4 := k3.trans (b4.mono k3.size)
  have kX := below_setRow (k4.alloc k4.size (.cells #[.int .i64 0, .int .i64 0, .slice none 0 0] 24)) k4.size #[.int .i64 (n : Int), .int .i64 (hh : Int), .slice (some ⟨g, 0, none⟩) cs.length cap]
  generalize ((W4.alloc (.cells #[.int .i64 0, .int .i64 0, .slice none 0 0] 24)).setRow W4.heap.size #[.int .i64 (n : Int), .int .i64 (hh : Int), .slice (some ⟨g, 0, none⟩) cs.length cap]) = X at *
  generalize hM : W4.heap.size = M at *
  have hgN : w.heap.size + 4 ≤ g := by omega
  clear hX hW4 hgh u0 u1 u2 u3 e0 e1 e2 b4 b3 z0 z1 z2 z3 d0 d1 d2 d3 c0 c1 c2 c3 b2 y0 y1 y2 y3 b1 x0 x1 x2 x3 HW0 HK' k1 k2 k3 k4 kk hsz hsz1 hsz2 hsz3 hsz4 hM hgb
  have ⟨e0, e1, e2, _⟩ := cells3 q0
  have ⟨f0, f1, f2, f3⟩ := cells4 q1
  go_quiet (first
    | (go_at_call 44; exact Calls.quiet_of_same (near_same _ _))
    | (go_at_call 43; exact Calls.quiet_of_same (reach_same _ _ _ _)))
  go_wp2_with fail
  generalize hY : X.drewN nq = Y
  have hYh : Y.heap = X.heap := by rw [← hY]; rfl
  have kY : Below w.heap.size w Y := by rw [← hY]; exact kX.trans ⟨rfl, rfl, rfl, Nat.le_refl _, fun _ _ => rfl⟩
  rw [← hYh] at q0 q1 q2 q3 qg qM
  clear hYh hY kX e0 e1 e2 f0 f1 f2 f3
  have ⟨e0, e1, e2, _⟩ := cells3 q0
  have ⟨f0, f1, f2, f3⟩ := cells4 q1
  go_quiet (first
    | (go_at_call 44; exact Calls.quiet_of_same (near_same _ _))
    | (go_at_call 43; exact Calls.quiet_of_same (reach_same _ _ _ _)))
  have HFG : Hid (preF n cs (fillF n hh rx ry rw rh (r, f, bk, x)) hh = fillG n hh cs rx ry rw rh (r, f, bk, x)) := rfl
  have HFL : Hid (KeepLen n (fillF n hh rx ry rw rh (r, f, bk, x))) := fillF_len n hh rx ry rw rh _
  have HF0 : Hid (∀ y : Nat, ((y : Int) < max (nearI ry) 0 ∨ ¬ (y : Int) < min (nearI ry + nearI rh) hh) → ∀ row, fillF n hh rx ry rw rh (r, f, bk, x) y row = row) := fun y hy row => by
    unfold fillF inside
    rw [if_neg (by simp only [decide_eq_true_eq]; omega)]
  have HF1 : Hid (∀ y : Nat, max (nearI ry) 0 ≤ (y : Int) → (y : Int) < min (nearI ry + nearI rh) hh → ∀ row, fillF n hh rx ry rw rh (r, f, bk, x) y row = mendL (putRow row (inside rx rw n) fun _ => (r, f, bk, x))) := fun y h1 h2 row => by
    unfold fillF
    rw [if_pos (by unfold inside; simp only [decide_eq_true_eq]; omega)]
  have HP : Hid (∀ u : Nat, inside rx rw n u = decide (max (nearI rx) 0 ≤ (u : Int) ∧ (u : Int) < min (nearI rx + nearI rw) n)) := fun u => rfl
  have hRt : min (nearI rx + nearI rw) (n : Int) ≤ n := by omega
  have hBt : min (nearI ry + nearI rh) (hh : Int) ≤ hh := by omega
  generalize fillF n hh rx ry rw rh (r, f, bk, x) = F at HFG HFL HF0 HF1
  generalize inside rx rw n = ins at HF1 HP
  obtain ⟨T, hT⟩ := Int.eq_ofNat_of_zero_le (show 0 ≤ max (nearI ry) 0 by omega)
  obtain ⟨Lf, hLf⟩ := Int.eq_ofNat_of_zero_le (show 0 ≤ max (nearI rx) 0 by omega)
  rw [hT] at HF0 HF1
  rw [hLf] at HP
  simp only [hT, hLf]
  generalize min (nearI rx + nearI rw) (n : Int) = Rt at *
  generalize min (nearI ry + nearI rh) (hh : Int) = Bt at *
  clear hT hLf e0 e1 e2 f0 f1 f2 f3 q0 q1
  go_wp2_with fail
  go_loopg [14] hh (fun q y wr => ∃ k : Nat, y = .int .i64 (k : Int) ∧ T ≤ k ∧ hh - k ≤ q ∧ Apart g [g] Y wr ∧ wr.heap[g]? = some (.cells (flat (upto n hh cs F k) ++ rest).toArray t (0, 0)))
  case atStart =>
    refine ⟨T, rfl, Nat.le_refl _, by omega, ⟨(Below.refl _ _).trans ⟨rfl, rfl, rfl, Nat.le_refl _, fun _ _ => rfl⟩, fun _ _ _ => rfl⟩, ?_⟩
    rw [upto_start n hh cs F T (fun y hy => HF0.out y (.inl (by omega)) _)]
    exact qg
  case round =>
    obtain ⟨k, rfl, hk, hq, hap, hv⟩ := hrel
    have hY := hap.1
    have v2 := hap.carry q2 (by simp; omega)
    have v3 := hap.carry q3 (by simp; omega)
    have vM := hap.carry qM (by simp; omega)
    have kW : Below w.heap.size w wr := kY.trans (hY.mono (by omega))
    by_cases hlt : (k : Int) < Bt
    · have hkh : k < hh := by omega
      have hrl := row_len n hh cs k HL.out hkh
      have HRW : Hid (Calls Tryd.prog 36 #[.agg #[.int .i64 (n : Int), .int .i64 (hh : Int), .slice (some ⟨g, 0, none⟩) cs.length cap], .int .i64 (k : Int)] wr fun e w' => e = .returned (.slice (some ⟨g, 0 + k * n * 4, none⟩) n (cap - k * n)) ∧ Below wr.heap.size wr w') := rowOf_any g 0 cs.length cap n k hh wr (by omega) (row_fits n hh _ k HL.out hkh) hlc hcm
      have HE : Hid (flat (upto n hh cs F k) ++ rest = flat (preF n cs F k) ++ (flat (rowAt n cs k) ++ (flat (cs.drop ((k + 1) * n)) ++ rest))) := by
        unfold Hid
        rw [upto_at n hh cs F k hkh, flat_three]
      have HN : Hid (flat (upto n hh cs F (k + 1)) ++ rest = flat (preF n cs F k) ++ (flat (F k (rowAt n cs k)) ++ (flat (cs.drop ((k + 1) * n)) ++ rest))) := by
        unfold Hid
        rw [upto_next n hh cs F k hkh, flat_three]
      have HFk : Hid (F k (rowAt n cs k) = mendL (putRow (rowAt n cs k) ins fun _ => (r, f, bk, x))) := HF1.out k (by omega) hlt _
      have hpl : (flat (preF n cs F k)).length = 0 + k * n * 4 := by rw [flat_len, preF_len n hh cs F HL.out HFL.out k (by omega)]; omega
      have HPL : Hid ((flat (preF n cs F k)).length = 0 + k * n * 4) := hpl
      rw [HE.out] at hv
      clear hpl HE
      generalize flat (preF n cs F k) = pre at *
      generalize flat (cs.drop ((k + 1) * n)) ++ rest = post at *
      have HRL : Hid ((rowAt n cs k).length = n) := hrl
      have HMR : Hid (∀ p, Alike (putRow (rowAt n cs k) p fun _ => (r, f, bk, x))) := HML.out k hkh
      clear hrl
      generalize hrow : rowAt n cs k = row at HN HFk HRL hv HMR
      clear hrow
      generalize hoff : 0 + k * n * 4 = off at *
      have ⟨vM0, vM1, vM2, _⟩ := cells3 vM
      go_wp2_with (go_at_call 36; refine HRW.out.mono ?_; rintro e W5 ⟨rfl, b5⟩)
      have hap5 : Apart g [g] Y W5 := hap.step b5 (by have := blk_lt hv; omega)
      have hv5 := carry hv b5
      clear hap hv v2 v3 vM vM0 vM1 vM2 kW b5 HRW hY
      go_loopg [16] n (fun q xx wr => ∃ j : Nat, xx = .int .i64 (j : Int) ∧ Lf ≤ j ∧ n - j ≤ q ∧ Apart g [g] Y wr ∧ wr.heap[g]? = some (.cells (pre ++ (flat (putRow row (fun u => ins u && decide (u < j)) fun _ => (r, f, bk, x)) ++ post)).toArray t (0, 0)))
      case atStart =>
        refine ⟨Lf, rfl, Nat.le_refl _, by omega, hap5, ?_⟩
        rw [putRow_none]
        · exact hv5
        · intro u _
          rw [HP.out u]
          simp
          omega
      case round =>
        clear hap5 hv5
        obtain ⟨j, rfl, hj, hq2, hap, hv⟩ := hrel
        have v2 := hap.carry q2 (by simp; omega)
        by_cases hlt2 : (j : Int) < Rt
        · have hjn : j < n := by omega
          have hth := there_cell hv j (by rw [putRow_len, HRL.out]; exact hjn)
          have hst := store_cell hv j (by rw [putRow_len, HRL.out]; exact hjn) (r, f, bk, x)
          rw [putRow_set row _ (fun u => ins u && decide (u < j + 1)) (fun _ => (r, f, bk, x)) j (by rw [HRL.out]; exact hjn) (fun u _ => by
            rw [HP.out u]
            by_cases huj : u = j
            · subst huj; simp; omega
            · simp only [huj, decide_false, Bool.or_false]
              rw [show decide (u < j + 1) = decide (u < j) by rw [decide_eq_decide]; omega])] at hst
          rw [HPL.out] at hth hst
          have HST : Hid ((wr.setCells g (off + j * 4) (words (r, f, bk, x))).heap[g]? = some (.cells (pre ++ (flat (putRow row (fun u => ins u && decide (u < j + 1)) fun _ => (r, f, bk, x)) ++ post)).toArray t (0, 0))) := hst
          have HTH : Hid (wr.there g (off + j * 4) 4) := hth
          have HAP : Hid (Apart g [g] Y (wr.setCells g (off + j * 4) (words (r, f, bk, x)))) := hap.setCells g _ _ (by simp) (Nat.le_refl _)
          clear hst hth hap hv
          go_wp2_with (first
            | (refine wpList_load_row rfl 40 _ rfl (w.heap.size + 2) rfl _ _ _ _ v2 Tryd.underlying40 rfl (by kernel_rfl) ?_)
            | (refine wpList_store_mid rfl 40 (.tmp 78) (.tmp 77) rfl g (off + j * 4) #[.int .i32 r, .int .i64 f, .int .i64 bk, .int .i64 x] rfl rfl HTH.out info_cell4 (words_one (r, f, bk, x)) ?_))
          go_roundg (n - (j + 1))
          case measure => omega
          case rel => exact ⟨j + 1, rfl, by omega, by omega, HAP.out, HST.out⟩
        · have HEQ : Hid (putRow row (fun u => ins u && decide (u < j)) (fun _ => (r, f, bk, x)) = putRow row ins fun _ => (r, f, bk, x)) := putRow_congr _ _ _ _ _ (fun u _ => ⟨by rw [HP.out u, Bool.eq_iff_iff]; simp; omega, fun _ => rfl⟩)
          rw [HEQ.out] at hv
          have KM := mend_any g (cap - k * n) (putRow row ins fun _ => (r, f, bk, x)) pre post t wr hv (by rw [putRow_len, HRL.out]; omega) (HT.out _ (kY.trans (hap.1.mono (by omega)))) (by have := HTP.out; omega) (HMR.out ins)
          rw [putRow_len, HRL.out, HPL.out, ← HFk.out, ← HN.out] at KM
          have HKM : Hid (Calls Tryd.prog 45 #[.slice (some ⟨g, off, none⟩) n (cap - k * n)] wr fun e w' => e = .returned (.tuple #[]) ∧ w'.heap[g]? = some (.cells (flat (upto n hh cs F (k + 1)) ++ rest).toArray t (0, 0)) ∧ Apart g [g] wr w') := KM
          have HAP : Hid (Apart g [g] Y wr) := hap
          clear KM HEQ v2 hv hap
          go_wp2_with (go_at_call 45; refine HKM.out.mono ?_; rintro e W6 ⟨rfl, hv6, ap6⟩)
          go_roundg (hh - (k + 1))
          case measure => omega
          case rel => exact ⟨k + 1, rfl, by omega, by omega, HAP.out.trans ap6, hv6⟩
    · have HEN : Hid (upto n hh cs F k = preF n cs F hh) := upto_end n hh cs F HL.out k (fun y hy => HF0.out y (.inr (by omega)) _)
      have HEL : Hid ((upto n hh cs F k).length = cs.length) := upto_len n hh cs F HL.out HFL.out k
      go_wp2_with (first
        | (refine wpList_load_row rfl 24 _ rfl M rfl _ _ _ _ vM Tryd.underlying24 rfl (by kernel_rfl) ?_)
        | (refine wpList_store_row rfl 24 (.tmp 6) _ rfl (w.heap.size + 3) #[.int .i64 (n : Int), .int .i64 (hh : Int), .slice (some ⟨g, 0, none⟩) cs.length cap] rfl rfl _ _ v3 (by kernel_rfl) rfl (one3v _ _ _ _ _) ?_))
      (try simp only [Exit.inBlock, Exit.then])
      refine bodyPost_ret (v := .tuple #[.agg #[.int .i64 (n : Int), .int .i64 (hh : Int), .slice (some ⟨g, 0, none⟩) cs.length cap], .int .i64 0]) ?_ rfl ⟨_, rfl, ?_, below_setRow kW (by omega) _⟩
      · exact results_row_tmp rfl _ _ (w.heap.size + 3) _ _ _ _ rfl (setRow_heap _ _ _ _ _ _ v3) Tryd.underlying24 rfl (by kernel_rfl) _ rfl
      · rw [← HFG.out, ← HEN.out]
        refine ⟨g, cap, rest, t, by rw [HEL.out], by omega, by rw [HEL.out]; exact hlc, hcm, ?_⟩
        rw [setRow_other _ _ _ _ (by omega)]
        exact hv
end Grd
end Go.Proofs.YtinhmklpnkikgaaDoor

/- The closed fact 'gridded'. -/
namespace Go.Proofs.YtinhmklpnkikgaaDoor
open Go.ChangeShapes Go.WideShapes Go.ChangeAt Go.RowKit
namespace Grd
theorem var_new (W : World) (T : TypeId) (z cs : Array Value) : ((W.alloc (.cells z T)).setRow W.heap.size cs).heap[W.heap.size]? = some (.cells cs T (0, 0)) ∧ Below W.heap.size W ((W.alloc (.cells z T)).setRow W.heap.size cs) :=
  ⟨setRow_heap _ _ _ _ _ _ (heap_alloc_new _ _), below_setRow ((Below.refl _ _).alloc (Nat.le_refl _) _) (Nat.le_refl _) _⟩
def gA : List C := [blank, blank, blank]
def gB : List C := [(26085, 0, 0, 0), (0, 0, 0, 0), (120, 0, 0, 0)]
def gC : List C := [(32, 0, 0, 0), (122, 0, 0, 0), (120, 0, 0, 0)]
def sunx : ByteArray := ⟨#[230, 151, 165, 120]⟩
theorem gA_ok : gridErr (3 : Nat) (1 : Nat) gA = 0 := by decide +kernel
theorem gB_ok : gridErr (3 : Nat) (1 : Nat) gB = 0 := by decide +kernel
theorem gC_ok : gridErr (3 : Nat) (1 : Nat) gC = 0 := by decide +kernel
theorem gB_is : writeG 3 1 gA 0 0 (Txt.runes sunx) (0, 0, 0) = gB := by decide +kernel
theorem gC_is : fillG 3 1 gB 1 0 1 1 (122, 0, 0, 0) = gC := by decide +kernel
theorem gL_is : linesL 3 1 gC = [⟨#[32, 122, 120]⟩] := by decide +kernel
theorem gNew (w : World) : Calls Tryd.prog 9 #[.int .i64 3, .int .i64 1] w fun e w' => ∃ (g cap : Nat) (rest : List Value) (t : TypeId), e = .returned (.tuple #[.agg #[.int .i64 3, .int .i64 1, .slice (some ⟨g, 0, none⟩) 3 cap], .int .i64 0]) ∧ 3 ≤ cap ∧ cap ≤ 9223372036854775807 ∧ w'.heap[g]? = some (.cells (flat gA ++ rest).toArray t (0, 0)) ∧ Below w.heap.size w w' :=
  (new_good 3 1 w (by decide)).mono fun e w' ⟨v, he, ⟨g, cap, rest, t, hv, _, hc, hm, hh⟩, hb⟩ => ⟨g, cap, rest, t, by rw [he, hv]; rfl, hc, hm, hh, hb⟩
theorem gWrite (g cap : Nat) (rest : List Value) (t : TypeId) (w : World) (hT : Txt.Tab w) (hc : 3 ≤ cap) (hm : cap ≤ 9223372036854775807) (hh : w.heap[g]? = some (.cells (flat gA ++ rest).toArray t (0, 0))) :
    Calls Tryd.prog 22 #[.agg #[.int .i64 3, .int .i64 1, .slice (some ⟨g, 0, none⟩) 3 cap], .int .i64 0, .int .i64 0, .string sunx, .agg #[.int .i64 0, .int .i64 0, .int .i64 0]] w fun e w' => ∃ (g cap : Nat) (rest : List Value) (t : TypeId), e = .returned (.tuple #[.agg #[.int .i64 3, .int .i64 1, .slice (some ⟨g, 0, none⟩) 3 cap], .int .i64 0]) ∧ 3 ≤ cap ∧ cap ≤ 9223372036854775807 ∧ w'.heap[g]? = some (.cells (flat gB ++ rest).toArray t (0, 0)) ∧ Below w.heap.size w w' := by
  have := write_good 3 1 g 0 cap 0 0 gA 0 0 0 sunx w hT (cellsAt_flat hh) gA_ok hc hm (by decide) (by decide) (by decide)
  rw [gB_is] at this
  exact this.mono fun e w' ⟨v, he, ⟨g, cap, rest, t, hv, _, hc, hm, hh⟩, hb⟩ => ⟨g, cap, rest, t, by rw [he, hv]; rfl, hc, hm, hh, hb⟩
theorem gFill (g cap : Nat) (rest : List Value) (t : TypeId) (w : World) (hT : Txt.Tab w) (hc : 3 ≤ cap) (hm : cap ≤ 9223372036854775807) (hh : w.heap[g]? = some (.cells (flat gB ++ rest).toArray t (0, 0))) :
    Calls Tryd.prog 18 #[.agg #[.int .i64 3, .int .i64 1, .slice (some ⟨g, 0, none⟩) 3 cap], .agg #[.int .i64 1, .int .i64 0, .int .i64 1, .int .i64 1], .agg #[.int .i32 122, .int .i64 0, .int .i64 0, .int .i64 0]] w fun e w' => ∃ (g cap : Nat) (rest : List Value) (t : TypeId), e = .returned (.tuple #[.agg #[.int .i64 3, .int .i64 1, .slice (some ⟨g, 0, none⟩) 3 cap], .int .i64 0]) ∧ 3 ≤ cap ∧ cap ≤ 9223372036854775807 ∧ w'.heap[g]? = some (.cells (flat gC ++ rest).toArray t (0, 0)) ∧ Below w.heap.size w w' := by
  have := fill_good 3 1 g 0 cap gB 1 0 1 1 122 0 0 0 w hT (cellsAt_flat hh) gB_ok hc hm (by decide +kernel) (by decide)
  rw [gC_is] at this
  exact this.mono fun e w' ⟨v, he, ⟨g, cap, rest, t, hv, _, hc, hm, hh⟩, hb⟩ => ⟨g, cap, rest, t, by rw [he, hv]; rfl, hc, hm, hh, hb⟩
theorem gLines (g cap : Nat) (rest : List Value) (t : TypeId) (w : World) (hT : Txt.Tab w) (hc : 3 ≤ cap) (hm : cap ≤ 9223372036854775807) (hh : w.heap[g]? = some (.cells (flat gC ++ rest).toArray t (0, 0))) :
    Calls Tryd.prog 31 #[.agg #[.int .i64 3, .int .i64 1, .slice (some ⟨g, 0, none⟩) 3 cap]] w fun e w' => ∃ (g : Nat), e = .returned (.tuple #[.slice (some ⟨g, 0, none⟩) 1 1, .int .i64 0]) ∧ w'.cell? ⟨g, 0, none⟩ = some (.string ⟨#[32, 122, 120]⟩) ∧ Below w.heap.size w w' := by
  have := lines_good 3 1 g 0 cap gC w hT (cellsAt_flat hh) gC_ok hc hm
  rw [gL_is] at this
  exact this.mono fun e w' ⟨v, he, ⟨g, t, hv, _, hh⟩, hb⟩ => ⟨g, by rw [he, hv]; rfl, by simp [World.cell?, hh], hb⟩
theorem gEqual (b1 b2 : Nat) (w : World) (h1 : w.cell? ⟨b1, 0, none⟩ = some (.string ⟨#[32, 122, 120]⟩)) (h2 : w.cell? ⟨b2, 0, none⟩ = some (.string ⟨#[32, 122, 120]⟩)) :
    Calls Tryd.prog 32 #[.slice (some ⟨b1, 0, none⟩) 1 1, .slice (some ⟨b2, 0, none⟩) 1 1] w fun e w' => e = .returned (.bool true) ∧ Below w.heap.size w w' := by
  have h := Tryd.slices_Equal_string b1 0 1 1 b2 0 1 1 [⟨#[32, 122, 120]⟩] [⟨#[32, 122, 120]⟩] w (by decide) (by decide) (by decide) (by decide)
    (fun j hj => by obtain rfl : j = 0 := by simp at hj; omega
                    exact h1) (fun j hj => by obtain rfl : j = 0 := by simp at hj; omega
                                              exact h2)
  exact h.mono fun e w' ⟨he, q, hw⟩ => ⟨he, by rw [hw]; exact ⟨rfl, rfl, rfl, Nat.le_refl _, fun _ _ => rfl⟩⟩
end Grd
end Go.Proofs.YtinhmklpnkikgaaDoor

/- The walk of 'gridded'. -/
namespace Go.Proofs.YtinhmklpnkikgaaDoor
open Go.ChangeShapes Go.WideShapes Go.ChangeAt Go.RowKit
namespace Grd
set_option maxHeartbeats 4000000 in
theorem gridded_any (w : World) (hT : Txt.Tab w) : Calls Tryd.prog 10 #[] w fun e w' => e = .returned (.bool true) ∧ Below w.heap.size w w' := by
  have HT : Hid (∀ W, Below w.heap.size w W → Txt.Tab W) := fun W k => Tab.next hT k
  clear hT
  go_enter Tryd.func10, Tryd.ntmps10
  go_wp2_with (first
    | (go_at_call 9; refine (gNew _).mono ?_; rintro e W1 ⟨g1, c1, r1, t1, rfl, hc1, hm1, h1, b1⟩)
    | (refine wpList_store_row rfl 24 (.tmp 1) _ rfl W1.heap.size #[.int .i64 3, .int .i64 1, .slice (some ⟨g1, 0, none⟩) 3 c1] rfl rfl _ _ (heap_alloc_new W1 _) (by kernel_rfl) rfl (one3v _ _ _ _ _) ?_
       obtain ⟨m1, a1⟩ := var_new W1 24 #[.int .i64 0, .int .i64 0, .slice none 0 0] #[.int .i64 3, .int .i64 1, .slice (some ⟨g1, 0, none⟩) 3 c1]
       generalize ((W1.alloc (.cells #[.int .i64 0, .int .i64 0, .slice none 0 0] 24)).setRow W1.heap.size #[.int .i64 3, .int .i64 1, .slice (some ⟨g1, 0, none⟩) 3 c1]) = X1 at *
       have k1 := b1.trans (a1.mono b1.size)
       have h1' := carry h1 a1)
    | (refine wpList_load_row rfl 24 _ rfl W1.heap.size rfl _ _ _ _ m1 Tryd.underlying24 rfl (by kernel_rfl) ?_)
    | (go_at_call 22; refine (gWrite g1 c1 r1 t1 _ (HT.out _ k1) hc1 hm1 h1').mono ?_; rintro e W2 ⟨g2, c2, r2, t2, rfl, hc2, hm2, h2, b2⟩)
    | (refine wpList_store_row rfl 24 (.tmp 3) _ rfl W2.heap.size #[.int .i64 3, .int .i64 1, .slice (some ⟨g2, 0, none⟩) 3 c2] rfl rfl _ _ (heap_alloc_new W2 _) (by kernel_rfl) rfl (one3v _ _ _ _ _) ?_
       obtain ⟨m2, a2⟩ := var_new W2 24 #[.int .i64 0, .int .i64 0, .slice none 0 0] #[.int .i64 3, .int .i64 1, .slice (some ⟨g2, 0, none⟩) 3 c2]
       generalize ((W2.alloc (.cells #[.int .i64 0, .int .i64 0, .slice none 0 0] 24)).setRow W2.heap.size #[.int .i64 3, .int .i64 1, .slice (some ⟨g2, 0, none⟩) 3 c2]) = X2 at *
       have k2 := (k1.trans (b2.mono k1.size)).trans (a2.mono (k1.trans (b2.mono k1.size)).size)
       have h2' := carry h2 a2)
    | (refine wpList_load_row rfl 24 _ rfl W2.heap.size rfl _ _ _ _ m2 Tryd.underlying24 rfl (by kernel_rfl) ?_)
    | (go_at_call 18; refine (gFill g2 c2 r2 t2 _ (HT.out _ k2) hc2 hm2 h2').mono ?_; rintro e W3 ⟨g3, c3, r3, t3, rfl, hc3, hm3, h3, b3⟩)
    | (refine wpList_store_row rfl 24 (.tmp 5) _ rfl W3.heap.size #[.int .i64 3, .int .i64 1, .slice (some ⟨g3, 0, none⟩) 3 c3] rfl rfl _ _ (heap_alloc_new W3 _) (by kernel_rfl) rfl (one3v _ _ _ _ _) ?_
       obtain ⟨m3, a3⟩ := var_new W3 24 #[.int .i64 0, .int .i64 0, .slice none 0 0] #[.int .i64 3, .int .i64 1, .slice (some ⟨g3, 0, none⟩) 3 c3]
       generalize ((W3.alloc (.cells #[.int .i64 0, .int .i64 0, .slice none 0 0] 24)).setRow W3.heap.size #[.int .i64 3, .int .i64 1, .slice (some ⟨g3, 0, none⟩) 3 c3]) = X3 at *
       have k3 := (k2.trans (b3.mono k2.size)).trans (a3.mono (k2.trans (b3.mono k2.size)).size)
       have h3' := carry h3 a3)
    | (refine wpList_load_row rfl 24 _ rfl W3.heap.size rfl _ _ _ _ m3 Tryd.underlying24 rfl (by kernel_rfl) ?_)
    | (go_at_call 31; refine (gLines g3 c3 r3 t3 _ (HT.out _ k3) hc3 hm3 h3').mono ?_; rintro e W4 ⟨g4, rfl, h4, b4⟩; have k4 := k3.trans (b4.mono k3.size))
    | (go_at_call 32; refine (gEqual g4 W4.heap.size _ (cell_keep ((Below.refl _ _).alloc (Nat.le_refl _) _) h4) (by simp)).mono ?_; rintro e W5 ⟨rfl, b5⟩))
  go_ret
  have ka := k4.alloc k4.size (.cells #[.string ⟨#[32, 122, 120]⟩] 9)
  exact ⟨rfl, ka.trans (b5.mono ka.size)⟩
end Grd
end Go.Proofs.YtinhmklpnkikgaaDoor

/- The walk of the law GridFill: what is refused. -/
namespace Go.Proofs.YtinhmklpnkikgaaDoor
open Go.ChangeShapes Go.WideShapes Go.ChangeAt Go.RowKit Go.Maps
namespace Grd
open Txt (wd)
open Sty (isSt)
set_option maxHeartbeats 4000000 in
theorem gridFill_bad1 (a h : Int) (v : Value) (cs : List C) (rx ry rw rh r f bk x : Int) (w : World) (hT : Txt.Tab w) (hS : SliceAt w v cs) (hbig : cs.length * 32 ≤ 140737488351232) (hok : gridErr a h cs ≠ 0) :
    Calls Tryd.prog 4 #[.agg #[.int .i64 a, .int .i64 h, v], .agg #[.int .i64 rx, .int .i64 ry, .int .i64 rw, .int .i64 rh], .agg #[.int .i32 r, .int .i64 f, .int .i64 bk, .int .i64 x]] w fun e w' => e = .returned (.bool true) ∧ Below w.heap.size w w' := by
  have HT : Hid (∀ W, Below w.heap.size w W → Txt.Tab W) := fun W k => Tab.next hT k
  have HS : Hid (∀ W, Below w.heap.size w W → SliceAt W v cs) := fun W k => hS.below k
  obtain ⟨x0, x1, x2, kk, hsz⟩ := alloc3 w (.cells #[.int .i64 a, .int .i64 h, v] 24) (.cells #[.int .i64 rx, .int .i64 ry, .int .i64 rw, .int .i64 rh] 36) (.cells #[.int .i32 r, .int .i64 f, .int .i64 bk, .int .i64 x] 40)
  have HO := own_any a h v cs _ (hS.below kk) (by omega)
  obtain ⟨er, her⟩ : ∃ q, gridErr a h cs = q := ⟨_, rfl⟩
  have HER : Hid (gridErr a h cs = er) := her
  have HFL : Hid (∀ W u, Below w.heap.size w W → SliceAt W u cs → Calls Tryd.prog 18 #[.agg #[.int .i64 a, .int .i64 h, u], .agg #[.int .i64 rx, .int .i64 ry, .int .i64 rw, .int .i64 rh], .agg #[.int .i32 r, .int .i64 f, .int .i64 bk, .int .i64 x]] W fun e w' => e = .returned (.tuple #[.agg #[.int .i64 0, .int .i64 0, .slice none 0 0], .int .i64 er]) ∧ Below W.heap.size W w') := fun W u k su => by
    have := fill_bad1 a h u cs rx ry rw rh r f bk x W (Tab.next hT k) su hok
    rwa [her] at this
  have ne : (er != 0) = true := by rw [← her]; simpa using hok
  have ne2 : (er == 0) = false := by rw [← her]; simpa using hok
  have nee : (er == er) = true := by simp
  clear hok her
  clear hT hS
  generalize hW0 : (((w.alloc (.cells #[.int .i64 a, .int .i64 h, v] 24)).alloc (.cells #[.int .i64 rx, .int .i64 ry, .int .i64 rw, .int .i64 rh] 36)).alloc (.cells #[.int .i32 r, .int .i64 f, .int .i64 bk, .int .i64 x] 40)) = W0 at x0 x1 x2 kk hsz HO
  have HW0 : Hid (_ = W0) := hW0
  have HO' : Hid (Calls Tryd.prog 17 #[.agg #[.int .i64 a, .int .i64 h, v]] W0 fun e w' => ∃ a' c', e = .returned (.agg #[.int .i64 a, .int .i64 h, .slice a' cs.length c']) ∧ SliceAt w' (.slice a' cs.length c') cs ∧ Below W0.heap.size W0 w') := HO
  have HBIG : Hid (cs.length ≤ 4398046511104) := by unfold Hid; omega
  clear HO hW0
  go_enter Tryd.func4, Tryd.ntmps4
  go_wp2_with fail
  rw [HW0.out]
  refine (HO'.out).mono ?_
  rintro e W1 ⟨oa, oc, rfl, so1, b1⟩
  have gs1 := carry x0 b1
  have rs1 := carry x1 b1
  have cs1 := carry x2 b1
  have ks1 := kk.trans (b1.mono kk.size)
  clear x0 x1 x2 kk HW0 HO'
  go_wp2_with (refine wpList_store_row rfl 24 (.tmp 7) _ rfl W1.heap.size #[.int .i64 a, .int .i64 h, .slice oa cs.length oc] rfl rfl _ _ (heap_alloc_new W1 _) (by kernel_rfl) rfl (one3v _ _ _ _ _) ?_
               obtain ⟨mX1, aX1⟩ := var_new W1 24 #[.int .i64 0, .int .i64 0, .slice none 0 0] #[.int .i64 a, .int .i64 h, .slice oa cs.length oc]
               generalize ((W1.alloc (.cells #[.int .i64 0, .int .i64 0, .slice none 0 0] 24)).setRow W1.heap.size #[.int .i64 a, .int .i64 h, .slice oa cs.length oc]) = X1 at *
               have gs2 := carry gs1 aX1
               have rs2 := carry rs1 aX1
               have cs2 := carry cs1 aX1
               have soos2 := so1.below aX1
               have ks2 := ks1.trans (aX1.mono ks1.size)
               obtain ⟨cgX10, cgX11, cgX12, _⟩ := cells3 gs2
               obtain ⟨crX10, crX11, crX12, crX13⟩ := cells4 rs2
               obtain ⟨ccX10, ccX11, ccX12, ccX13⟩ := cells4 cs2
               obtain ⟨coX10, coX11, coX12, _⟩ := cells3 mX1)
  refine (HFL.out _ _ ks2 soos2).mono ?_
  rintro e W2 ⟨rfl, b2⟩
  have gs3 := carry gs2 b2
  have cs3 := carry cs2 b2
  have os3 := carry mX1 b2
  have soos3 := soos2.below b2
  have ks3 := ks2.trans (b2.mono ks2.size)
  clear cgX10 cgX11 cgX12 crX10 crX11 crX12 crX13 ccX10 ccX11 ccX12 ccX13 coX10 coX11 coX12
  go_wp2_with (refine wpList_store_row rfl 24 (.tmp 8) _ rfl W2.heap.size #[.int .i64 0, .int .i64 0, .slice none 0 0] rfl rfl _ _ (heap_alloc_new W2 _) (by kernel_rfl) rfl (one3v _ _ _ _ _) ?_
               obtain ⟨mX2, aX2⟩ := var_new W2 24 #[.int .i64 0, .int .i64 0, .slice none 0 0] #[.int .i64 0, .int .i64 0, .slice none 0 0]
               generalize ((W2.alloc (.cells #[.int .i64 0, .int .i64 0, .slice none 0 0] 24)).setRow W2.heap.size #[.int .i64 0, .int .i64 0, .slice none 0 0]) = X2 at *
               have gs4 := carry gs3 aX2
               have cs4 := carry cs3 aX2
               have os4 := carry os3 aX2
               have soos4 := soos3.below aX2
               have ks4 := ks3.trans (aX2.mono ks3.size)
               obtain ⟨cgX20, cgX21, cgX22, _⟩ := cells3 gs4
               obtain ⟨ccX20, ccX21, ccX22, ccX23⟩ := cells4 cs4
               obtain ⟨coX20, coX21, coX22, _⟩ := cells3 os4
               obtain ⟨czX20, czX21, czX22, _⟩ := cells3 mX2)
  refine (ref_to a h v cs _ HER.out _ (HS.out _ ks4)).mono ?_
  rintro e W3 ⟨rfl, b3⟩
  have gs5 := carry gs4 b3
  have cs5 := carry cs4 b3
  have os5 := carry os4 b3
  have zs5 := carry mX2 b3
  have soos5 := soos4.below b3
  have ks5 := ks4.trans (b3.mono ks4.size)
  clear cgX20 cgX21 cgX22 ccX20 ccX21 ccX22 ccX23 coX20 coX21 coX22 czX20 czX21 czX22
  obtain ⟨cgs50, cgs51, cgs52, _⟩ := cells3 gs5
  obtain ⟨ccs50, ccs51, ccs52, ccs53⟩ := cells4 cs5
  obtain ⟨cos50, cos51, cos52, _⟩ := cells3 os5
  obtain ⟨czs50, czs51, czs52, _⟩ := cells3 zs5
  go_wp2_with fail
  refine (gridded_any _ (HT.out _ ks5)).mono ?_
  rintro e W6 ⟨rfl, b6⟩
  have gs6 := carry gs5 b6
  have os6 := carry os5 b6
  have zs6 := carry zs5 b6
  have soos6 := soos5.below b6
  have ks6 := ks5.trans (b6.mono ks5.size)
  clear cgs50 cgs51 cgs52 ccs50 ccs51 ccs52 ccs53 cos50 cos51 cos52 czs50 czs51 czs52
  obtain ⟨cgs60, cgs61, cgs62, _⟩ := cells3 gs6
  obtain ⟨cos60, cos61, cos62, _⟩ := cells3 os6
  obtain ⟨czs60, czs61, czs62, _⟩ := cells3 zs6
  go_wp2_with fail
  refine (same_any_big a h _ _ cs _ soos6 (HS.out _ ks6) HBIG.out).mono ?_
  rintro e W7 ⟨rfl, b7⟩
  have gs7 := carry gs6 b7
  have os7 := carry os6 b7
  have zs7 := carry zs6 b7
  have soos7 := soos6.below b7
  have ks7 := ks6.trans (b7.mono ks6.size)
  clear cgs60 cgs61 cgs62 cos60 cos61 cos62 czs60 czs61 czs62
  obtain ⟨cgs70, cgs71, cgs72, _⟩ := cells3 gs7
  obtain ⟨cos70, cos71, cos72, _⟩ := cells3 os7
  obtain ⟨czs70, czs71, czs72, _⟩ := cells3 zs7
  go_wp2_with fail
  refine (gridded_any _ (HT.out _ ks7)).mono ?_
  rintro e W8 ⟨rfl, b8⟩
  have gs8 := carry gs7 b8
  have os8 := carry os7 b8
  have zs8 := carry zs7 b8
  have soos8 := soos7.below b8
  have ks8 := ks7.trans (b8.mono ks7.size)
  clear cgs70 cgs71 cgs72 cos70 cos71 cos72 czs70 czs71 czs72
  obtain ⟨cgs80, cgs81, cgs82, _⟩ := cells3 gs8
  obtain ⟨cos80, cos81, cos82, _⟩ := cells3 os8
  obtain ⟨czs80, czs81, czs82, _⟩ := cells3 zs8
  go_wp2_with fail
  refine (same_any_big a h _ _ cs _ soos8 (HS.out _ ks8) HBIG.out).mono ?_
  rintro e W9 ⟨rfl, b9⟩
  have zs9 := carry zs8 b9
  have soos9 := soos8.below b9
  have ks9 := ks8.trans (b9.mono ks8.size)
  clear cgs80 cgs81 cgs82 cos80 cos81 cos82 czs80 czs81 czs82
  obtain ⟨czs90, czs91, czs92, _⟩ := cells3 zs9
  go_wp2_with fail
  refine (noGrid_none _).mono ?_
  rintro e W10 ⟨rfl, b10⟩
  have soos10 := soos9.below b10
  have ks10 := ks9.trans (b10.mono ks9.size)
  clear czs90 czs91 czs92
  go_wp2_with fail
  go_ret
  exact ⟨rfl, ks10⟩
set_option maxHeartbeats 4000000 in
theorem gridFill_bad2 (a h : Int) (v : Value) (cs : List C) (rx ry rw rh r f bk x : Int) (w : World) (hT : Txt.Tab w) (hS : SliceAt w v cs) (hbig : cs.length * 32 ≤ 140737488351232) (hok : gridErr a h cs = 0) (hr : wd r ≠ 1) :
    Calls Tryd.prog 4 #[.agg #[.int .i64 a, .int .i64 h, v], .agg #[.int .i64 rx, .int .i64 ry, .int .i64 rw, .int .i64 rh], .agg #[.int .i32 r, .int .i64 f, .int .i64 bk, .int .i64 x]] w fun e w' => e = .returned (.bool true) ∧ Below w.heap.size w w' := by
  have HT : Hid (∀ W, Below w.heap.size w W → Txt.Tab W) := fun W k => Tab.next hT k
  have HS : Hid (∀ W, Below w.heap.size w W → SliceAt W v cs) := fun W k => hS.below k
  obtain ⟨x0, x1, x2, kk, hsz⟩ := alloc3 w (.cells #[.int .i64 a, .int .i64 h, v] 24) (.cells #[.int .i64 rx, .int .i64 ry, .int .i64 rw, .int .i64 rh] 36) (.cells #[.int .i32 r, .int .i64 f, .int .i64 bk, .int .i64 x] 40)
  have HO := own_any a h v cs _ (hS.below kk) (by omega)
  have HER : Hid (gridErr a h cs = 0) := hok
  have HFL : Hid (∀ W u, Below w.heap.size w W → SliceAt W u cs → Calls Tryd.prog 18 #[.agg #[.int .i64 a, .int .i64 h, u], .agg #[.int .i64 rx, .int .i64 ry, .int .i64 rw, .int .i64 rh], .agg #[.int .i32 r, .int .i64 f, .int .i64 bk, .int .i64 x]] W fun e w' => e = .returned (.tuple #[.agg #[.int .i64 0, .int .i64 0, .slice none 0 0], .int .i64 4]) ∧ Below W.heap.size W w') := fun W u k su => fill_bad2 a h u cs rx ry rw rh r f bk x W (Tab.next hT k) su hok hr
  obtain ⟨wv, hwv⟩ : ∃ q, wd r = q := ⟨_, rfl⟩
  have HWD : Hid (wd r = wv) := hwv
  have nw : (wv != 1) = true := by rw [← hwv]; simpa using hr
  clear hok hr hwv
  clear hT hS
  generalize hW0 : (((w.alloc (.cells #[.int .i64 a, .int .i64 h, v] 24)).alloc (.cells #[.int .i64 rx, .int .i64 ry, .int .i64 rw, .int .i64 rh] 36)).alloc (.cells #[.int .i32 r, .int .i64 f, .int .i64 bk, .int .i64 x] 40)) = W0 at x0 x1 x2 kk hsz HO
  have HW0 : Hid (_ = W0) := hW0
  have HO' : Hid (Calls Tryd.prog 17 #[.agg #[.int .i64 a, .int .i64 h, v]] W0 fun e w' => ∃ a' c', e = .returned (.agg #[.int .i64 a, .int .i64 h, .slice a' cs.length c']) ∧ SliceAt w' (.slice a' cs.length c') cs ∧ Below W0.heap.size W0 w') := HO
  have HBIG : Hid (cs.length ≤ 4398046511104) := by unfold Hid; omega
  clear HO hW0
  go_enter Tryd.func4, Tryd.ntmps4
  go_wp2_with fail
  rw [HW0.out]
  refine (HO'.out).mono ?_
  rintro e W1 ⟨oa, oc, rfl, so1, b1⟩
  have gs1 := carry x0 b1
  have rs1 := carry x1 b1
  have cs1 := carry x2 b1
  have ks1 := kk.trans (b1.mono kk.size)
  clear x0 x1 x2 kk HW0 HO'
  go_wp2_with (refine wpList_store_row rfl 24 (.tmp 7) _ rfl W1.heap.size #[.int .i64 a, .int .i64 h, .slice oa cs.length oc] rfl rfl _ _ (heap_alloc_new W1 _) (by kernel_rfl) rfl (one3v _ _ _ _ _) ?_
               obtain ⟨mX1, aX1⟩ := var_new W1 24 #[.int .i64 0, .int .i64 0, .slice none 0 0] #[.int .i64 a, .int .i64 h, .slice oa cs.length oc]
               generalize ((W1.alloc (.cells #[.int .i64 0, .int .i64 0, .slice none 0 0] 24)).setRow W1.heap.size #[.int .i64 a, .int .i64 h, .slice oa cs.length oc]) = X1 at *
               have gs2 := carry gs1 aX1
               have rs2 := carry rs1 aX1
               have cs2 := carry cs1 aX1
               have soos2 := so1.below aX1
               have ks2 := ks1.trans (aX1.mono ks1.size)
               obtain ⟨cgX10, cgX11, cgX12, _⟩ := cells3 gs2
               obtain ⟨crX10, crX11, crX12, crX13⟩ := cells4 rs2
               obtain ⟨ccX10, ccX11, ccX12, ccX13⟩ := cells4 cs2
               obtain ⟨coX10, coX11, coX12, _⟩ := cells3 mX1)
  refine (HFL.out _ _ ks2 soos2).mono ?_
  rintro e W2 ⟨rfl, b2⟩
  have gs3 := carry gs2 b2
  have cs3 := carry cs2 b2
  have os3 := carry mX1 b2
  have soos3 := soos2.below b2
  have ks3 := ks2.trans (b2.mono ks2.size)
  clear cgX10 cgX11 cgX12 crX10 crX11 crX12 crX13 ccX10 ccX11 ccX12 ccX13 coX10 coX11 coX12
  go_wp2_with (refine wpList_store_row rfl 24 (.tmp 8) _ rfl W2.heap.size #[.int .i64 0, .int .i64 0, .slice none 0 0] rfl rfl _ _ (heap_alloc_new W2 _) (by kernel_rfl) rfl (one3v _ _ _ _ _) ?_
               obtain ⟨mX2, aX2⟩ := var_new W2 24 #[.int .i64 0, .int .i64 0, .slice none 0 0] #[.int .i64 0, .int .i64 0, .slice none 0 0]
               generalize ((W2.alloc (.cells #[.int .i64 0, .int .i64 0, .slice none 0 0] 24)).setRow W2.heap.size #[.int .i64 0, .int .i64 0, .slice none 0 0]) = X2 at *
               have gs4 := carry gs3 aX2
               have cs4 := carry cs3 aX2
               have os4 := carry os3 aX2
               have soos4 := soos3.below aX2
               have ks4 := ks3.trans (aX2.mono ks3.size)
               obtain ⟨cgX20, cgX21, cgX22, _⟩ := cells3 gs4
               obtain ⟨ccX20, ccX21, ccX22, ccX23⟩ := cells4 cs4
               obtain ⟨coX20, coX21, coX22, _⟩ := cells3 os4
               obtain ⟨czX20, czX21, czX22, _⟩ := cells3 mX2)
  refine (ref_to a h v cs _ HER.out _ (HS.out _ ks4)).mono ?_
  rintro e W3 ⟨rfl, b3⟩
  have gs5 := carry gs4 b3
  have cs5 := carry cs4 b3
  have os5 := carry os4 b3
  have zs5 := carry mX2 b3
  have soos5 := soos4.below b3
  have ks5 := ks4.trans (b3.mono ks4.size)
  clear cgX20 cgX21 cgX22 ccX20 ccX21 ccX22 ccX23 coX20 coX21 coX22 czX20 czX21 czX22
  obtain ⟨cgs50, cgs51, cgs52, _⟩ := cells3 gs5
  obtain ⟨ccs50, ccs51, ccs52, ccs53⟩ := cells4 cs5
  obtain ⟨cos50, cos51, cos52, _⟩ := cells3 os5
  obtain ⟨czs50, czs51, czs52, _⟩ := cells3 zs5
  go_wp2_with fail
  refine (widthOf_to r _ _ HWD.out).mono ?_
  rintro e W4 ⟨rfl, b4⟩
  have gs6 := carry gs5 b4
  have cs6 := carry cs5 b4
  have os6 := carry os5 b4
  have zs6 := carry zs5 b4
  have soos6 := soos5.below b4
  have ks6 := ks5.trans (b4.mono ks5.size)
  clear cgs50 cgs51 cgs52 ccs50 ccs51 ccs52 ccs53 cos50 cos51 cos52 czs50 czs51 czs52
  obtain ⟨cgs60, cgs61, cgs62, _⟩ := cells3 gs6
  obtain ⟨ccs60, ccs61, ccs62, ccs63⟩ := cells4 cs6
  obtain ⟨cos60, cos61, cos62, _⟩ := cells3 os6
  obtain ⟨czs60, czs61, czs62, _⟩ := cells3 zs6
  go_wp2_with fail
  refine (gridded_any _ (HT.out _ ks6)).mono ?_
  rintro e W6 ⟨rfl, b6⟩
  have gs7 := carry gs6 b6
  have os7 := carry os6 b6
  have zs7 := carry zs6 b6
  have soos7 := soos6.below b6
  have ks7 := ks6.trans (b6.mono ks6.size)
  clear cgs60 cgs61 cgs62 ccs60 ccs61 ccs62 ccs63 cos60 cos61 cos62 czs60 czs61 czs62
  obtain ⟨cgs70, cgs71, cgs72, _⟩ := cells3 gs7
  obtain ⟨cos70, cos71, cos72, _⟩ := cells3 os7
  obtain ⟨czs70, czs71, czs72, _⟩ := cells3 zs7
  go_wp2_with fail
  refine (same_any_big a h _ _ cs _ soos7 (HS.out _ ks7) HBIG.out).mono ?_
  rintro e W7 ⟨rfl, b7⟩
  have gs8 := carry gs7 b7
  have os8 := carry os7 b7
  have zs8 := carry zs7 b7
  have soos8 := soos7.below b7
  have ks8 := ks7.trans (b7.mono ks7.size)
  clear cgs70 cgs71 cgs72 cos70 cos71 cos72 czs70 czs71 czs72
  obtain ⟨cgs80, cgs81, cgs82, _⟩ := cells3 gs8
  obtain ⟨cos80, cos81, cos82, _⟩ := cells3 os8
  obtain ⟨czs80, czs81, czs82, _⟩ := cells3 zs8
  go_wp2_with fail
  refine (gridded_any _ (HT.out _ ks8)).mono ?_
  rintro e W8 ⟨rfl, b8⟩
  have gs9 := carry gs8 b8
  have os9 := carry os8 b8
  have zs9 := carry zs8 b8
  have soos9 := soos8.below b8
  have ks9 := ks8.trans (b8.mono ks8.size)
  clear cgs80 cgs81 cgs82 cos80 cos81 cos82 czs80 czs81 czs82
  obtain ⟨cgs90, cgs91, cgs92, _⟩ := cells3 gs9
  obtain ⟨cos90, cos91, cos92, _⟩ := cells3 os9
  obtain ⟨czs90, czs91, czs92, _⟩ := cells3 zs9
  go_wp2_with fail
  refine (same_any_big a h _ _ cs _ soos9 (HS.out _ ks9) HBIG.out).mono ?_
  rintro e W9 ⟨rfl, b9⟩
  have zs10 := carry zs9 b9
  have soos10 := soos9.below b9
  have ks10 := ks9.trans (b9.mono ks9.size)
  clear cgs90 cgs91 cgs92 cos90 cos91 cos92 czs90 czs91 czs92
  obtain ⟨czs100, czs101, czs102, _⟩ := cells3 zs10
  go_wp2_with fail
  refine (noGrid_none _).mono ?_
  rintro e W10 ⟨rfl, b10⟩
  have soos11 := soos10.below b10
  have ks11 := ks10.trans (b10.mono ks10.size)
  clear czs100 czs101 czs102
  go_wp2_with fail
  go_ret
  exact ⟨rfl, ks11⟩
set_option maxHeartbeats 4000000 in
theorem gridFill_bad3 (a h : Int) (v : Value) (cs : List C) (rx ry rw rh r f bk x : Int) (w : World) (hT : Txt.Tab w) (hS : SliceAt w v cs) (hbig : cs.length * 32 ≤ 140737488351232) (hok : gridErr a h cs = 0) (hr : wd r = 1) (hs : isSt (f, bk, x) = false) :
    Calls Tryd.prog 4 #[.agg #[.int .i64 a, .int .i64 h, v], .agg #[.int .i64 rx, .int .i64 ry, .int .i64 rw, .int .i64 rh], .agg #[.int .i32 r, .int .i64 f, .int .i64 bk, .int .i64 x]] w fun e w' => e = .returned (.bool true) ∧ Below w.heap.size w w' := by
  have HT : Hid (∀ W, Below w.heap.size w W → Txt.Tab W) := fun W k => Tab.next hT k
  have HS : Hid (∀ W, Below w.heap.size w W → SliceAt W v cs) := fun W k => hS.below k
  obtain ⟨x0, x1, x2, kk, hsz⟩ := alloc3 w (.cells #[.int .i64 a, .int .i64 h, v] 24) (.cells #[.int .i64 rx, .int .i64 ry, .int .i64 rw, .int .i64 rh] 36) (.cells #[.int .i32 r, .int .i64 f, .int .i64 bk, .int .i64 x] 40)
  have HO := own_any a h v cs _ (hS.below kk) (by omega)
  have HER : Hid (gridErr a h cs = 0) := hok
  have HFL : Hid (∀ W u, Below w.heap.size w W → SliceAt W u cs → Calls Tryd.prog 18 #[.agg #[.int .i64 a, .int .i64 h, u], .agg #[.int .i64 rx, .int .i64 ry, .int .i64 rw, .int .i64 rh], .agg #[.int .i32 r, .int .i64 f, .int .i64 bk, .int .i64 x]] W fun e w' => e = .returned (.tuple #[.agg #[.int .i64 0, .int .i64 0, .slice none 0 0], .int .i64 4]) ∧ Below W.heap.size W w') := fun W u k su => fill_bad3 a h u cs rx ry rw rh r f bk x W (Tab.next hT k) su hok hr hs
  have HWD : Hid (wd r = 1) := hr
  have HST : Hid (isSt (f, bk, x) = false) := hs
  clear hok hr hs
  clear hT hS
  generalize hW0 : (((w.alloc (.cells #[.int .i64 a, .int .i64 h, v] 24)).alloc (.cells #[.int .i64 rx, .int .i64 ry, .int .i64 rw, .int .i64 rh] 36)).alloc (.cells #[.int .i32 r, .int .i64 f, .int .i64 bk, .int .i64 x] 40)) = W0 at x0 x1 x2 kk hsz HO
  have HW0 : Hid (_ = W0) := hW0
  have HO' : Hid (Calls Tryd.prog 17 #[.agg #[.int .i64 a, .int .i64 h, v]] W0 fun e w' => ∃ a' c', e = .returned (.agg #[.int .i64 a, .int .i64 h, .slice a' cs.length c']) ∧ SliceAt w' (.slice a' cs.length c') cs ∧ Below W0.heap.size W0 w') := HO
  have HBIG : Hid (cs.length ≤ 4398046511104) := by unfold Hid; omega
  clear HO hW0
  go_enter Tryd.func4, Tryd.ntmps4
  go_wp2_with fail
  rw [HW0.out]
  refine (HO'.out).mono ?_
  rintro e W1 ⟨oa, oc, rfl, so1, b1⟩
  have gs1 := carry x0 b1
  have rs1 := carry x1 b1
  have cs1 := carry x2 b1
  have ks1 := kk.trans (b1.mono kk.size)
  clear x0 x1 x2 kk HW0 HO'
  go_wp2_with (refine wpList_store_row rfl 24 (.tmp 7) _ rfl W1.heap.size #[.int .i64 a, .int .i64 h, .slice oa cs.length oc] rfl rfl _ _ (heap_alloc_new W1 _) (by kernel_rfl) rfl (one3v _ _ _ _ _) ?_
               obtain ⟨mX1, aX1⟩ := var_new W1 24 #[.int .i64 0, .int .i64 0, .slice none 0 0] #[.int .i64 a, .int .i64 h, .slice oa cs.length oc]
               generalize ((W1.alloc (.cells #[.int .i64 0, .int .i64 0, .slice none 0 0] 24)).setRow W1.heap.size #[.int .i64 a, .int .i64 h, .slice oa cs.length oc]) = X1 at *
               have gs2 := carry gs1 aX1
               have rs2 := carry rs1 aX1
               have cs2 := carry cs1 aX1
               have soos2 := so1.below aX1
               have ks2 := ks1.trans (aX1.mono ks1.size)
               obtain ⟨cgX10, cgX11, cgX12, _⟩ := cells3 gs2
               obtain ⟨crX10, crX11, crX12, crX13⟩ := cells4 rs2
               obtain ⟨ccX10, ccX11, ccX12, ccX13⟩ := cells4 cs2
               obtain ⟨coX10, coX11, coX12, _⟩ := cells3 mX1)
  refine (HFL.out _ _ ks2 soos2).mono ?_
  rintro e W2 ⟨rfl, b2⟩
  have gs3 := carry gs2 b2
  have cs3 := carry cs2 b2
  have os3 := carry mX1 b2
  have soos3 := soos2.below b2
  have ks3 := ks2.trans (b2.mono ks2.size)
  clear cgX10 cgX11 cgX12 crX10 crX11 crX12 crX13 ccX10 ccX11 ccX12 ccX13 coX10 coX11 coX12
  go_wp2_with (refine wpList_store_row rfl 24 (.tmp 8) _ rfl W2.heap.size #[.int .i64 0, .int .i64 0, .slice none 0 0] rfl rfl _ _ (heap_alloc_new W2 _) (by kernel_rfl) rfl (one3v _ _ _ _ _) ?_
               obtain ⟨mX2, aX2⟩ := var_new W2 24 #[.int .i64 0, .int .i64 0, .slice none 0 0] #[.int .i64 0, .int .i64 0, .slice none 0 0]
               generalize ((W2.alloc (.cells #[.int .i64 0, .int .i64 0, .slice none 0 0] 24)).setRow W2.heap.size #[.int .i64 0, .int .i64 0, .slice none 0 0]) = X2 at *
               have gs4 := carry gs3 aX2
               have cs4 := carry cs3 aX2
               have os4 := carry os3 aX2
               have soos4 := soos3.below aX2
               have ks4 := ks3.trans (aX2.mono ks3.size)
               obtain ⟨cgX20, cgX21, cgX22, _⟩ := cells3 gs4
               obtain ⟨ccX20, ccX21, ccX22, ccX23⟩ := cells4 cs4
               obtain ⟨coX20, coX21, coX22, _⟩ := cells3 os4
               obtain ⟨czX20, czX21, czX22, _⟩ := cells3 mX2)
  refine (ref_to a h v cs _ HER.out _ (HS.out _ ks4)).mono ?_
  rintro e W3 ⟨rfl, b3⟩
  have gs5 := carry gs4 b3
  have cs5 := carry cs4 b3
  have os5 := carry os4 b3
  have zs5 := carry mX2 b3
  have soos5 := soos4.below b3
  have ks5 := ks4.trans (b3.mono ks4.size)
  clear cgX20 cgX21 cgX22 ccX20 ccX21 ccX22 ccX23 coX20 coX21 coX22 czX20 czX21 czX22
  obtain ⟨cgs50, cgs51, cgs52, _⟩ := cells3 gs5
  obtain ⟨ccs50, ccs51, ccs52, ccs53⟩ := cells4 cs5
  obtain ⟨cos50, cos51, cos52, _⟩ := cells3 os5
  obtain ⟨czs50, czs51, czs52, _⟩ := cells3 zs5
  go_wp2_with fail
  refine (widthOf_to r _ _ HWD.out).mono ?_
  rintro e W4 ⟨rfl, b4⟩
  have gs6 := carry gs5 b4
  have cs6 := carry cs5 b4
  have os6 := carry os5 b4
  have zs6 := carry zs5 b4
  have soos6 := soos5.below b4
  have ks6 := ks5.trans (b4.mono ks5.size)
  clear cgs50 cgs51 cgs52 ccs50 ccs51 ccs52 ccs53 cos50 cos51 cos52 czs50 czs51 czs52
  obtain ⟨cgs60, cgs61, cgs62, _⟩ := cells3 gs6
  obtain ⟨ccs60, ccs61, ccs62, ccs63⟩ := cells4 cs6
  obtain ⟨cos60, cos61, cos62, _⟩ := cells3 os6
  obtain ⟨czs60, czs61, czs62, _⟩ := cells3 zs6
  go_wp2_with fail
  refine (isStyle_to f bk x _ HST.out _).mono ?_
  rintro e W5 ⟨rfl, b5⟩
  have gs7 := carry gs6 b5
  have os7 := carry os6 b5
  have zs7 := carry zs6 b5
  have soos7 := soos6.below b5
  have ks7 := ks6.trans (b5.mono ks6.size)
  clear cgs60 cgs61 cgs62 ccs60 ccs61 ccs62 ccs63 cos60 cos61 cos62 czs60 czs61 czs62
  obtain ⟨cgs70, cgs71, cgs72, _⟩ := cells3 gs7
  obtain ⟨cos70, cos71, cos72, _⟩ := cells3 os7
  obtain ⟨czs70, czs71, czs72, _⟩ := cells3 zs7
  go_wp2_with fail
  refine (gridded_any _ (HT.out _ ks7)).mono ?_
  rintro e W6 ⟨rfl, b6⟩
  have gs8 := carry gs7 b6
  have os8 := carry os7 b6
  have zs8 := carry zs7 b6
  have soos8 := soos7.below b6
  have ks8 := ks7.trans (b6.mono ks7.size)
  clear cgs70 cgs71 cgs72 cos70 cos71 cos72 czs70 czs71 czs72
  obtain ⟨cgs80, cgs81, cgs82, _⟩ := cells3 gs8
  obtain ⟨cos80, cos81, cos82, _⟩ := cells3 os8
  obtain ⟨czs80, czs81, czs82, _⟩ := cells3 zs8
  go_wp2_with fail
  refine (same_any_big a h _ _ cs _ soos8 (HS.out _ ks8) HBIG.out).mono ?_
  rintro e W7 ⟨rfl, b7⟩
  have gs9 := carry gs8 b7
  have os9 := carry os8 b7
  have zs9 := carry zs8 b7
  have soos9 := soos8.below b7
  have ks9 := ks8.trans (b7.mono ks8.size)
  clear cgs80 cgs81 cgs82 cos80 cos81 cos82 czs80 czs81 czs82
  obtain ⟨cgs90, cgs91, cgs92, _⟩ := cells3 gs9
  obtain ⟨cos90, cos91, cos92, _⟩ := cells3 os9
  obtain ⟨czs90, czs91, czs92, _⟩ := cells3 zs9
  go_wp2_with fail
  refine (gridded_any _ (HT.out _ ks9)).mono ?_
  rintro e W8 ⟨rfl, b8⟩
  have gs10 := carry gs9 b8
  have os10 := carry os9 b8
  have zs10 := carry zs9 b8
  have soos10 := soos9.below b8
  have ks10 := ks9.trans (b8.mono ks9.size)
  clear cgs90 cgs91 cgs92 cos90 cos91 cos92 czs90 czs91 czs92
  obtain ⟨cgs100, cgs101, cgs102, _⟩ := cells3 gs10
  obtain ⟨cos100, cos101, cos102, _⟩ := cells3 os10
  obtain ⟨czs100, czs101, czs102, _⟩ := cells3 zs10
  go_wp2_with fail
  refine (same_any_big a h _ _ cs _ soos10 (HS.out _ ks10) HBIG.out).mono ?_
  rintro e W9 ⟨rfl, b9⟩
  have zs11 := carry zs10 b9
  have soos11 := soos10.below b9
  have ks11 := ks10.trans (b9.mono ks10.size)
  clear cgs100 cgs101 cgs102 cos100 cos101 cos102 czs100 czs101 czs102
  obtain ⟨czs110, czs111, czs112, _⟩ := cells3 zs11
  go_wp2_with fail
  refine (noGrid_none _).mono ?_
  rintro e W10 ⟨rfl, b10⟩
  have soos12 := soos11.below b10
  have ks12 := ks11.trans (b10.mono ks11.size)
  clear czs110 czs111 czs112
  go_wp2_with fail
  go_ret
  exact ⟨rfl, ks12⟩
end Grd
end Go.Proofs.YtinhmklpnkikgaaDoor

/- The walk of the law GridCheck. -/
namespace Go.Proofs.YtinhmklpnkikgaaDoor
open Go.ChangeShapes Go.WideShapes Go.ChangeAt Go.RowKit
namespace Grd
theorem next3 {X W W' : World} {m : Nat} {a0 a1 a2 : Value} (hb : Below W.heap.size W W')
    (h : Below X.heap.size X W ∧ W.cell? ⟨m, 0, none⟩ = some a0 ∧ W.cell? ⟨m, 1, none⟩ = some a1 ∧ W.cell? ⟨m, 2, none⟩ = some a2) :
    Below X.heap.size X W' ∧ W'.cell? ⟨m, 0, none⟩ = some a0 ∧ W'.cell? ⟨m, 1, none⟩ = some a1 ∧ W'.cell? ⟨m, 2, none⟩ = some a2 := by
  obtain ⟨k0, d0, d1, d2⟩ := h
  exact ⟨k0.trans (hb.mono k0.size), cell_keep hb d0, cell_keep hb d1, cell_keep hb d2⟩
theorem start3 {X : World} {m : Nat} {a0 a1 a2 : Value} (d0 : X.cell? ⟨m, 0, none⟩ = some a0) (d1 : X.cell? ⟨m, 1, none⟩ = some a1) (d2 : X.cell? ⟨m, 2, none⟩ = some a2) (W : World) (hW : W = X.drew) :
    Below X.heap.size X W ∧ W.cell? ⟨m, 0, none⟩ = some a0 ∧ W.cell? ⟨m, 1, none⟩ = some a1 ∧ W.cell? ⟨m, 2, none⟩ = some a2 := by
  subst hW
  exact ⟨(Below.refl _ _).drew, by rw [World.cell?_drew]; exact d0, by rw [World.cell?_drew]; exact d1, by rw [World.cell?_drew]; exact d2⟩
set_option maxHeartbeats 4000000 in
theorem gridCheck_bad (a h pw ph : Int) (v : Value) (cs : List C) (w : World) (hT : Txt.Tab w) (hS : SliceAt w v cs) (hs : isSize pw ph = false) :
    Calls Tryd.prog 3 #[.agg #[.int .i64 a, .int .i64 h, v], .int .i64 pw, .int .i64 ph] w fun e w' => e = .returned (.bool true) ∧ Below w.heap.size w w' := by
  have HT : Hid (∀ W, Below w.heap.size w W → Txt.Tab W) := fun W k => Tab.next hT k
  have HS : Hid (∀ W, Below w.heap.size w W → SliceAt W v cs) := fun W k => hS.below k
  have H : Hid (isSize pw ph = false) := hs
  have kk : Below w.heap.size w (w.alloc (.cells #[.int .i64 a, .int .i64 h, v] 24)) := (Below.refl _ _).alloc (Nat.le_refl _) _
  have x0 := heap_alloc_new w (.cells #[.int .i64 a, .int .i64 h, v] 24)
  clear hT hS hs
  go_enter Tryd.func3, Tryd.ntmps3
  go_wp2_with (first
    | (go_at_call 9; refine (new_bad pw ph _ H.out).mono ?_; rintro e W1 ⟨rfl, b1⟩; have y0 := carry x0 b1; have k1 := kk.trans (b1.mono kk.size))
    | (refine wpList_store_row rfl 24 (.tmp 7) _ rfl W1.heap.size #[.int .i64 0, .int .i64 0, .slice none 0 0] rfl rfl _ _ (heap_alloc_new W1 _) (by kernel_rfl) rfl (one3v _ _ _ _ _) ?_
       obtain ⟨m1, a1⟩ := var_new W1 24 #[.int .i64 0, .int .i64 0, .slice none 0 0] #[.int .i64 0, .int .i64 0, .slice none 0 0]
       generalize ((W1.alloc (.cells #[.int .i64 0, .int .i64 0, .slice none 0 0] 24)).setRow W1.heap.size #[.int .i64 0, .int .i64 0, .slice none 0 0]) = X at *
       have kX := k1.trans (a1.mono k1.size)
       have z0 := carry y0 a1))
  obtain ⟨e0, e1, e2, _⟩ := cells3 z0
  have y0 : ∀ d os, (Sort.grow (redrawn X d) os).cell? ⟨w.heap.size, 0, none⟩ = some (.int .i64 a) := fun d os => cell_regrown e0 d os
  have y1 : ∀ d os, (Sort.grow (redrawn X d) os).cell? ⟨w.heap.size, 1, none⟩ = some (.int .i64 h) := fun d os => cell_regrown e1 d os
  have y2 : ∀ d os, (Sort.grow (redrawn X d) os).cell? ⟨w.heap.size, 2, none⟩ = some v := fun d os => cell_regrown e2 d os
  have KB : ∀ d os, Below w.heap.size w (Sort.grow (redrawn X d) os) := fun d os => kX.trans ((below_regrown X d os).mono kX.size)
  obtain ⟨er, her⟩ : ∃ q, gridErr a h cs = q := ⟨_, rfl⟩
  have K1 : Hid (∀ d os, Calls Tryd.prog 10 #[] (Sort.grow (redrawn X d) os) fun e w'' => e = .returned (.bool true) ∧ ∃ p : Regrown, w'' = Sort.grow (redrawn X p.d) p.os) := fun d os => Calls.regrown_of (gridded_any _ (HT.out _ (KB d os)))
  have K2 : Hid (∀ d os, Calls Tryd.prog 11 #[.agg #[.int .i64 a, .int .i64 h, v]] (Sort.grow (redrawn X d) os) fun e w'' => e = .returned (.int .i64 er) ∧ ∃ p : Regrown, w'' = Sort.grow (redrawn X p.d) p.os) := fun d os => Calls.regrown_of (by have := check_any a h v cs _ (HT.out _ (KB d os)) (HS.out _ (KB d os)); rwa [her] at this)
  have K3 : Hid (∀ d os, Calls Tryd.prog 12 #[.agg #[.int .i64 a, .int .i64 h, v]] (Sort.grow (redrawn X d) os) fun e w'' => e = .returned (.int .i64 er) ∧ ∃ p : Regrown, w'' = Sort.grow (redrawn X p.d) p.os) := fun d os => Calls.regrown_of (by have := ref_any a h v cs _ (HS.out _ (KB d os)); rwa [her] at this)
  have ne : (er != er) = false := by simp
  clear her KB
  refine wp_region_quiet_below (by kernel_rfl) (by kernel_rfl) ?_
  repeat (first | go_big_quiet_skip | quiet_step (first | (go_at_call 10; exact K1.out _ _) | (go_at_call 11; exact K2.out _ _) | (go_at_call 12; exact K3.out _ _)))
  refine wpQuiet_nil ?_
  intro _ hw'
  obtain ⟨⟨dq, os⟩, hw''⟩ := hw'
  subst hw''
  have kR := below_regrown X dq os
  have k3 : Below w.heap.size w (Sort.grow (redrawn X dq) os) := kX.trans (kR.mono kX.size)
  have mR := carry m1 kR
  generalize Sort.grow (redrawn X dq) os = W3 at *
  clear K1 K2 K3 y0 y1 y2
  obtain ⟨f0, f1, f2, _⟩ := cells3 mR
  have HZ : Hid (Calls Tryd.prog 13 #[.int .i64 pw, .int .i64 ph] W3 fun e w' => e = .returned (.bool false) ∧ W3 = w') := by
    have := size_any pw ph W3
    rwa [H.out] at this
  go_wp2_with (first
    | (go_at_call 13; refine HZ.out.mono ?_; rintro e W4 ⟨rfl, rfl⟩)
    | (go_at_call 14; refine (noGrid_none _).mono ?_; rintro e W5 ⟨rfl, b5⟩))
  go_ret
  exact ⟨rfl, k3.trans (b5.mono k3.size)⟩
set_option maxHeartbeats 4000000 in
theorem gridCheck_good (a h pw ph : Int) (v : Value) (cs : List C) (w : World) (hT : Txt.Tab w) (hS : SliceAt w v cs) (hs : isSize pw ph = true) :
    Calls Tryd.prog 3 #[.agg #[.int .i64 a, .int .i64 h, v], .int .i64 pw, .int .i64 ph] w fun e w' => e = .returned (.bool true) ∧ Below w.heap.size w w' := by
  have HT : Hid (∀ W, Below w.heap.size w W → Txt.Tab W) := fun W k => Tab.next hT k
  have HS : Hid (∀ W, Below w.heap.size w W → SliceAt W v cs) := fun W k => hS.below k
  have H : Hid (isSize pw ph = true) := hs
  have ⟨_, p1, _⟩ := prod_in pw ph hs
  have HLE : Hid ((List.replicate (pw * ph).toNat blank).length ≤ 1000000) := by unfold Hid; rw [List.length_replicate]; omega
  have kk : Below w.heap.size w (w.alloc (.cells #[.int .i64 a, .int .i64 h, v] 24)) := (Below.refl _ _).alloc (Nat.le_refl _) _
  have x0 := heap_alloc_new w (.cells #[.int .i64 a, .int .i64 h, v] 24)
  clear hT hS hs p1
  have KN : Hid (∀ W, Calls Tryd.prog 9 #[.int .i64 pw, .int .i64 ph] W fun e w' => ∃ v, e = .returned (.tuple #[.agg #[.int .i64 pw, .int .i64 ph, v], .int .i64 0]) ∧ OwnG w' W.heap.size v (List.replicate (pw * ph).toNat blank) ∧ Below W.heap.size W w') := fun W => new_good pw ph W H.out
  have KR : Hid (∀ W, Calls Tryd.prog 16 #[.int .i64 pw, .int .i64 ph] W fun e w' => ∃ v, e = .returned (.agg #[.int .i64 pw, .int .i64 ph, v]) ∧ OwnG w' W.heap.size v (List.replicate (pw * ph).toNat blank) ∧ Below W.heap.size W w') := fun W => newGrid_any pw ph W H.out
  generalize List.replicate (pw * ph).toNat blank = bl at HLE KN KR
  go_enter Tryd.func3, Tryd.ntmps3
  go_wp2_with (first
    | (go_at_call 9; refine (KN.out _).mono ?_; rintro e W1 ⟨_, rfl, ⟨g1, c1, r1, t1, rfl, hg1, hc1, hm1, h1⟩, b1⟩; have y0 := carry x0 b1; have k1 := kk.trans (b1.mono kk.size))
    | (refine wpList_store_row rfl 24 (.tmp 7) _ rfl W1.heap.size #[.int .i64 pw, .int .i64 ph, .slice (some ⟨g1, 0, none⟩) bl.length c1] rfl rfl _ _ (heap_alloc_new W1 _) (by kernel_rfl) rfl (one3v _ _ _ _ _) ?_
       obtain ⟨m1, a1⟩ := var_new W1 24 #[.int .i64 0, .int .i64 0, .slice none 0 0] #[.int .i64 pw, .int .i64 ph, .slice (some ⟨g1, 0, none⟩) bl.length c1]
       generalize ((W1.alloc (.cells #[.int .i64 0, .int .i64 0, .slice none 0 0] 24)).setRow W1.heap.size #[.int .i64 pw, .int .i64 ph, .slice (some ⟨g1, 0, none⟩) bl.length c1]) = X at *
       have kX := k1.trans (a1.mono k1.size)
       have z0 := carry y0 a1))
  obtain ⟨e0, e1, e2, _⟩ := cells3 z0
  have HSX : Hid (SliceAt X (.slice (some ⟨g1, 0, none⟩) bl.length c1) bl) := (OwnG.slice (base := 0) ⟨g1, c1, r1, t1, rfl, by omega, hc1, hm1, h1⟩).below a1
  clear y0
  have y0 : ∀ d os, (Sort.grow (redrawn X d) os).cell? ⟨w.heap.size, 0, none⟩ = some (.int .i64 a) := fun d os => cell_regrown e0 d os
  have y1 : ∀ d os, (Sort.grow (redrawn X d) os).cell? ⟨w.heap.size, 1, none⟩ = some (.int .i64 h) := fun d os => cell_regrown e1 d os
  have y2 : ∀ d os, (Sort.grow (redrawn X d) os).cell? ⟨w.heap.size, 2, none⟩ = some v := fun d os => cell_regrown e2 d os
  have KB : ∀ d os, Below w.heap.size w (Sort.grow (redrawn X d) os) := fun d os => kX.trans ((below_regrown X d os).mono kX.size)
  obtain ⟨er, her⟩ : ∃ q, gridErr a h cs = q := ⟨_, rfl⟩
  have K1 : Hid (∀ d os, Calls Tryd.prog 10 #[] (Sort.grow (redrawn X d) os) fun e w'' => e = .returned (.bool true) ∧ ∃ p : Regrown, w'' = Sort.grow (redrawn X p.d) p.os) := fun d os => Calls.regrown_of (gridded_any _ (HT.out _ (KB d os)))
  have K2 : Hid (∀ d os, Calls Tryd.prog 11 #[.agg #[.int .i64 a, .int .i64 h, v]] (Sort.grow (redrawn X d) os) fun e w'' => e = .returned (.int .i64 er) ∧ ∃ p : Regrown, w'' = Sort.grow (redrawn X p.d) p.os) := fun d os => Calls.regrown_of (by have := check_any a h v cs _ (HT.out _ (KB d os)) (HS.out _ (KB d os)); rwa [her] at this)
  have K3 : Hid (∀ d os, Calls Tryd.prog 12 #[.agg #[.int .i64 a, .int .i64 h, v]] (Sort.grow (redrawn X d) os) fun e w'' => e = .returned (.int .i64 er) ∧ ∃ p : Regrown, w'' = Sort.grow (redrawn X p.d) p.os) := fun d os => Calls.regrown_of (by have := ref_any a h v cs _ (HS.out _ (KB d os)); rwa [her] at this)
  have ne : (er != er) = false := by simp
  clear her KB
  refine wp_region_quiet_below (by kernel_rfl) (by kernel_rfl) ?_
  repeat (first | go_big_quiet_skip | quiet_step (first | (go_at_call 10; exact K1.out _ _) | (go_at_call 11; exact K2.out _ _) | (go_at_call 12; exact K3.out _ _)))
  refine wpQuiet_nil ?_
  intro _ hw'
  obtain ⟨⟨dq, os⟩, hw''⟩ := hw'
  subst hw''
  have kR := below_regrown X dq os
  have k3 : Below w.heap.size w (Sort.grow (redrawn X dq) os) := kX.trans (kR.mono kX.size)
  have mR := carry m1 kR
  have HSR := HSX.out.below kR
  generalize Sort.grow (redrawn X dq) os = W3 at *
  clear K1 K2 K3 y0 y1 y2 HSX h1 m1 z0 e0 e1 e2 a1 b1
  obtain ⟨f0, f1, f2, _⟩ := cells3 mR
  have HSW : Hid (SliceAt W3 (.slice (some ⟨g1, 0, none⟩) bl.length c1) bl) := HSR
  clear HSR
  generalize W1.heap.size = M at *
  have HZ : Hid (Calls Tryd.prog 13 #[.int .i64 pw, .int .i64 ph] W3 fun e w' => e = .returned (.bool true) ∧ W3 = w') := by
    have := size_any pw ph W3
    rwa [H.out] at this
  go_wp2_with (go_at_call 13; refine HZ.out.mono ?_; rintro e W4 ⟨rfl, rfl⟩)
  have kd : Below W3.heap.size W3 W3.drew := (Below.refl _ _).drew
  go_region_held3 (fun W => Below W3.heap.size W3 W ∧ W.cell? ⟨M, 0, none⟩ = some (.int .i64 pw) ∧ W.cell? ⟨M, 1, none⟩ = some (.int .i64 ph) ∧ W.cell? ⟨M, 2, none⟩ = some (.slice (some ⟨g1, 0, none⟩) bl.length c1))
    (first
      | (exact next3 b6 (by assumption))
      | (exact next3 b5 (by assumption))
      | (exact start3 f0 f1 f2 _ rfl))
    (first
      | (go_at_call 16; refine (KR.out _).mono ?_; rintro e W5 ⟨v5, rfl, o5, b5⟩; have k5 := kd.trans (b5.mono kd.size))
      | (go_at_call 15; refine (same_any pw ph _ v5 bl _ (HSW.out.below k5) o5.slice HLE.out).mono ?_; rintro e W6 ⟨rfl, b6⟩; have k6 := k5.trans (b6.mono k5.size)))
  go_wp2_with fail
  go_ret
  exact ⟨rfl, k3.trans (k6.mono k3.size)⟩
theorem gridCheck_walk (a h pw ph : Int) (v : Value) (cs : List C) (w : World) (hT : Txt.Tab w) (hS : SliceAt w v cs) :
    Calls Tryd.prog 3 #[.agg #[.int .i64 a, .int .i64 h, v], .int .i64 pw, .int .i64 ph] w fun e w' => e = .returned (.bool true) ∧ Below w.heap.size w w' := by
  cases hs : isSize pw ph with
  | false => exact gridCheck_bad a h pw ph v cs w hT hS hs
  | true => exact gridCheck_good a h pw ph v cs w hT hS hs
end Grd
end Go.Proofs.YtinhmklpnkikgaaDoor
